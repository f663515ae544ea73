/- What spec.AppendLog and impl.AppendLog return. -/
import Derived.Test.YtnfkfhpmhhmbaaaPa30
import Derived.Test.YtnfkfhpmhhmbaaaPa18
namespace Go.Proofs.Ytnfkfhpmhhmbaaa
open Go.RowKit
open DM
attribute [local go_sem ↓] Go.wp_at_zero Go.wp_at_succ

set_option maxRecDepth 100000 in
set_option maxHeartbeats 8000000 in
theorem sapp38 (ss : List ByteArray) (ps : List Wr) (t : ByteArray) (a1 a2 : Option Addr) (c1 c2 B0 : Nat) (hn : ss.length ≤ 1048576) (hm : ps.length ≤ 1048576) (hs : ∀ s ∈ ss, s.size ≤ 1048576) (hp : ∀ p ∈ ps, p.2.size ≤ 1048576) (htz : t.size ≤ 1048576) (w : World) (hd : DOwn w B0 a1 c1 a2 c2 ss ps) :
    Calls Try.prog 22 #[.agg #[.slice a1 ss.length c1, .slice a2 ps.length c2], .string t] w fun e w' => ∃ b1 d1 b2 d2, e = .returned (.tuple #[.agg #[.slice b1 (prS ss ps (act ss ps) t).length d1, .slice b2 ps.length d2], .bool (prB ss ps (act ss ps) t)]) ∧ DOwn w' w.heap.size b1 d1 b2 d2 (prS ss ps (act ss ps) t) ps ∧ Below w.heap.size w w' := by
  have HAC : Hid (∀ W : World, Below w.heap.size w W → Calls Try.prog 24 #[.agg #[.slice a1 ss.length c1, .slice a2 ps.length c2]] W fun e w' => e = .returned (.int .i64 (act ss ps)) ∧ Below W.heap.size W w') := fun W h => sac25 ss ps a1 a2 c1 c2 (by omega) (by omega) W (hd.s.srow.below h) (hd.p.prow.below h)
  have HPR : Hid (∀ W : World, Below w.heap.size w W → Calls Try.prog 51 #[.agg #[.slice a1 ss.length c1, .slice a2 ps.length c2], .int .i64 (act ss ps), .string t] W fun e w' => ∃ b1 d1 b2 d2, e = .returned (.tuple #[.agg #[.slice b1 (prS ss ps (act ss ps) t).length d1, .slice b2 ps.length d2], .bool (prB ss ps (act ss ps) t)]) ∧ DOwn w' W.heap.size b1 d1 b2 d2 (prS ss ps (act ss ps) t) ps ∧ Below W.heap.size W w') := fun W h => spr36 ss ps (act ss ps) t a1 a2 c1 c2 B0 hn hm hs hp htz W (hd.below h)
  have b0 : Hid (Below w.heap.size w ((w.alloc (.cells #[.slice a1 ss.length c1, .slice a2 ps.length c2] 30)).alloc (.cells #[.slice none 0 0, .slice none 0 0] 30))) := ((belowRefl w).alloc (Nat.le_refl _) _).alloc (by simp) _
  have X0 : Hid (Bx ((w.alloc (.cells #[.slice a1 ss.length c1, .slice a2 ps.length c2] 30)).alloc (.cells #[.slice none 0 0, .slice none 0 0] 30)) w.heap.size (.slice a1 ss.length c1) (.slice a2 ps.length c2)) := (Bx.new w _ _ _).alloc _
  have X1 : Hid (Bx ((w.alloc (.cells #[.slice a1 ss.length c1, .slice a2 ps.length c2] 30)).alloc (.cells #[.slice none 0 0, .slice none 0 0] 30)) (w.heap.size + 1) (.slice none 0 0) (.slice none 0 0)) := by
    have h := Bx.new (w.alloc (.cells #[.slice a1 ss.length c1, .slice a2 ps.length c2] 30)) (.slice none 0 0) (.slice none 0 0) 30
    rw [World.size_alloc] at h
    exact h
  have hne : w.heap.size + 1 ≠ w.heap.size := by omega
  clear hs hp hd
  generalize prS ss ps (act ss ps) t = RS at *
  generalize prB ss ps (act ss ps) t = RB at *
  generalize act ss ps = ac at *
  generalize hW0 : ((w.alloc (.cells #[.slice a1 ss.length c1, .slice a2 ps.length c2] 30)).alloc (.cells #[.slice none 0 0, .slice none 0 0] 30)) = W0 at *
  have hz0 : w.heap.size + 1 + 1 ≤ W0.heap.size := by rw [← hW0]; simp
  have g0 := X0.out.c0
  have g1 := X0.out.c1
  go_enter Try.func22, Try.ntmps22
  go_wp2
  clear hW0
  go_region_held3 (fun w' => w'.cell? ⟨w.heap.size, 0, none⟩ = some (.slice a1 ss.length c1) ∧ w'.cell? ⟨w.heap.size, 1, none⟩ = some (.slice a2 ps.length c2))
    (first | exact ⟨g0, g1⟩ | exact t5.out | exact t8.out | exact ⟨((Y08.out.setO hne _).setO hne _).c0, ((Y08.out.setO hne _).setO hne _).c1⟩)
    ((first
      | (go_at_call 24
         refine (HAC.out _ b0.out.drew).mono ?_
         rintro e w5 ⟨rfl, hb5⟩
         have Y05 : Hid (Bx w5 w.heap.size (.slice a1 ss.length c1) (.slice a2 ps.length c2)) := X0.out.keep (undrew hb5) X0.out.lt
         have Y15 : Hid (Bx w5 (w.heap.size + 1) (.slice none 0 0) (.slice none 0 0)) := X1.out.keep (undrew hb5) X1.out.lt
         have t5 : Hid (w5.cell? ⟨w.heap.size, 0, none⟩ = some (.slice a1 ss.length c1) ∧ w5.cell? ⟨w.heap.size, 1, none⟩ = some (.slice a2 ps.length c2)) := ⟨Y05.out.c0, Y05.out.c1⟩
         have HB5 : Hid (Below w.heap.size w w5) := b0.out.trans ((undrew hb5).mono b0.out.size))
      | (go_at_call 51
         refine (HPR.out _ HB5.out).mono ?_
         rintro e w8 ⟨y1, y2, y3, y4, rfl, hd8, hb8⟩
         have Y08 : Hid (Bx w8 w.heap.size (.slice a1 ss.length c1) (.slice a2 ps.length c2)) := Y05.out.keep hb8 Y05.out.lt
         have Y18 : Hid (Bx w8 (w.heap.size + 1) (.slice none 0 0) (.slice none 0 0)) := Y15.out.keep hb8 Y15.out.lt
         have t8 : Hid (w8.cell? ⟨w.heap.size, 0, none⟩ = some (.slice a1 ss.length c1) ∧ w8.cell? ⟨w.heap.size, 1, none⟩ = some (.slice a2 ps.length c2)) := ⟨Y08.out.c0, Y08.out.c1⟩
         have HB8 : Hid (Below w.heap.size w w8) := HB5.out.trans (hb8.mono HB5.out.size)
         have HD8 : Hid (DOwn w8 (w.heap.size + 1 + 1) y1 y2 y3 y4 RS ps) := hd8.mono Y15.out.lt
         have r0 := Y18.out.c0
         have r1 := Y18.out.c1
         have rf := Y18.out.fz)))
  all_goals
    have V9 : Hid (Bx ((w8.setCell ⟨w.heap.size + 1, 0, none⟩ (.slice y1 RS.length y2)).setCell ⟨w.heap.size + 1, 1, none⟩ (.slice y3 ps.length y4)) (w.heap.size + 1) (.slice y1 RS.length y2) (.slice y3 ps.length y4)) := (Y18.out.set0 _).set1 _
    have q0 := V9.out.c0
    have q1 := V9.out.c1
    go_wp2
    refine bodyPost_ret (v := .tuple #[.agg #[.slice y1 RS.length y2, .slice y3 ps.length y4], .bool RB]) (by simp [results, Try.results22, go_sem, q0, q1]) rfl ⟨y1, y2, y3, y4, rfl, ⟨?_, ?_⟩, ?_⟩
    · exact ((HD8.out.s.set (by show w.heap.size + 1 < _; omega) _).set (by show w.heap.size + 1 < _; omega) _).mono (by omega)
    · exact ((HD8.out.p.set (by show w.heap.size + 1 < _; omega) _).set (by show w.heap.size + 1 < _; omega) _).mono (by omega)
    · exact (HB8.out.setCell (by show _ ≤ w.heap.size + 1; omega) _).setCell (by show _ ≤ w.heap.size + 1; omega) _

set_option maxRecDepth 100000 in
set_option maxHeartbeats 8000000 in
theorem iapp39 (ss : List ByteArray) (ps : List Wr) (t : ByteArray) (a1 a2 : Option Addr) (c1 c2 : Nat) (hn : ss.length ≤ 1048576) (hm : ps.length ≤ 1048576) (hs : ∀ s ∈ ss, s.size ≤ 1048576) (hp : ∀ p ∈ ps, p.2.size ≤ 1048576) (htz : t.size ≤ 1048576) (w : World) (hsr : SRow w a1 ss) (hpr : PRow w a2 ps) :
    Calls Try.prog 31 #[.agg #[.slice a1 ss.length c1, .slice a2 ps.length c2], .string t] w fun e w' => ∃ b1 d1 b2 d2, e = .returned (.tuple #[.agg #[.slice b1 (prS ss ps (act ss ps) t).length d1, .slice b2 ps.length d2], .bool (prB ss ps (act ss ps) t)]) ∧ DOwn w' w.heap.size b1 d1 b2 d2 (prS ss ps (act ss ps) t) ps ∧ Below w.heap.size w w' := by
  have HAC : Hid (∀ W : World, Below w.heap.size w W → Calls Try.prog 32 #[.agg #[.slice a1 ss.length c1, .slice a2 ps.length c2]] W fun e w' => e = .returned (.int .i64 (act ss ps)) ∧ Below W.heap.size W w') := fun W h => iac26 ss ps a1 a2 c1 c2 (by omega) (by omega) (fun s h => Nat.le_trans (hs s h) (by omega)) (fun p h => Nat.le_trans (hp p h) (by omega)) W (hsr.below h) (hpr.below h)
  have HPR : Hid (∀ W : World, Below w.heap.size w W → Calls Try.prog 61 #[.agg #[.slice a1 ss.length c1, .slice a2 ps.length c2], .int .i64 (act ss ps), .string t] W fun e w' => ∃ b1 d1 b2 d2, e = .returned (.tuple #[.agg #[.slice b1 (prS ss ps (act ss ps) t).length d1, .slice b2 ps.length d2], .bool (prB ss ps (act ss ps) t)]) ∧ DOwn w' W.heap.size b1 d1 b2 d2 (prS ss ps (act ss ps) t) ps ∧ Below W.heap.size W w') := fun W h => ipr37 ss ps (act ss ps) t a1 a2 c1 c2 hn hm hs hp htz W (hsr.below h) (hpr.below h)
  have b0 : Hid (Below w.heap.size w ((w.alloc (.cells #[.slice a1 ss.length c1, .slice a2 ps.length c2] 30)).alloc (.cells #[.slice none 0 0, .slice none 0 0] 30))) := ((belowRefl w).alloc (Nat.le_refl _) _).alloc (by simp) _
  have X0 : Hid (Bx ((w.alloc (.cells #[.slice a1 ss.length c1, .slice a2 ps.length c2] 30)).alloc (.cells #[.slice none 0 0, .slice none 0 0] 30)) w.heap.size (.slice a1 ss.length c1) (.slice a2 ps.length c2)) := (Bx.new w _ _ _).alloc _
  have X1 : Hid (Bx ((w.alloc (.cells #[.slice a1 ss.length c1, .slice a2 ps.length c2] 30)).alloc (.cells #[.slice none 0 0, .slice none 0 0] 30)) (w.heap.size + 1) (.slice none 0 0) (.slice none 0 0)) := by
    have h := Bx.new (w.alloc (.cells #[.slice a1 ss.length c1, .slice a2 ps.length c2] 30)) (.slice none 0 0) (.slice none 0 0) 30
    rw [World.size_alloc] at h
    exact h
  have hne : w.heap.size + 1 ≠ w.heap.size := by omega
  clear hs hp hsr hpr
  generalize prS ss ps (act ss ps) t = RS at *
  generalize prB ss ps (act ss ps) t = RB at *
  generalize act ss ps = ac at *
  generalize hW0 : ((w.alloc (.cells #[.slice a1 ss.length c1, .slice a2 ps.length c2] 30)).alloc (.cells #[.slice none 0 0, .slice none 0 0] 30)) = W0 at *
  have hz0 : w.heap.size + 1 + 1 ≤ W0.heap.size := by rw [← hW0]; simp
  have g0 := X0.out.c0
  have g1 := X0.out.c1
  go_enter Try.func31, Try.ntmps31
  go_wp2
  clear hW0
  go_region_held3 (fun w' => w'.cell? ⟨w.heap.size, 0, none⟩ = some (.slice a1 ss.length c1) ∧ w'.cell? ⟨w.heap.size, 1, none⟩ = some (.slice a2 ps.length c2))
    (first | exact ⟨g0, g1⟩ | exact t5.out | exact t8.out | exact ⟨((Y08.out.setO hne _).setO hne _).c0, ((Y08.out.setO hne _).setO hne _).c1⟩)
    ((first
      | (go_at_call 32
         refine (HAC.out _ b0.out.drew).mono ?_
         rintro e w5 ⟨rfl, hb5⟩
         have Y05 : Hid (Bx w5 w.heap.size (.slice a1 ss.length c1) (.slice a2 ps.length c2)) := X0.out.keep (undrew hb5) X0.out.lt
         have Y15 : Hid (Bx w5 (w.heap.size + 1) (.slice none 0 0) (.slice none 0 0)) := X1.out.keep (undrew hb5) X1.out.lt
         have t5 : Hid (w5.cell? ⟨w.heap.size, 0, none⟩ = some (.slice a1 ss.length c1) ∧ w5.cell? ⟨w.heap.size, 1, none⟩ = some (.slice a2 ps.length c2)) := ⟨Y05.out.c0, Y05.out.c1⟩
         have HB5 : Hid (Below w.heap.size w w5) := b0.out.trans ((undrew hb5).mono b0.out.size))
      | (go_at_call 61
         refine (HPR.out _ HB5.out).mono ?_
         rintro e w8 ⟨y1, y2, y3, y4, rfl, hd8, hb8⟩
         have Y08 : Hid (Bx w8 w.heap.size (.slice a1 ss.length c1) (.slice a2 ps.length c2)) := Y05.out.keep hb8 Y05.out.lt
         have Y18 : Hid (Bx w8 (w.heap.size + 1) (.slice none 0 0) (.slice none 0 0)) := Y15.out.keep hb8 Y15.out.lt
         have t8 : Hid (w8.cell? ⟨w.heap.size, 0, none⟩ = some (.slice a1 ss.length c1) ∧ w8.cell? ⟨w.heap.size, 1, none⟩ = some (.slice a2 ps.length c2)) := ⟨Y08.out.c0, Y08.out.c1⟩
         have HB8 : Hid (Below w.heap.size w w8) := HB5.out.trans (hb8.mono HB5.out.size)
         have HD8 : Hid (DOwn w8 (w.heap.size + 1 + 1) y1 y2 y3 y4 RS ps) := hd8.mono Y15.out.lt
         have r0 := Y18.out.c0
         have r1 := Y18.out.c1
         have rf := Y18.out.fz)))
  all_goals
    have V9 : Hid (Bx ((w8.setCell ⟨w.heap.size + 1, 0, none⟩ (.slice y1 RS.length y2)).setCell ⟨w.heap.size + 1, 1, none⟩ (.slice y3 ps.length y4)) (w.heap.size + 1) (.slice y1 RS.length y2) (.slice y3 ps.length y4)) := (Y18.out.set0 _).set1 _
    have q0 := V9.out.c0
    have q1 := V9.out.c1
    go_wp2
    refine bodyPost_ret (v := .tuple #[.agg #[.slice y1 RS.length y2, .slice y3 ps.length y4], .bool RB]) (by simp [results, Try.results31, go_sem, q0, q1]) rfl ⟨y1, y2, y3, y4, rfl, ⟨?_, ?_⟩, ?_⟩
    · exact ((HD8.out.s.set (by show w.heap.size + 1 < _; omega) _).set (by show w.heap.size + 1 < _; omega) _).mono (by omega)
    · exact ((HD8.out.p.set (by show w.heap.size + 1 < _; omega) _).set (by show w.heap.size + 1 < _; omega) _).mono (by omega)
    · exact (HB8.out.setCell (by show _ ≤ w.heap.size + 1; omega) _).setCell (by show _ ≤ w.heap.size + 1; omega) _

end Go.Proofs.Ytnfkfhpmhhmbaaa

namespace Go.Proofs.Ytnfkfhpmhhmbaaa
open Go.RowKit
open DM
attribute [local go_sem ↓] Go.wp_at_zero Go.wp_at_succ

def KRow (w : World) (a : Option Addr) (ks : List Int) : Prop :=
  0 < ks.length → ∃ b off, a = some ⟨b, off, none⟩ ∧ b < w.heap.size ∧ ∀ j (hj : j < ks.length), w.cell? ⟨b, off + j, none⟩ = some (.int .i64 ks[j])
theorem KRow.below {w w' : World} {a : Option Addr} {ks : List Int} (h : KRow w a ks) (hb : Below w.heap.size w w') : KRow w' a ks := fun h0 => by
  obtain ⟨b, off, rfl, hlt, hc⟩ := h h0
  exact ⟨b, off, rfl, Nat.lt_of_lt_of_le hlt hb.size, fun j hj => (hb.cell (p := ⟨b, off + j, none⟩) hlt).trans (hc j hj)⟩

theorem tmod65 (t : Int) : (if t.tmod 65 < 0 then t.tmod 65 + 65 else t.tmod 65) = t % 65 := by
  have h1 := Int.emod_emod_of_dvd t (show (65 : Int) ∣ 65 from ⟨1, by omega⟩)
  rcases Int.le_total 0 t with h | h
  · rw [Int.tmod_eq_emod_of_nonneg h]
    have := Int.emod_nonneg t (show (65 : Int) ≠ 0 by omega)
    rw [if_neg (by omega)]
  · have h2 : t.tmod 65 = -((-t) % 65) := by
      have := Int.neg_tmod (-t) 65
      rw [Int.neg_neg] at this
      rw [this, Int.tmod_eq_emod_of_nonneg (by omega)]
    rw [h2]
    split <;> omega

set_option maxHeartbeats 400000 in
theorem left60 (t : Int) (w : World) :
    Calls Try.prog 74 #[.int .i64 t] w fun e w' => e = .returned (.int .i64 (t % 65)) ∧ w' = w := by
  have HT : Hid ((if t.tmod 65 < 0 then t.tmod 65 + 65 else t.tmod 65) = t % 65) := tmod65 t
  have hb1 : -65 < t.tmod 65 := by
    have := Int.lt_tmod_of_pos t (show (0 : Int) < 65 by omega)
    omega
  have hb2 : t.tmod 65 < 65 := Int.tmod_lt_of_pos t (by omega)
  by_cases hneg : t.tmod 65 < 0
  · have HV : Hid (t.tmod 65 + 65 = t % 65) := by have h := HT.out; rw [if_pos hneg] at h; exact h
    have e1 : IntKind.i64.wrap (t.tmod 65) = t.tmod 65 := by rw [IntKind.wrap_i64]; omega
    go_enter Try.func74, Try.ntmps74
    go_wp2
    go_ret
    exact ⟨ret_int HV.out, rfl⟩
  · have hneg' : ¬ t.tmod 65 < 0 := hneg
    have HV : Hid (t.tmod 65 = t % 65) := by have h := HT.out; rw [if_neg hneg] at h; exact h
    have e1 : IntKind.i64.wrap (t.tmod 65) = t.tmod 65 := by rw [IntKind.wrap_i64]; omega
    go_enter Try.func74, Try.ntmps74
    go_wp2
    go_ret
    exact ⟨ret_int HV.out, rfl⟩

def oddAt (ks : List Int) (i : Nat) : Bool := match ks[i]? with
  | some k => decide (k.tmod 2 ≠ 0)
  | none => false
def chs (ps : List Wr) (ks : List Int) : Nat → List Wr
  | 0 => []
  | n + 1 => chs ps ks n ++ (match ps[n]? with
    | some p => if oddAt ks n = true then [p] else []
    | none => [])
theorem chs_yes {ps : List Wr} {ks : List Int} {n : Nat} (h : n < ps.length) (ho : oddAt ks n = true) : chs ps ks (n + 1) = chs ps ks n ++ [ps[n]] := by simp [chs, h, ho]
theorem chs_no {ps : List Wr} {ks : List Int} {n : Nat} (h : n < ps.length) (ho : oddAt ks n = false) : chs ps ks (n + 1) = chs ps ks n := by simp [chs, h, ho]
theorem chs_len (ps : List Wr) (ks : List Int) : ∀ n, (chs ps ks n).length ≤ n
  | 0 => by simp [chs]
  | n + 1 => by
    have := chs_len ps ks n
    simp only [chs, List.length_append]
    split
    · split <;> simp <;> omega
    · simp; omega
theorem chs_mem (ps : List Wr) (ks : List Int) : ∀ n, ∀ p ∈ chs ps ks n, p ∈ ps
  | 0, p, h => by simp [chs] at h
  | n + 1, p, h => by
    simp only [chs, List.mem_append] at h
    rcases h with h | h
    · exact chs_mem ps ks n p h
    · split at h
      · rename_i q hq
        split at h
        · rw [List.mem_singleton.1 h]; exact List.mem_of_getElem? hq
        · simp at h
      · simp at h

set_option maxRecDepth 100000 in
set_option maxHeartbeats 4000000 in
theorem chosen59 (ps : List Wr) (ks : List Int) (a2 ak : Option Addr) (c2 ck : Nat) (hm : ps.length ≤ 1000) (hk : ks.length ≤ 9223372036854775807) (w : World) (hp : PRow w a2 ps) (hkr : KRow w ak ks) :
    Calls Try.prog 73 #[.slice a2 ps.length c2, .slice ak ks.length ck] w fun e w' => ∃ b1 d1, e = .returned (.slice b1 (chs ps ks ps.length).length d1) ∧ POwn w' w.heap.size (.slice b1 (chs ps ks ps.length).length d1) (chs ps ks ps.length) ∧ Below w.heap.size w w' := by
  have HP : Hid (PRow w a2 ps) := hp
  have HK : Hid (KRow w ak ks) := hkr
  clear hp hkr
  go_enter Try.func73, Try.ntmps73
  go_wp2
  go_loopw [5, 10] (fun v t wr => ∃ (k q : Nat) (av : Option Addr) (cv : Nat), k ≤ ps.length ∧ q ≤ k ∧ t = .int .i64 k ∧ v = .slice av q cv ∧ Hid (q = (chs ps ks k).length) ∧ Hid (Below w.heap.size w wr) ∧ Hid (wr.ownsRow w.heap.size 67 2 (.slice av q cv) q (pcs (chs ps ks k)))) (fun _ t _ => ps.length - (intOf t).toNat)
  case atStart => exact ⟨0, 0, none, 0, Nat.zero_le _, Nat.le_refl _, rfl, rfl, rfl, belowRefl w, World.ownsRow_nil _ _ _ _⟩
  case round =>
    obtain ⟨k, q, av, cv, hk1, hq, rfl, rfl, HQ, HB, HO⟩ := hrel
    by_cases hlt : k < ps.length
    · have hlt' : (k : Int) < (ps.length : Int) := by omega
      have h0 : (0 : Int) ≤ (k : Int) := by omega
      obtain ⟨b, off, rfl, hbl, hc⟩ := (HP.out.below HB.out) (by omega)
      have hck := (hc k hlt).1
      have hcl := (hc k hlt).2
      clear hc
      have HB1 : Hid (Below w.heap.size w (wr.alloc (.cells #[.int .i64 ps[k].1, .string ps[k].2] 67))) := HB.out.alloc HB.out.size _
      have HO1 : Hid ((wr.alloc (.cells #[.int .i64 ps[k].1, .string ps[k].2] 67)).ownsRow w.heap.size 67 2 (.slice av q cv) q (pcs (chs ps ks k))) := World.ownsRow.alloc HO.out _
      by_cases hkl : k < ks.length
      · have hkl' : (k : Int) < (ks.length : Int) := by omega
        obtain ⟨bk, ok, rfl, hkb, hkc⟩ := (HK.out.below HB1.out) (by omega)
        have hkk := hkc k hkl
        clear hkc
        by_cases hodd : ks[k].tmod 2 = 0
        · have ho : (ks[k].tmod 2 != 0) = false := by rw [bne_eq_false_iff_eq]; exact hodd
          have HC : Hid (chs ps ks (k + 1) = chs ps ks k) := chs_no hlt (by simp [oddAt, hkl, hodd])
          clear hodd
          go_wp2
          go_roundw
          case rel => exact ⟨k + 1, q, av, cv, by omega, by omega, by go_num, rfl, by rw [HC.out]; exact HQ, HB1, by rw [HC.out]; exact HO1⟩
          case measure => simp [intOf]; omega
        · have ho : (ks[k].tmod 2 != 0) = true := by rw [bne_iff_ne]; exact hodd
          have HC : Hid (chs ps ks (k + 1) = chs ps ks k ++ [ps[k]]) := chs_yes hlt (by simp [oddAt, hkl, hodd])
          clear hodd
          go_wp2_with (at_builtin; refine wpAppH 28 67 2 24 (.agg #[.int .i64 0, .string ByteArray.empty]) Try.underlying28 Try.info67 rfl (by decide) (by omega) (by rfl) _ _ (by rfl) (base := w.heap.size) (n := q) [.int .i64 ps[k].1, .string ps[k].2] (by rfl) (World.ownsRow.alloc HO1.out _) (by rfl) (by exact hblk_new (by simp)) rfl (by simp [Value.oneCell']) (by omega) (by have := HB1.out.size; simp at this ⊢; omega) ?_)
          intro g' cap w3 hown3 hb3 hg3
          have HO3 : Hid (w3.ownsRow w.heap.size 67 2 (.slice (some ⟨g', 0, none⟩) (q + 1) cap) (q + 1) (pcs (chs ps ks (k + 1)))) := by
            rw [HC.out, pcs_app]; exact hown3
          have HQ3 : Hid (q + 1 = (chs ps ks (k + 1)).length) := by show _ = _; rw [HC.out, List.length_append, ← HQ.out]; rfl
          have HB3 : Hid (Below w.heap.size w w3) := (HB1.out.alloc HB1.out.size _).trans hb3
          clear hown3 hb3 hg3 hck hcl hkk
          go_wp2
          go_roundw
          case rel => exact ⟨k + 1, q + 1, _, _, by omega, by omega, by go_num, rfl, HQ3, HB3, HO3⟩
          case measure => simp [intOf]; omega
      · have hkl' : decide ((k : Int) < (ks.length : Int)) = false := by simp; omega
        have HC : Hid (chs ps ks (k + 1) = chs ps ks k) := chs_no hlt (by simp [oddAt, hkl])
        go_wp2
        go_roundw
        case rel => exact ⟨k + 1, q, av, cv, by omega, by omega, by go_num, rfl, by rw [HC.out]; exact HQ, HB1, by rw [HC.out]; exact HO1⟩
        case measure => simp [intOf]; omega
    · have hlt' : ¬ (k : Int) < (ps.length : Int) := by omega
      obtain rfl : k = ps.length := by omega
      have HD : Hid (POwn wr w.heap.size (.slice av (chs ps ks ps.length).length cv) (chs ps ks ps.length)) := by
        show World.ownsRow _ _ _ _ _ _ _
        rw [← HQ.out]; exact HO.out
      go_wp2
      go_ret
      exact ⟨av, cv, by rw [← HQ.out]; rfl, HD.out, HB.out⟩
end Go.Proofs.Ytnfkfhpmhhmbaaa
