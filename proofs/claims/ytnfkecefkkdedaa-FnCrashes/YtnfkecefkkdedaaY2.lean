/- What DrawDisk and DrawPlaces draw. -/
import Derived.Test.YtnfkecefkkdedaaD7
namespace Go.Proofs.Ytnfkecefkkdedaa
open Go.RowKit
open DM
attribute [local go_sem ↓] Go.wp_at_zero Go.wp_at_succ

/-- where the bytes lie -/
theorem CodeRow.blk {w : World} {a : Option Addr} {len : Nat} (hr : CodeRow w a len) : ∀ b off, a = some ⟨b, off, none⟩ → 0 < len → b < w.heap.size := fun b off e h0 => by
  obtain ⟨b', off', e', hb', _⟩ := hr h0
  rw [e] at e'
  cases e'
  exact hb'

set_option maxRecDepth 100000 in
set_option maxHeartbeats 2000000 in
theorem ddisk11 (len cap : Nat) (a : Option Addr) (hl : len ≤ 1048576) (w : World) (hr : CodeRow w a len) :
    Calls Try.prog 11 #[.slice a len cap] w fun e w' => ∃ (ss : List ByteArray) (cur : List Wr) (b1 : Option Addr) (d1 : Nat) (b2 : Option Addr) (d2 : Nat), e = .returned (.agg #[.slice b1 ss.length d1, .slice b2 cur.length d2]) ∧ DOwn w' w.heap.size b1 d1 b2 d2 ss cur ∧ DkI ss cur 24 ∧ Below w.heap.size w w' := by
  have HR : Hid (CodeRow w a len) := hr
  have HCODE : Hid (∀ b off, a = some ⟨b, off, none⟩ → 0 < len → b < w.heap.size) := hr.blk
  clear hr
  have YR0 : Hid (Bx (w.alloc (.cells #[.slice none 0 0, .slice none 0 0] 27)) w.heap.size (.slice none 0 0) (.slice none 0 0)) := Bx.new w _ _ 27
  have b0 : Hid (Below w.heap.size w (w.alloc (.cells #[.slice none 0 0, .slice none 0 0] 27))) := (belowRefl w).alloc (Nat.le_refl _) _
  have z0 : (w.alloc (.cells #[.slice none 0 0, .slice none 0 0] 27)).heap.size = w.heap.size + 1 := by simp
  go_enter Try.func11, Try.ntmps11
  go_wp2_with fail
  refine (new16 len cap a hl _ (HR.out.below b0.out)).mono ?_
  rintro e w1 ⟨rfl, hc1, hb1, hz1⟩
  rw [z0] at hc1 hz1
  have YR1 : Hid (Bx w1 w.heap.size (.slice none 0 0) (.slice none 0 0)) := YR0.out.keep hb1 YR0.out.lt
  have HB1 : Hid (Below w.heap.size w w1) := b0.out.trans (hb1.mono b0.out.size)
  obtain ⟨g, hgE⟩ : ∃ g, g = w.heap.size + 1 := ⟨_, rfl⟩
  rw [← hgE] at hc1 hz1
  have hgl : w.heap.size < g := by omega
  rw [z0, ← hgE]
  have HC1 : Hid (CurOk w1 g a len cap) := hc1
  clear hb1 hc1 YR0 b0 z0 hgE
  go_wp2_with fail
  refine (sdisk54 g len cap a hl _ HC1.out hz1 (fun b off e h0 => Nat.lt_of_lt_of_le (HCODE.out b off e h0) HB1.out.size)).mono ?_
  rintro e w2 ⟨ss, cur, x1, x2, x3, x4, rfl, hd2, hI2, hc2, hg2⟩
  have HI : Hid (DkI ss cur 24) := hI2
  have YR2 : Hid (Bx w2 w.heap.size (.slice none 0 0) (.slice none 0 0)) := YR1.out.keepG hg2 (fun e => by have := Option.some.inj e; omega)
  have HB2 : Hid (Below w.heap.size w w2) := HB1.out.trans (below_of_grown hg2 (by omega) HB1.out.size)
  have HD2 : Hid (DOwn w2 (w.heap.size + 1) x1 x2 x3 x4 ss cur) := hd2.mono (by omega)
  have r0 := YR2.out.c0
  have r1 := YR2.out.c1
  have rf := YR2.out.fz
  have V9 : Hid (Bx ((w2.setCell ⟨w.heap.size, 0, none⟩ (.slice x1 ss.length x2)).setCell ⟨w.heap.size, 1, none⟩ (.slice x3 cur.length x4)) w.heap.size (.slice x1 ss.length x2) (.slice x3 cur.length x4)) := (YR2.out.set0 _).set1 _
  have v0 := V9.out.c0
  have v1 := V9.out.c1
  clear hd2 hI2 hc2 hg2 YR1 HB1 HC1
  go_wp2
  refine bodyPost_ret (v := .agg #[.slice x1 ss.length x2, .slice x3 cur.length x4]) (by simp [results, Try.results11, go_sem, v0, v1]) rfl ⟨ss, cur, x1, x2, x3, x4, rfl, ⟨?_, ?_⟩, HI.out, ?_⟩
  · exact ((HD2.out.s.set (by show w.heap.size < _; omega) _).set (by show w.heap.size < _; omega) _).mono (by omega)
  · exact ((HD2.out.p.set (by show w.heap.size < _; omega) _).set (by show w.heap.size < _; omega) _).mono (by omega)
  · exact (HB2.out.setCell (Nat.le_refl _) _).setCell (Nat.le_refl _) _

/-- numbers in their cells -/
def ics (ks : List Nat) : List Value := ks.map fun k : Nat => Value.int .i64 (k : Int)
theorem ics_app (ks : List Nat) (x : Nat) : ics (ks ++ [x]) = ics ks ++ [.int .i64 (x : Int)] := by simp [ics]
theorem ics_at (ks : List Nat) (j : Nat) (hj : j < ks.length) : (ics ks)[j]? = some (.int .i64 (ks[j] : Int)) := by simp [ics, hj]

theorem own_keptG {w w' : World} {b e s n g : Nat} {v : Value} {xs : List Value} (h : w.ownsRow b e s v n xs) (hg : w.grownBy w' (some g)) (hlt : g < b) : w'.ownsRow b e s v n xs :=
  World.ownsRow.kept h hg (by
    cases e : v.ownBlock with
    | none => exact Or.inl rfl
    | some k => right; intro e2; have := (World.ownsRow.lt h k e).1; have := Option.some.inj e2; omega)

/-- twelve numbers, two of them told -/
def PlQ (w : World) (e : Ending) (w' : World) : Prop := ∃ (p0 p1 G cp : Nat), e = .returned (.slice (some ⟨G, 0, none⟩) 12 cp) ∧ (p0 < 10000 ∧ p1 < 10000) ∧ G < w'.heap.size ∧ w'.cell? ⟨G, 0, none⟩ = some (.int .i64 (p0 : Int)) ∧ w'.cell? ⟨G, 1, none⟩ = some (.int .i64 (p1 : Int)) ∧ Below w.heap.size w w'

set_option maxRecDepth 100000 in
set_option maxHeartbeats 2000000 in
theorem places12 (len cap : Nat) (a : Option Addr) (hl : len ≤ 1048576) (w : World) (hr : CodeRow w a len) :
    Calls Try.prog 12 #[.slice a len cap] w fun e w' => PlQ w e w' := by
  have HR : Hid (CodeRow w a len) := hr
  have HCODE : Hid (∀ b off, a = some ⟨b, off, none⟩ → 0 < len → b < w.heap.size) := hr.blk
  clear hr
  have HBL : Hid (∀ (W : World), CurOk W w.heap.size a len cap → Calls Try.prog 57 #[.pointer (some ⟨w.heap.size, 0, none⟩), .int .i64 10000] W fun e w' => ∃ x : Nat, x < 10000 ∧ e = .returned (.int .i64 (x : Int)) ∧ CurOk w' w.heap.size a len cap ∧ W.grownBy w' (some w.heap.size)) := fun W h => below21 w.heap.size len cap a 10000 (by omega) (by omega) hl W h
  go_enter Try.func12, Try.ntmps12
  go_wp2_with fail
  refine (new16 len cap a hl _ HR.out).mono ?_
  rintro e w1 ⟨rfl, hc1, hb1, hz1⟩
  have HC1 : Hid (CurOk w1 w.heap.size a len cap) := hc1
  have HB1 : Hid (Below w.heap.size w w1) := hb1
  clear hc1 hb1
  go_wp2_with fail
  refine (byteOk w.heap.size len cap a hl _ HC1.out).mono ?_
  rintro e w2 ⟨x, hx, rfl, hc2, hg2⟩
  have HC2 : Hid (CurOk w2 w.heap.size a len cap) := hc2
  have HB2 : Hid (Below w.heap.size w w2) := HB1.out.trans (below_of_grown hg2 (Nat.le_refl _) HB1.out.size)
  have s2 : w.heap.size + 1 ≤ w2.heap.size := Nat.le_trans hz1 hg2.size
  have HO0 : Hid ((w2.alloc (.cells #[] 3)).ownsRow (w.heap.size + 1) 3 1 (.slice (some ⟨w2.heap.size, 0, none⟩) 0 0) 0 (ics [])) := World.ownsRow_lit (base := w.heap.size + 1) (e := 3) (size := 1) w2 #[] 0 s2 (by unfold maxLen; omega) rfl
  clear hc2 hg2 hx HC1 HB1
  go_wp2
  go_loopw [4, 5] (fun tv ti wr => ∃ (k : Nat) (ks : List Nat) (G cp : Nat), k ≤ 12 ∧ ti = .int .i64 k ∧ tv = .slice (some ⟨G, 0, none⟩) k cp ∧ Hid (ks.length = k ∧ ∀ x ∈ ks, x < 10000) ∧ Hid (wr.ownsRow (w.heap.size + 1) 3 1 (.slice (some ⟨G, 0, none⟩) k cp) k (ics ks)) ∧ Hid (CurOk wr w.heap.size a len cap) ∧ Hid (Below w.heap.size w wr) ∧ Hid (w.heap.size + 1 ≤ wr.heap.size)) (fun _ ti _ => 12 - (intOf ti).toNat)
  case atStart => exact ⟨0, [], w2.heap.size, 0, by omega, rfl, rfl, ⟨rfl, fun x h => by cases h⟩, HO0, HC2.out.alloc s2 _, HB2.out.alloc HB2.out.size _, (by show _ ≤ _; simp; omega)⟩
  case round =>
    clear HO0 HC2 HB2 s2
    obtain ⟨k, ks, G, cp, hk, rfl, rfl, HK, HO, HC, HB, HS⟩ := hrel
    by_cases hlt : k < 12
    · have hlt' : (k : Int) < 12 := by omega
      go_wp2_with fail
      refine (HBL.out _ HC.out).mono ?_
      rintro e w3 ⟨x, hx, rfl, hc3, hg3⟩
      have HC3 : Hid (CurOk w3 w.heap.size a len cap) := hc3
      have HB3 : Hid (Below w.heap.size w w3) := HB.out.trans (below_of_grown hg3 (Nat.le_refl _) HB.out.size)
      have HO3 : Hid (w3.ownsRow (w.heap.size + 1) 3 1 (.slice (some ⟨G, 0, none⟩) k cp) k (ics ks)) := own_keptG HO.out hg3 (by omega)
      have HS3 : Hid (w.heap.size + 1 ≤ w3.heap.size) := Nat.le_trans HS.out hg3.size
      have HK3 : Hid ((ks ++ [x]).length = k + 1 ∧ ∀ y ∈ ks ++ [x], y < 10000) := ⟨by rw [List.length_append, HK.out.1]; rfl, fun y hy => by
        rcases List.mem_append.1 hy with h | h
        · exact HK.out.2 y h
        · rw [List.mem_singleton.1 h]; exact hx⟩
      clear hc3 hg3 hx
      go_wp2_with (at_builtin; refine wpAppH 29 3 1 8 (.int .i64 0) Try.underlying29 Try.info3 rfl (by decide) (by omega) (by rfl) _ _ (by rfl) (base := w.heap.size + 1) (n := k) [.int .i64 (x : Int)] (by rfl) (World.ownsRow.alloc HO3.out _) (by rfl) (by exact heap_alloc_new w3 _) rfl (by simp [Value.oneCell']) (by omega) (Nat.le_trans HS3.out (by simp)) ?_)
      intro g' cp' w4 hown4 hb4 hg4
      have HO4 : Hid (w4.ownsRow (w.heap.size + 1) 3 1 (.slice (some ⟨g', 0, none⟩) (k + 1) cp') (k + 1) (ics (ks ++ [x]))) := by rw [ics_app]; exact hown4
      have HC4 : Hid (CurOk w4 w.heap.size a len cap) := (HC3.out.alloc HS3.out _).belowB hb4 (by omega) (fun b off e h0 => Nat.lt_succ_of_lt (HCODE.out b off e h0))
      have HB4 : Hid (Below w.heap.size w w4) := (HB3.out.alloc HB3.out.size _).trans (hb4.mono (by omega))
      have HS4 : Hid (w.heap.size + 1 ≤ w4.heap.size) := Nat.le_trans HS3.out (Nat.le_trans (by simp) hb4.size)
      clear hown4 hb4 hg4
      go_wp2
      go_roundw
      case rel => exact ⟨k + 1, _, g', cp', by omega, by go_num, by go_num, HK3, HO4, HC4, HB4, HS4⟩
      case measure => simp [intOf]; omega
    · have hlt' : ¬ (k : Int) < 12 := by omega
      obtain rfl : k = 12 := by omega
      have h0 : 0 < ks.length := by rw [HK.out.1]; omega
      have h1 : 1 < ks.length := by rw [HK.out.1]; omega
      have hl2 := World.ownsRow.lt HO.out G rfl
      have q0 : wr.cell? ⟨G, 0, none⟩ = some (.int .i64 (ks[0] : Int)) := by rw [World.ownsRow.cellAt HO.out 0 (by omega)]; exact ics_at ks 0 h0
      have q1 : wr.cell? ⟨G, 1, none⟩ = some (.int .i64 (ks[1] : Int)) := by rw [World.ownsRow.cellAt HO.out 1 (by omega)]; exact ics_at ks 1 h1
      have Q0 : Hid (wr.cell? ⟨G, 0, none⟩ = some (.int .i64 (ks[0] : Int))) := q0
      have Q1 : Hid (wr.cell? ⟨G, 1, none⟩ = some (.int .i64 (ks[1] : Int))) := q1
      clear q0 q1
      go_wp2
      go_ret
      exact ⟨ks[0], ks[1], G, cp, rfl, ⟨HK.out.2 _ (List.getElem_mem h0), HK.out.2 _ (List.getElem_mem h1)⟩, hl2.2, Q0.out, Q1.out, HB.out⟩
end Go.Proofs.Ytnfkecefkkdedaa
