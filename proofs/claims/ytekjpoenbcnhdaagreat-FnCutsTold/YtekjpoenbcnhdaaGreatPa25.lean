/- What spec.l03Disk draws: a right disk of at most six sectors with at most 24 writes. -/
import Derived.Test.YtekjpoenbcnhdaaGreatPa07
import Derived.Test.YtekjpoenbcnhdaaGreatPa21
import Derived.Test.YtekjpoenbcnhdaaGreatPa19
import Derived.Test.YtekjpoenbcnhdaaGreatPa08
import Derived.Test.YtekjpoenbcnhdaaGreatPa20
import Derived.Test.YtekjpoenbcnhdaaGreatPa10
import Derived.Test.YtekjpoenbcnhdaaGreatPa22
import Derived.Test.YtekjpoenbcnhdaaGreatPa23
import Derived.Laws.StructEq
import Derived.Deep.Cut
import Derived.Deep.CutRange
import Derived.Deep.RegionHeld3
import Derived.Test.YtekjpoenbcnhdaaGreatPa24
namespace Go.Proofs.YtekjpoenbcnhdaaGreat
open Go.RowKit
open DM
attribute [local go_sem ↓] Go.wp_at_zero Go.wp_at_succ

def DkI (ss : List ByteArray) (ps : List Wr) (m : Nat) : Prop := okB ss ps = true ∧ ss.length ≤ 6 ∧ ps.length ≤ m
theorem DkI.mono {ss : List ByteArray} {ps : List Wr} {m k : Nat} (h : DkI ss ps m) (hk : m ≤ k) : DkI ss ps k := ⟨h.1, h.2.1, Nat.le_trans h.2.2 hk⟩
theorem DkI.new {x : Nat} (h : x < 6) : DkI (nwS ((1 + x : Nat) : Int)) [] 0 ∧ nwB ((1 + x : Nat) : Int) = true := by
 have hb : nwB ((1 + x : Nat) : Int) = true := by simp [nwB]; omega
 refine ⟨⟨?_, ?_, by simp⟩, hb⟩
 ·rw [nwS_yes hb, okB_iff]
  refine ⟨by simp [zerosS]; omega, by simp [zerosS]; omega, by simp, fun s hs => ?_, fun p hp => by cases hp⟩
  rw [(List.mem_replicate.1 hs).2]
  simp [longB, ByteArray.size]
 ·rw [nwS_yes hb]; simp [zerosS]; omega

end Go.Proofs.YtekjpoenbcnhdaaGreat

namespace Go.Proofs.YtekjpoenbcnhdaaGreat
open Go.RowKit
open DM
attribute [local go_sem ↓] Go.wp_at_zero Go.wp_at_succ

end Go.Proofs.YtekjpoenbcnhdaaGreat

namespace Go.Proofs.YtekjpoenbcnhdaaGreat
open Go.RowKit
open DM
attribute [local go_sem ↓] Go.wp_at_zero Go.wp_at_succ

def DaI (ss : List ByteArray) (cur : List Wr) : Prop := ss.length ≤ 6 ∧ cur.length ≤ 61 ∧ (∀ s ∈ ss, s.size ≤ 65) ∧ (∀ p ∈ cur, p.2.size ≤ 65)
theorem DkI.any {ss : List ByteArray} {cur : List Wr} (h : DkI ss cur 24) : DaI ss cur := by
 have hO := okB_iff.1 h.1
 exact ⟨h.2.1, by have := h.2.2; omega, fun s hs => by have := hO.2.2.2.1 s hs; omega, fun p hp => by have := (hO.2.2.2.2 p hp).2.2; omega⟩
theorem DaI.set {ss : List ByteArray} {cur : List Wr} (h : DaI ss cur) (m : Nat) {t : ByteArray} (ht : t.size ≤ 65) : DaI (ss.set m t) cur := ⟨by rw [List.length_set]; exact h.1, h.2.1, fun s hs => by
 rcases List.mem_or_eq_of_mem_set hs with h1 | rfl
 ·exact h.2.2.1 s h1
 ·exact ht, h.2.2.2⟩
theorem DaI.app {ss : List ByteArray} {cur : List Wr} (h : DaI ss cur) (hl : cur.length ≤ 60) (x : Int) {t : ByteArray} (ht : t.size ≤ 65) : DaI ss (cur ++ [(x, t)]) := ⟨h.1, by simp; omega, h.2.2.1, fun p hp => by
 rcases List.mem_append.1 hp with h1 | h1
 ·exact h.2.2.2 p h1
 ·rw [List.mem_singleton.1 h1]; exact ht⟩
theorem DS.callB {w0 : World} {g : Nat} {a : Option Addr} {len cap B : Nat} {W W' : World} (h : DS w0 g a len cap W) (hb : Below B W W') (hB : w0.heap.size ≤ B) (hg : g < w0.heap.size) (hcode : ∀ b off, a = some ⟨b, off, none⟩ → 0 < len → b < w0.heap.size) : DS w0 g a len cap W' :=
 ⟨h.cur.belowB hb (by omega) (fun b off e h0 => Nat.lt_of_lt_of_le (hcode b off e h0) hB), grown_belowB h.gr hb hB⟩
end Go.Proofs.YtekjpoenbcnhdaaGreat

namespace Go.Proofs.YtekjpoenbcnhdaaGreat
open Go.RowKit
open DM
attribute [local go_sem ↓] Go.wp_at_zero Go.wp_at_succ

set_option maxRecDepth 100000 in
set_option maxHeartbeats 2000000 in
theorem same21 (ss : List ByteArray) (ps : List Wr) (a1 a2 b1 b2 : Option Addr) (c1 c2 d1 d2 : Nat) (hn : ss.length ≤ 100000000) (hm : ps.length ≤ 100000000) (w : World) (h1 : SRow w a1 ss) (h2 : PRow w a2 ps) (h3 : SRow w b1 ss) (h4 : PRow w b2 ps) :
  Calls Tryz.prog 9 #[.agg #[.slice a1 ss.length c1, .slice a2 ps.length c2], .agg #[.slice b1 ss.length d1, .slice b2 ps.length d2]] w fun e w' => e = .returned (.bool true) ∧ Below w.heap.size w w' := by
 have HS : Hid (∀ W : World, Below w.heap.size w W → Calls Tryz.prog 28 #[.slice a1 ss.length c1, .slice b1 ss.length d1] W fun e w' => e = .returned (.bool true) ∧ Below W.heap.size W w') := fun W h => same20 a1 b1 c1 d1 ss hn W (h1.below h) (h3.below h)
 have H2 : Hid (PRow w a2 ps) := h2
 have H4 : Hid (PRow w b2 ps) := h4
 have X0 : Hid (Bx ((w.alloc (.cells #[.slice a1 ss.length c1, .slice a2 ps.length c2] 27)).alloc (.cells #[.slice b1 ss.length d1, .slice b2 ps.length d2] 27)) w.heap.size (.slice a1 ss.length c1) (.slice a2 ps.length c2)) := (Bx.new w _ _ _).alloc _
 have X1 : Hid (Bx ((w.alloc (.cells #[.slice a1 ss.length c1, .slice a2 ps.length c2] 27)).alloc (.cells #[.slice b1 ss.length d1, .slice b2 ps.length d2] 27)) (w.heap.size + 1) (.slice b1 ss.length d1) (.slice b2 ps.length d2)) := by
  have h := Bx.new (w.alloc (.cells #[.slice a1 ss.length c1, .slice a2 ps.length c2] 27)) (.slice b1 ss.length d1) (.slice b2 ps.length d2) 27
  show Bx _ _ _ _
  simpa using h
 have B0 : Hid (Below w.heap.size w ((w.alloc (.cells #[.slice a1 ss.length c1, .slice a2 ps.length c2] 27)).alloc (.cells #[.slice b1 ss.length d1, .slice b2 ps.length d2] 27))) := ((belowRefl w).alloc (Nat.le_refl _) _).alloc (by simp) _
 clear h1 h2 h3 h4
 go_enter Tryz.func9, Tryz.ntmps9
 go_wp2_with fail
 refine (HS.out _ B0.out).mono ?_
 rintro e w1 ⟨rfl, hb1⟩
 have Y0 : Hid (Bx w1 w.heap.size (.slice a1 ss.length c1) (.slice a2 ps.length c2)) := X0.out.keep hb1 X0.out.lt
 have Y1 : Hid (Bx w1 (w.heap.size + 1) (.slice b1 ss.length d1) (.slice b2 ps.length d2)) := X1.out.keep hb1 X1.out.lt
 have B1 : Hid (Below w.heap.size w w1) := B0.out.trans (hb1.mono B0.out.size)
 clear hb1 X0 X1 B0
 have g1 := Y0.out.c1
 have k1 := Y1.out.c1
 go_wp2
 go_loopw [5] (fun t wr => ∃ k : Nat, k ≤ ps.length ∧ t = .int .i64 k ∧ Hid (Below w1.heap.size w1 wr)) (fun t _ => ps.length - (intOf t).toNat)
 case atStart => exact ⟨0, Nat.zero_le _, rfl, Below.refl _ _⟩
 case round =>
  obtain ⟨k, hk, rfl, HB⟩ := hrel
  clear g1 k1
  have HBw : Hid (Below w.heap.size w wr) := B1.out.trans (HB.out.mono B1.out.size)
  have Yr0 : Hid (Bx wr w.heap.size (.slice a1 ss.length c1) (.slice a2 ps.length c2)) := Y0.out.keep HB.out Y0.out.lt
  have Yr1 : Hid (Bx wr (w.heap.size + 1) (.slice b1 ss.length d1) (.slice b2 ps.length d2)) := Y1.out.keep HB.out Y1.out.lt
  have g1 := Yr0.out.c1
  have k1 := Yr1.out.c1
  by_cases hlt : k < ps.length
  ·have hlt' : (k : Int) < (ps.length : Int) := by omega
   have h0 : (0 : Int) ≤ (k : Int) := by omega
   obtain ⟨e1, off1, rfl, hl1, q1⟩ := (H2.out.below HBw.out) (by omega)
   obtain ⟨e2, off2, rfl, hl2, q2⟩ := (H4.out.below HBw.out) (by omega)
   have r10 := (q1 k hlt).1
   have r11 := (q1 k hlt).2
   have r20 := (q2 k hlt).1
   have r21 := (q2 k hlt).2
   clear q1 q2
   go_wp2
   go_quiet (fail)
   go_wp2
   go_roundw
   case rel => exact ⟨k + 1, by omega, by go_num, below_drewN HB.out _⟩
   case measure => simp [intOf]; omega
  ·have hd : ¬ (k : Int) < (ps.length : Int) := by omega
   go_wp2
   go_ret
   exact ⟨rfl, HBw.out⟩

end Go.Proofs.YtekjpoenbcnhdaaGreat

namespace Go.Proofs.YtekjpoenbcnhdaaGreat
open Go.RowKit
open DM
attribute [local go_sem ↓] Go.wp_at_zero Go.wp_at_succ

end Go.Proofs.YtekjpoenbcnhdaaGreat

namespace Go.Proofs.YtekjpoenbcnhdaaGreat
open Go.RowKit
open DM
attribute [local go_sem ↓] Go.wp_at_zero Go.wp_at_succ

def KRow (w : World) (a : Option Addr) (ks : List Int) : Prop :=
 0 < ks.length → ∃ b off, a = some ⟨b, off, none⟩ ∧ b < w.heap.size ∧ ∀ j (hj : j < ks.length), w.cell? ⟨b, off + j, none⟩ = some (.int .i64 ks[j])
theorem KRow.below {w w' : World} {a : Option Addr} {ks : List Int} (h : KRow w a ks) (hb : Below w.heap.size w w') : KRow w' a ks := fun h0 => by
 obtain ⟨b, off, rfl, hlt, hc⟩ := h h0
 exact ⟨b, off, rfl, Nat.lt_of_lt_of_le hlt hb.size, fun j hj => (hb.cell (p := ⟨b, off + j, none⟩) hlt).trans (hc j hj)⟩

theorem tmod65 (t : Int) : (if t.tmod 65 < 0 then t.tmod 65 + 65 else t.tmod 65) = t % 65 := by
 have h1 := Int.emod_emod_of_dvd t (show (65 : Int) ∣ 65 from ⟨1, by omega⟩)
 rcases Int.le_total 0 t with h | h
 ·rw [Int.tmod_eq_emod_of_nonneg h]
  have := Int.emod_nonneg t (show (65 : Int) ≠ 0 by omega)
  rw [if_neg (by omega)]
 ·have h2 : t.tmod 65 = -((-t) % 65) := by
   have := Int.neg_tmod (-t) 65
   rw [Int.neg_neg] at this
   rw [this, Int.tmod_eq_emod_of_nonneg (by omega)]
  rw [h2]
  split <;> omega

set_option maxHeartbeats 400000 in
theorem left60 (t : Int) (w : World) :
  Calls Tryz.prog 78 #[.int .i64 t] w fun e w' => e = .returned (.int .i64 (t % 65)) ∧ w' = w := by
 have HT : Hid ((if t.tmod 65 < 0 then t.tmod 65 + 65 else t.tmod 65) = t % 65) := tmod65 t
 have hb1 : -65 < t.tmod 65 := by
  have := Int.lt_tmod_of_pos t (show (0 : Int) < 65 by omega)
  omega
 have hb2 : t.tmod 65 < 65 := Int.tmod_lt_of_pos t (by omega)
 by_cases hneg : t.tmod 65 < 0
 ·have HV : Hid (t.tmod 65 + 65 = t % 65) := by have h := HT.out; rw [if_pos hneg] at h; exact h
  have e1 : IntKind.i64.wrap (t.tmod 65) = t.tmod 65 := by rw [IntKind.wrap_i64]; omega
  go_enter Tryz.func78, Tryz.ntmps78
  go_wp2
  go_ret
  exact ⟨ret_int HV.out, rfl⟩
 ·have hneg' : ¬ t.tmod 65 < 0 := hneg
  have HV : Hid (t.tmod 65 = t % 65) := by have h := HT.out; rw [if_neg hneg] at h; exact h
  have e1 : IntKind.i64.wrap (t.tmod 65) = t.tmod 65 := by rw [IntKind.wrap_i64]; omega
  go_enter Tryz.func78, Tryz.ntmps78
  go_wp2
  go_ret
  exact ⟨ret_int HV.out, rfl⟩

def oddAt (ks : List Int) (i : Nat) : Bool := match ks[i]? with
 | some k => decide (k.tmod 2 ≠ 0)
 | none => false
def chs (ps : List Wr) (ks : List Int) : Nat → List Wr
 | 0 => []
 | n + 1 => chs ps ks n ++ (match ps[n]? with
  | some p => if oddAt ks n = true then [p] else []
  | none => [])
theorem chs_yes {ps : List Wr} {ks : List Int} {n : Nat} (h : n < ps.length) (ho : oddAt ks n = true) : chs ps ks (n + 1) = chs ps ks n ++ [ps[n]] := by simp [chs, h, ho]
theorem chs_no {ps : List Wr} {ks : List Int} {n : Nat} (h : n < ps.length) (ho : oddAt ks n = false) : chs ps ks (n + 1) = chs ps ks n := by simp [chs, h, ho]
theorem chs_len (ps : List Wr) (ks : List Int) : ∀ n, (chs ps ks n).length ≤ n
 | 0 => by simp [chs]
 | n + 1 => by
  have := chs_len ps ks n
  simp only [chs, List.length_append]
  split
  ·split <;> simp <;> omega
  ·simp; omega
theorem chs_mem (ps : List Wr) (ks : List Int) : ∀ n, ∀ p ∈ chs ps ks n, p ∈ ps
 | 0, p, h => by simp [chs] at h
 | n + 1, p, h => by
  simp only [chs, List.mem_append] at h
  rcases h with h | h
  ·exact chs_mem ps ks n p h
  ·split at h
   ·rename_i q hq
    split at h
    ·rw [List.mem_singleton.1 h]; exact List.mem_of_getElem? hq
    ·simp at h
   ·simp at h

set_option maxRecDepth 100000 in
set_option maxHeartbeats 4000000 in
theorem chosen59 (ps : List Wr) (ks : List Int) (a2 ak : Option Addr) (c2 ck : Nat) (hm : ps.length ≤ 1000) (hk : ks.length ≤ 9223372036854775807) (w : World) (hp : PRow w a2 ps) (hkr : KRow w ak ks) :
  Calls Tryz.prog 77 #[.slice a2 ps.length c2, .slice ak ks.length ck] w fun e w' => ∃ b1 d1, e = .returned (.slice b1 (chs ps ks ps.length).length d1) ∧ POwn w' w.heap.size (.slice b1 (chs ps ks ps.length).length d1) (chs ps ks ps.length) ∧ Below w.heap.size w w' := by
 have HP : Hid (PRow w a2 ps) := hp
 have HK : Hid (KRow w ak ks) := hkr
 clear hp hkr
 go_enter Tryz.func77, Tryz.ntmps77
 go_wp2
 go_loopw [5, 10] (fun v t wr => ∃ (k q : Nat) (av : Option Addr) (cv : Nat), k ≤ ps.length ∧ q ≤ k ∧ t = .int .i64 k ∧ v = .slice av q cv ∧ Hid (q = (chs ps ks k).length) ∧ Hid (Below w.heap.size w wr) ∧ Hid (wr.ownsRow w.heap.size 56 2 (.slice av q cv) q (pcs (chs ps ks k)))) (fun _ t _ => ps.length - (intOf t).toNat)
 case atStart => exact ⟨0, 0, none, 0, Nat.zero_le _, Nat.le_refl _, rfl, rfl, rfl, belowRefl w, World.ownsRow_nil _ _ _ _⟩
 case round =>
  obtain ⟨k, q, av, cv, hk1, hq, rfl, rfl, HQ, HB, HO⟩ := hrel
  by_cases hlt : k < ps.length
  ·have hlt' : (k : Int) < (ps.length : Int) := by omega
   have h0 : (0 : Int) ≤ (k : Int) := by omega
   obtain ⟨b, off, rfl, hbl, hc⟩ := (HP.out.below HB.out) (by omega)
   have hck := (hc k hlt).1
   have hcl := (hc k hlt).2
   clear hc
   have HB1 : Hid (Below w.heap.size w (wr.alloc (.cells #[.int .i64 ps[k].1, .string ps[k].2] 56))) := HB.out.alloc HB.out.size _
   have HO1 : Hid ((wr.alloc (.cells #[.int .i64 ps[k].1, .string ps[k].2] 56)).ownsRow w.heap.size 56 2 (.slice av q cv) q (pcs (chs ps ks k))) := World.ownsRow.alloc HO.out _
   by_cases hkl : k < ks.length
   ·have hkl' : (k : Int) < (ks.length : Int) := by omega
    obtain ⟨bk, ok, rfl, hkb, hkc⟩ := (HK.out.below HB1.out) (by omega)
    have hkk := hkc k hkl
    clear hkc
    by_cases hodd : ks[k].tmod 2 = 0
    ·have ho : (ks[k].tmod 2 != 0) = false := by rw [bne_eq_false_iff_eq]; exact hodd
     have HC : Hid (chs ps ks (k + 1) = chs ps ks k) := chs_no hlt (by simp [oddAt, hkl, hodd])
     clear hodd
     go_wp2
     go_roundw
     case rel => exact ⟨k + 1, q, av, cv, by omega, by omega, by go_num, rfl, by rw [HC.out]; exact HQ, HB1, by rw [HC.out]; exact HO1⟩
     case measure => simp [intOf]; omega
    ·have ho : (ks[k].tmod 2 != 0) = true := by rw [bne_iff_ne]; exact hodd
     have HC : Hid (chs ps ks (k + 1) = chs ps ks k ++ [ps[k]]) := chs_yes hlt (by simp [oddAt, hkl, hodd])
     clear hodd
     go_wp2_with (at_builtin; refine wpAppH 25 56 2 24 (.agg #[.int .i64 0, .string ByteArray.empty]) Tryz.underlying25 Tryz.info56 rfl (by decide) (by omega) (by rfl) _ _ (by rfl) (base := w.heap.size) (n := q) [.int .i64 ps[k].1, .string ps[k].2] (by rfl) (World.ownsRow.alloc HO1.out _) (by rfl) (by exact hblk_new (by simp)) rfl (by simp [Value.oneCell']) (by omega) (by have := HB1.out.size; simp at this ⊢; omega) ?_)
     intro g' cap w3 hown3 hb3 hg3
     have HO3 : Hid (w3.ownsRow w.heap.size 56 2 (.slice (some ⟨g', 0, none⟩) (q + 1) cap) (q + 1) (pcs (chs ps ks (k + 1)))) := by
      rw [HC.out, pcs_app]; exact hown3
     have HQ3 : Hid (q + 1 = (chs ps ks (k + 1)).length) := by show _ = _; rw [HC.out, List.length_append, ← HQ.out]; rfl
     have HB3 : Hid (Below w.heap.size w w3) := (HB1.out.alloc HB1.out.size _).trans hb3
     clear hown3 hb3 hg3 hck hcl hkk
     go_wp2
     go_roundw
     case rel => exact ⟨k + 1, q + 1, _, _, by omega, by omega, by go_num, rfl, HQ3, HB3, HO3⟩
     case measure => simp [intOf]; omega
   ·have hkl' : decide ((k : Int) < (ks.length : Int)) = false := by simp; omega
    have HC : Hid (chs ps ks (k + 1) = chs ps ks k) := chs_no hlt (by simp [oddAt, hkl])
    go_wp2
    go_roundw
    case rel => exact ⟨k + 1, q, av, cv, by omega, by omega, by go_num, rfl, by rw [HC.out]; exact HQ, HB1, by rw [HC.out]; exact HO1⟩
    case measure => simp [intOf]; omega
  ·have hlt' : ¬ (k : Int) < (ps.length : Int) := by omega
   obtain rfl : k = ps.length := by omega
   have HD : Hid (POwn wr w.heap.size (.slice av (chs ps ks ps.length).length cv) (chs ps ks ps.length)) := by
    show World.ownsRow _ _ _ _ _ _ _
    rw [← HQ.out]; exact HO.out
   go_wp2
   go_ret
   exact ⟨av, cv, by rw [← HQ.out]; rfl, HD.out, HB.out⟩
end Go.Proofs.YtekjpoenbcnhdaaGreat

namespace Go.Proofs.YtekjpoenbcnhdaaGreat
open Go.RowKit
open DM
attribute [local go_sem ↓] Go.wp_at_zero Go.wp_at_succ

def icz (ks : List Int) : List Value := ks.map fun k : Int => Value.int .i64 k
theorem icz_app (ks : List Int) (x : Int) : icz (ks ++ [x]) = icz ks ++ [.int .i64 x] := by simp [icz]
theorem own_krow {w : World} {base G cp : Nat} {ks : List Int} (h : w.ownsRow base 3 1 (.slice (some ⟨G, 0, none⟩) ks.length cp) ks.length (icz ks)) : KRow w (some ⟨G, 0, none⟩) ks := fun _ =>
 ⟨G, 0, rfl, (World.ownsRow.lt h G rfl).2, fun j hj => by
  rw [Nat.zero_add, World.ownsRow.cellAt h j (by omega)]
  simp [icz, hj]⟩
def Q66 (w : World) (g : Nat) (a : Option Addr) (len cap : Nat) (e : Ending) (w' : World) : Prop := ∃ (ks : List Int) (G cp : Nat), e = .returned (.slice (some ⟨G, 0, none⟩) ks.length cp) ∧ ks.length ≤ 13 ∧ w'.ownsRow w.heap.size 3 1 (.slice (some ⟨G, 0, none⟩) ks.length cp) ks.length (icz ks) ∧ CurOk w' g a len cap ∧ w.grownBy w' (some g)

set_option maxRecDepth 100000 in
set_option maxHeartbeats 2000000 in
theorem keep66 (g len cap : Nat) (a : Option Addr) (hl : len ≤ 1048576) (w : World) (hc : CurOk w g a len cap) (hg : g < w.heap.size) (hcode : ∀ b off, a = some ⟨b, off, none⟩ → 0 < len → b < w.heap.size) :
  Calls Tryz.prog 20 #[.pointer (some ⟨g, 0, none⟩)] w fun e w' => Q66 w g a len cap e w' := by
 have HCODE : Hid (∀ b off, a = some ⟨b, off, none⟩ → 0 < len → b < w.heap.size) := hcode
 have HB14 : Hid (∀ (W : World), CurOk W g a len cap → Calls Tryz.prog 19 #[.pointer (some ⟨g, 0, none⟩), .int .i64 14] W fun e w' => ∃ x : Nat, x < 14 ∧ e = .returned (.int .i64 (x : Int)) ∧ CurOk w' g a len cap ∧ W.grownBy w' (some g)) := fun W h => below21 g len cap a 14 (by omega) (by omega) hl W h
 have HB3 : Hid (∀ (W : World), CurOk W g a len cap → Calls Tryz.prog 19 #[.pointer (some ⟨g, 0, none⟩), .int .i64 3] W fun e w' => ∃ x : Nat, x < 3 ∧ e = .returned (.int .i64 (x : Int)) ∧ CurOk w' g a len cap ∧ W.grownBy w' (some g)) := fun W h => below21 g len cap a 3 (by omega) (by omega) hl W h
 have DS0 : Hid (DS w g a len cap w) := ⟨hc, grown_refl w _⟩
 have HO0 : Hid ((w.alloc (.cells #[] 3)).ownsRow w.heap.size 3 1 (.slice (some ⟨w.heap.size, 0, none⟩) 0 0) 0 (icz [])) := World.ownsRow_lit (base := w.heap.size) (e := 3) (size := 1) w #[] 0 (Nat.le_refl _) (by unfold maxLen; omega) rfl
 clear hc hcode
 go_enter Tryz.func20, Tryz.ntmps20
 go_wp2
 go_loopw [3, 4] (fun tv ti wr => ∃ (k : Nat) (ks : List Int) (G cp : Nat), k ≤ 13 ∧ ti = .int .i64 k ∧ tv = .slice (some ⟨G, 0, none⟩) k cp ∧ Hid (ks.length = k) ∧ Hid (wr.ownsRow w.heap.size 3 1 (.slice (some ⟨G, 0, none⟩) k cp) k (icz ks)) ∧ Hid (DS w g a len cap wr)) (fun _ ti _ => 14 - (intOf ti).toNat)
 case atStart => exact ⟨0, [], w.heap.size, 0, by omega, rfl, rfl, rfl, HO0, DS0.out.alloc hg _⟩
 case round =>
  clear HO0 DS0
  obtain ⟨k, ks, G, cp, hk, rfl, rfl, HK, HO, HD⟩ := hrel
  go_wp2_with fail
  refine (HB14.out _ HD.out.cur).mono ?_
  rintro e w2 ⟨x, hx, rfl, hc2, hg2⟩
  have HD2 : Hid (DS w g a len cap w2) := HD.out.step hc2 hg2
  have HO2 : Hid (w2.ownsRow w.heap.size 3 1 (.slice (some ⟨G, 0, none⟩) k cp) k (icz ks)) := own_keptG HO.out hg2 hg
  clear hc2 hg2 HD HO
  by_cases hlt : k < x
  ·have hlt' : (k : Int) < (x : Int) := by omega
   have hk12 : k ≤ 12 := by omega
   clear hx
   go_wp2_with fail
   refine (HB3.out _ HD2.out.cur).mono ?_
   rintro e w3 ⟨y, hy, rfl, hc3, hg3⟩
   have HD3 : Hid (DS w g a len cap w3) := HD2.out.step hc3 hg3
   have HO3 : Hid (w3.ownsRow w.heap.size 3 1 (.slice (some ⟨G, 0, none⟩) k cp) k (icz ks)) := own_keptG HO2.out hg3 hg
   have hw : IntKind.i64.wrap ((y : Int) - 1) = (y : Int) - 1 := by rw [IntKind.wrap_i64]; omega
   have hsz : w.heap.size ≤ w3.heap.size := HD3.out.gr.size
   have HK3 : Hid ((ks ++ [(y : Int) - 1]).length = k + 1) := by show _ = _; rw [List.length_append, HK.out]; rfl
   clear hc3 hg3 hlt hlt'
   go_wp2_with (at_builtin; refine wpAppH 28 3 1 8 (.int .i64 0) Tryz.underlying28 Tryz.info3 rfl (by decide) (by omega) (by rfl) _ _ (by rfl) (base := w.heap.size) (n := k) [.int .i64 ((y : Int) - 1)] (by rfl) (World.ownsRow.alloc HO3.out _) (by rfl) (by exact heap_alloc_new w3 _) rfl (by simp [Value.oneCell']) (by omega) (Nat.le_trans hsz (by simp)) ?_)
   intro g' cp' w4 hown4 hb4 hg4
   have HO4 : Hid (w4.ownsRow w.heap.size 3 1 (.slice (some ⟨g', 0, none⟩) (k + 1) cp') (k + 1) (icz (ks ++ [(y : Int) - 1]))) := by rw [icz_app]; exact hown4
   have HD4 : Hid (DS w g a len cap w4) := (HD3.out.alloc hg _).callB hb4 (Nat.le_refl _) hg HCODE.out
   clear hown4 hb4 hg4
   go_wp2
   go_roundw
   case rel => exact ⟨k + 1, _, g', cp', by omega, by go_num, by go_num, HK3, HO4, HD4⟩
   case measure => simp [intOf]; omega
  ·have hlt' : ¬ (k : Int) < (x : Int) := by omega
   have HO5 : Hid (w2.ownsRow w.heap.size 3 1 (.slice (some ⟨G, 0, none⟩) ks.length cp) ks.length (icz ks)) := by show World.ownsRow _ _ _ _ _ _ _; rw [HK.out]; exact HO2.out
   have HL : Hid (ks.length ≤ 13) := by show _ ≤ _; rw [HK.out]; exact hk
   go_wp2
   go_ret
   exact ⟨ks, G, cp, by rw [HK.out]; rfl, HL.out, HO5.out, HD2.out.cur, HD2.out.gr⟩

end Go.Proofs.YtekjpoenbcnhdaaGreat

namespace Go.Proofs.YtekjpoenbcnhdaaGreat
open Go.RowKit
open DM
open FM
attribute [local go_sem ↓] Go.wp_at_zero Go.wp_at_succ

theorem SRow.setS {w : World} {al : Option Addr} {ts : List ByteArray} {b i : Nat} {x : Option Addr} {n c : Nat} (h : SRow w al ts) (hx : w.cell? ⟨b, i, none⟩ = some (.slice x n c)) (v : Value) : SRow (w.setCell ⟨b, i, none⟩ v) al ts := fun h0 => by
 obtain ⟨b1, off, rfl, hlt, hc⟩ := h h0
 refine ⟨b1, off, rfl, by simpa [World.setCell] using hlt, fun j hj => ?_⟩
 by_cases he : (⟨b, i, none⟩ : Addr) = ⟨b1, off + j, none⟩
 ·have q := hc j hj
  rw [← he, hx] at q
  cases q
 ·rw [World.cell?_setCell_other _ _ _ _ he]
  exact hc j hj
def Q21 (w : World) (e : Ending) (w' : World) : Prop := ∃ (ss : List ByteArray) (cur : List Wr) (x1 : Option Addr) (x2 : Nat) (x3 : Option Addr) (x4 : Nat) (t : ByteArray), e = .returned (.tuple #[.agg #[.slice x1 ss.length x2, .slice x3 cur.length x4], .string t]) ∧ DOwn w' w.heap.size x1 x2 x3 x4 ss cur ∧ LbI ss cur ∧ t.size ≤ 30000 ∧ Below w.heap.size w w'

set_option maxRecDepth 100000 in
set_option maxHeartbeats 8000000 in
theorem dal21 (len cap : Nat) (a : Option Addr) (hl : len ≤ 1048576) (w : World) (hr : CodeRow w a len) :
  Calls Tryz.prog 21 #[.slice a len cap] w fun e w' => Q21 w e w' := by
 have HR : Hid (CodeRow w a len) := hr
 clear hr
 have YR : Hid (Bx (w.alloc (.cells #[.slice none 0 0, .slice none 0 0] 27)) w.heap.size (.slice none 0 0) (.slice none 0 0)) := Bx.new w _ _ 27
 have b0 : Hid (Below w.heap.size w (w.alloc (.cells #[.slice none 0 0, .slice none 0 0] 27))) := (belowRefl w).alloc (Nat.le_refl _) _
 have z0 : (w.alloc (.cells #[.slice none 0 0, .slice none 0 0] 27)).heap.size = w.heap.size + 1 := by simp
 go_enter Tryz.func21, Tryz.ntmps21
 go_wp2_with fail
 refine (dpr45 len cap a hl _ (HR.out.below b0.out)).mono ?_
 rintro e w1 ⟨ss, cur, x1, x2, x3, x4, z, t, rfl, hd, hI, ht, hb⟩
 rw [z0] at hd
 have HI : Hid (LbI ss cur) := hI
 have HT : Hid (t.size ≤ 30000) := ht
 have HZ : Hid (w.heap.size + 1 ≤ w1.heap.size) := by rw [← z0]; exact hb.size
 replace YR : Hid (Bx (w1.alloc (.cells #[.slice x1 ss.length x2, .slice x3 cur.length x4] 27)) w.heap.size (.slice none 0 0) (.slice none 0 0)) := (YR.out.keep hb YR.out.lt).alloc _
 have HB : Hid (Below w.heap.size w (w1.alloc (.cells #[.slice x1 ss.length x2, .slice x3 cur.length x4] 27))) := (b0.out.trans (hb.mono b0.out.size)).alloc (Nat.le_trans (Nat.le_succ _) HZ.out) _
 have HD : Hid (DOwn (w1.alloc (.cells #[.slice x1 ss.length x2, .slice x3 cur.length x4] 27)) (w.heap.size + 1) x1 x2 x3 x4 ss cur) := hd.below ((belowRefl w1).alloc (Nat.le_refl _) _)
 have Y4 : Hid (Bx (w1.alloc (.cells #[.slice x1 ss.length x2, .slice x3 cur.length x4] 27)) w1.heap.size (.slice x1 ss.length x2) (.slice x3 cur.length x4)) := Bx.new w1 _ _ _
 clear hd hI ht hb b0 z0
 have k0 := Y4.out.c0
 have k1 := Y4.out.c1
 have r0 := YR.out.c0
 have r1 := YR.out.c1
 have rf := YR.out.fz
 have V9 : Hid (Bx (((w1.alloc (.cells #[.slice x1 ss.length x2, .slice x3 cur.length x4] 27)).setCell ⟨w.heap.size, 0, none⟩ (.slice x1 ss.length x2)).setCell ⟨w.heap.size, 1, none⟩ (.slice x3 cur.length x4)) w.heap.size (.slice x1 ss.length x2) (.slice x3 cur.length x4)) := (YR.out.set0 _).set1 _
 have v0 := V9.out.c0
 have v1 := V9.out.c1
 go_wp2
 refine bodyPost_ret (v := .tuple #[.agg #[.slice x1 ss.length x2, .slice x3 cur.length x4], .string t]) (by simp [results, Tryz.results21, go_sem, v0, v1]) rfl ⟨ss, cur, x1, x2, x3, x4, t, rfl, ⟨?_, ?_⟩, HI.out, HT.out, ?_⟩
 ·exact ((HD.out.s.set (by show w.heap.size < _; omega) _).set (by show w.heap.size < _; omega) _).mono (by omega)
 ·exact ((HD.out.p.set (by show w.heap.size < _; omega) _).set (by show w.heap.size < _; omega) _).mono (by omega)
 ·exact (HB.out.setCell (Nat.le_refl _) _).setCell (Nat.le_refl _) _

def Q5 (w : World) (e : Ending) (w' : World) : Prop := ∃ (ss : List ByteArray) (cur : List Wr) (x1 : Option Addr) (x2 : Nat) (x3 : Option Addr) (x4 : Nat) (t : ByteArray) (st : Nat) (ks : List Int) (G cp tr : Nat), e = .returned (.tuple #[.agg #[.slice x1 ss.length x2, .slice x3 cur.length x4], .string t, .int .i64 (st : Int), .slice (some ⟨G, 0, none⟩) ks.length cp, .int .i64 (tr : Int)]) ∧ DOwn w' w.heap.size x1 x2 x3 x4 ss cur ∧ (LbI ss cur ∧ t.size ≤ 30000) ∧ KRow w' (some ⟨G, 0, none⟩) ks ∧ ks.length ≤ 13 ∧ Below w.heap.size w w'

set_option maxRecDepth 100000 in
set_option maxHeartbeats 8000000 in
theorem dca5 (len cap : Nat) (a : Option Addr) (hl : len ≤ 1048576) (w : World) (hr : CodeRow w a len) :
  Calls Tryz.prog 5 #[.slice a len cap] w fun e w' => Q5 w e w' := by
 have HR : Hid (CodeRow w a len) := hr
 have HCODE : Hid (∀ b off, a = some ⟨b, off, none⟩ → 0 < len → b < w.heap.size) := hr.blk
 clear hr
 have YR0 : Hid (Bx (w.alloc (.cells #[.slice none 0 0, .slice none 0 0] 27)) w.heap.size (.slice none 0 0) (.slice none 0 0)) := Bx.new w _ _ 27
 have b0 : Hid (Below w.heap.size w (w.alloc (.cells #[.slice none 0 0, .slice none 0 0] 27))) := (belowRefl w).alloc (Nat.le_refl _) _
 have z0 : (w.alloc (.cells #[.slice none 0 0, .slice none 0 0] 27)).heap.size = w.heap.size + 1 := by simp
 go_enter Tryz.func5, Tryz.ntmps5
 go_wp2_with fail
 refine (new16 len cap a hl _ (HR.out.below b0.out)).mono ?_
 rintro e w1 ⟨rfl, hc1, hb1, hz1⟩
 rw [z0] at hc1 hz1
 have YR1 : Hid (Bx w1 w.heap.size (.slice none 0 0) (.slice none 0 0)) := YR0.out.keep hb1 YR0.out.lt
 have HB1 : Hid (Below w.heap.size w w1) := b0.out.trans (hb1.mono b0.out.size)
 obtain ⟨g, hgE⟩ : ∃ g, g = w.heap.size + 1 := ⟨_, rfl⟩
 rw [← hgE] at hc1 hz1
 have hgl : w.heap.size < g := by omega
 rw [z0, ← hgE]
 have HC1 : Hid (CurOk w1 g a len cap) := hc1
 clear hb1 hc1 YR0 b0 z0 hgE
 go_wp2_with fail
 refine (below21 g len cap a 4 (by omega) (by omega) hl _ HC1.out).mono ?_
 rintro e w2 ⟨st, hst, rfl, hc2, hg2⟩
 have HC2 : Hid (CurOk w2 g a len cap) := hc2
 have YR2 : Hid (Bx w2 w.heap.size (.slice none 0 0) (.slice none 0 0)) := YR1.out.keepG hg2 (fun e => by have := Option.some.inj e; omega)
 have HB2 : Hid (Below w.heap.size w w2) := HB1.out.trans (below_of_grown hg2 (by omega) HB1.out.size)
 have hz2 : g < w2.heap.size := Nat.lt_of_lt_of_le hz1 hg2.size
 clear hc2 hg2 HC1 YR1 HB1 hst
 go_wp2_with fail
 refine (keep66 g len cap a hl _ HC2.out hz2 (fun b off e h0 => Nat.lt_of_lt_of_le (HCODE.out b off e h0) HB2.out.size)).mono ?_
 rintro e w3 ⟨ks, G, cp, rfl, hkl, ho3, hc3, hg3⟩
 have HC3 : Hid (CurOk w3 g a len cap) := hc3
 have YR3 : Hid (Bx w3 w.heap.size (.slice none 0 0) (.slice none 0 0)) := YR2.out.keepG hg3 (fun e => by have := Option.some.inj e; omega)
 have HB3 : Hid (Below w.heap.size w w3) := HB2.out.trans (below_of_grown hg3 (by omega) HB2.out.size)
 have hz3 : g < w3.heap.size := Nat.lt_of_lt_of_le hz2 hg3.size
 have HO3 : Hid (w3.ownsRow (g + 1) 3 1 (.slice (some ⟨G, 0, none⟩) ks.length cp) ks.length (icz ks)) := ownsMono ho3 hz2
 have HKL : Hid (ks.length ≤ 13) := hkl
 clear hc3 hg3 ho3 HC2 YR2 HB2 hkl
 go_wp2_with fail
 refine (below21 g len cap a 70 (by omega) (by omega) hl _ HC3.out).mono ?_
 rintro e w4 ⟨tr, htr, rfl, hc4, hg4⟩
 have YR4 : Hid (Bx w4 w.heap.size (.slice none 0 0) (.slice none 0 0)) := YR3.out.keepG hg4 (fun e => by have := Option.some.inj e; omega)
 have HB4 : Hid (Below w.heap.size w w4) := HB3.out.trans (below_of_grown hg4 (by omega) HB3.out.size)
 have HO4 : Hid (w4.ownsRow (g + 1) 3 1 (.slice (some ⟨G, 0, none⟩) ks.length cp) ks.length (icz ks)) := own_keptG HO3.out hg4 (by omega)
 have hz4 : g < w4.heap.size := Nat.lt_of_lt_of_le hz3 hg4.size
 clear hc4 hg4 HC3 YR3 HB3 HO3 htr
 go_wp2_with fail
 refine (dal21 len cap a hl _ (HR.out.below HB4.out)).mono ?_
 rintro e w5 ⟨ss, cur, x1, x2, x3, x4, t, rfl, hd, hI, ht, hb⟩
 have hbA : Below w5.heap.size w5 (w5.alloc (.cells #[.slice x1 ss.length x2, .slice x3 cur.length x4] 27)) := (belowRefl w5).alloc (Nat.le_refl _) _
 have HI : Hid (LbI ss cur) := hI
 have HT : Hid (t.size ≤ 30000) := ht
 clear hI ht
 have YR : Hid (Bx (w5.alloc (.cells #[.slice x1 ss.length x2, .slice x3 cur.length x4] 27)) w.heap.size (.slice none 0 0) (.slice none 0 0)) := (YR4.out.keep hb YR4.out.lt).alloc _
 have Y5 : Hid (Bx (w5.alloc (.cells #[.slice x1 ss.length x2, .slice x3 cur.length x4] 27)) w5.heap.size (.slice x1 ss.length x2) (.slice x3 cur.length x4)) := Bx.new w5 _ _ _
 have HB : Hid (Below w.heap.size w (w5.alloc (.cells #[.slice x1 ss.length x2, .slice x3 cur.length x4] 27))) := (HB4.out.trans (hb.mono HB4.out.size)).alloc (Nat.le_trans HB4.out.size hb.size) _
 have HD : Hid (DOwn (w5.alloc (.cells #[.slice x1 ss.length x2, .slice x3 cur.length x4] 27)) (w.heap.size + 1) x1 x2 x3 x4 ss cur) := (hd.mono (by omega)).below hbA
 have HO : Hid ((w5.alloc (.cells #[.slice x1 ss.length x2, .slice x3 cur.length x4] 27)).ownsRow (g + 1) 3 1 (.slice (some ⟨G, 0, none⟩) ks.length cp) ks.length (icz ks)) := World.ownsRow.alloc (ownsBelow HO4.out hb) _
 clear hd hb hbA YR4 HB4 HO4
 have k0 := Y5.out.c0
 have k1 := Y5.out.c1
 have r0 := YR.out.c0
 have r1 := YR.out.c1
 have rf := YR.out.fz
 have V8 : Hid (Bx ((w5.alloc (.cells #[.slice x1 ss.length x2, .slice x3 cur.length x4] 27)).setCell ⟨w.heap.size, 0, none⟩ (.slice x1 ss.length x2)) w.heap.size (.slice x1 ss.length x2) (.slice none 0 0)) := YR.out.set0 _
 have V9 : Hid (Bx (((w5.alloc (.cells #[.slice x1 ss.length x2, .slice x3 cur.length x4] 27)).setCell ⟨w.heap.size, 0, none⟩ (.slice x1 ss.length x2)).setCell ⟨w.heap.size, 1, none⟩ (.slice x3 cur.length x4)) w.heap.size (.slice x1 ss.length x2) (.slice x3 cur.length x4)) := V8.out.set1 _
 have v0 := V9.out.c0
 have v1 := V9.out.c1
 go_wp2
 refine bodyPost_ret (v := .tuple #[.agg #[.slice x1 ss.length x2, .slice x3 cur.length x4], .string t, .int .i64 (st : Int), .slice (some ⟨G, 0, none⟩) ks.length cp, .int .i64 (tr : Int)]) (by simp [results, Tryz.results5, go_sem, v0, v1]) rfl ⟨ss, cur, x1, x2, x3, x4, t, st, ks, G, cp, tr, rfl, ⟨?_, ?_⟩, ⟨HI.out, HT.out⟩, ?_, HKL.out, ?_⟩
 ·exact ((HD.out.s.set (by show w.heap.size < _; omega) _).set (by show w.heap.size < _; omega) _).mono (by omega)
 ·exact ((HD.out.p.set (by show w.heap.size < _; omega) _).set (by show w.heap.size < _; omega) _).mono (by omega)
 ·exact own_krow (ownsRow_setCell_below (ownsRow_setCell_below HO.out (by show w.heap.size < _; omega) _) (by show w.heap.size < _; omega) _)
 ·exact (HB.out.setCell (Nat.le_refl _) _).setCell (Nat.le_refl _) _

def Q6 (w : World) (e : Ending) (w' : World) : Prop := ∃ (ss : List ByteArray) (cur : List Wr) (x1 : Option Addr) (x2 : Nat) (x3 : Option Addr) (x4 : Nat) (ts : List ByteArray) (al : Option Addr) (cl : Nat) (st : Nat) (ks : List Int) (G cp tr : Nat), e = .returned (.tuple #[.agg #[.slice x1 ss.length x2, .slice x3 cur.length x4], .slice al ts.length cl, .int .i64 (st : Int), .slice (some ⟨G, 0, none⟩) ks.length cp, .int .i64 (tr : Int)]) ∧ DOwn w' w.heap.size x1 x2 x3 x4 ss cur ∧ (LaI ss cur ∧ SRow w' al ts ∧ (ts.length ≤ 3 ∧ ∀ t ∈ ts, t.size ≤ 30000)) ∧ KRow w' (some ⟨G, 0, none⟩) ks ∧ ks.length ≤ 13 ∧ Below w.heap.size w w'

set_option maxRecDepth 100000 in
set_option maxHeartbeats 8000000 in
theorem dcs6 (len cap : Nat) (a : Option Addr) (hl : len ≤ 1048576) (w : World) (hr : CodeRow w a len) :
  Calls Tryz.prog 6 #[.slice a len cap] w fun e w' => Q6 w e w' := by
 have HR : Hid (CodeRow w a len) := hr
 have HCODE : Hid (∀ b off, a = some ⟨b, off, none⟩ → 0 < len → b < w.heap.size) := hr.blk
 clear hr
 have YR0 : Hid (Bx (w.alloc (.cells #[.slice none 0 0, .slice none 0 0] 27)) w.heap.size (.slice none 0 0) (.slice none 0 0)) := Bx.new w _ _ 27
 have b0 : Hid (Below w.heap.size w (w.alloc (.cells #[.slice none 0 0, .slice none 0 0] 27))) := (belowRefl w).alloc (Nat.le_refl _) _
 have z0 : (w.alloc (.cells #[.slice none 0 0, .slice none 0 0] 27)).heap.size = w.heap.size + 1 := by simp
 go_enter Tryz.func6, Tryz.ntmps6
 go_wp2_with fail
 refine (new16 len cap a hl _ (HR.out.below b0.out)).mono ?_
 rintro e w1 ⟨rfl, hc1, hb1, hz1⟩
 rw [z0] at hc1 hz1
 have YR1 : Hid (Bx w1 w.heap.size (.slice none 0 0) (.slice none 0 0)) := YR0.out.keep hb1 YR0.out.lt
 have HB1 : Hid (Below w.heap.size w w1) := b0.out.trans (hb1.mono b0.out.size)
 obtain ⟨g, hgE⟩ : ∃ g, g = w.heap.size + 1 := ⟨_, rfl⟩
 rw [← hgE] at hc1 hz1
 have hgl : w.heap.size < g := by omega
 rw [z0, ← hgE]
 have HC1 : Hid (CurOk w1 g a len cap) := hc1
 clear hb1 hc1 YR0 b0 z0 hgE
 go_wp2_with fail
 refine (below21 g len cap a 5 (by omega) (by omega) hl _ HC1.out).mono ?_
 rintro e w2 ⟨st, hst, rfl, hc2, hg2⟩
 have HC2 : Hid (CurOk w2 g a len cap) := hc2
 have YR2 : Hid (Bx w2 w.heap.size (.slice none 0 0) (.slice none 0 0)) := YR1.out.keepG hg2 (fun e => by have := Option.some.inj e; omega)
 have HB2 : Hid (Below w.heap.size w w2) := HB1.out.trans (below_of_grown hg2 (by omega) HB1.out.size)
 have hz2 : g < w2.heap.size := Nat.lt_of_lt_of_le hz1 hg2.size
 clear hc2 hg2 HC1 YR1 HB1 hst
 go_wp2_with fail
 refine (keep66 g len cap a hl _ HC2.out hz2 (fun b off e h0 => Nat.lt_of_lt_of_le (HCODE.out b off e h0) HB2.out.size)).mono ?_
 rintro e w3 ⟨ks, G, cp, rfl, hkl, ho3, hc3, hg3⟩
 have HC3 : Hid (CurOk w3 g a len cap) := hc3
 have YR3 : Hid (Bx w3 w.heap.size (.slice none 0 0) (.slice none 0 0)) := YR2.out.keepG hg3 (fun e => by have := Option.some.inj e; omega)
 have HB3 : Hid (Below w.heap.size w w3) := HB2.out.trans (below_of_grown hg3 (by omega) HB2.out.size)
 have hz3 : g < w3.heap.size := Nat.lt_of_lt_of_le hz2 hg3.size
 have HO3 : Hid (w3.ownsRow (g + 1) 3 1 (.slice (some ⟨G, 0, none⟩) ks.length cp) ks.length (icz ks)) := ownsMono ho3 hz2
 have HKL : Hid (ks.length ≤ 13) := hkl
 clear hc3 hg3 ho3 HC2 YR2 HB2 hkl
 go_wp2_with fail
 refine (below21 g len cap a 70 (by omega) (by omega) hl _ HC3.out).mono ?_
 rintro e w4 ⟨tr, htr, rfl, hc4, hg4⟩
 have YR4 : Hid (Bx w4 w.heap.size (.slice none 0 0) (.slice none 0 0)) := YR3.out.keepG hg4 (fun e => by have := Option.some.inj e; omega)
 have HB4 : Hid (Below w.heap.size w w4) := HB3.out.trans (below_of_grown hg4 (by omega) HB3.out.size)
 have HO4 : Hid (w4.ownsRow (g + 1) 3 1 (.slice (some ⟨G, 0, none⟩) ks.length cp) ks.length (icz ks)) := own_keptG HO3.out hg4 (by omega)
 have hz4 : g < w4.heap.size := Nat.lt_of_lt_of_le hz3 hg4.size
 clear hc4 hg4 HC3 YR3 HB3 HO3 htr
 go_wp2_with fail
 refine (dsw41 len cap a hl _ (HR.out.below HB4.out)).mono ?_
 rintro e w5 ⟨ss, cur, x1, x2, x3, x4, ts, al, cl, rfl, hd, hI, hsr, hts, hb⟩
 have hbA : Below w5.heap.size w5 (w5.alloc (.cells #[.slice x1 ss.length x2, .slice x3 cur.length x4] 27)) := (belowRefl w5).alloc (Nat.le_refl _) _
 have HI : Hid (LaI ss cur) := hI
 have HTS : Hid (ts.length ≤ 3 ∧ ∀ t ∈ ts, t.size ≤ 30000) := hts
 have HS : Hid (SRow (w5.alloc (.cells #[.slice x1 ss.length x2, .slice x3 cur.length x4] 27)) al ts) := hsr.below hbA
 clear hI hts hsr
 have YR : Hid (Bx (w5.alloc (.cells #[.slice x1 ss.length x2, .slice x3 cur.length x4] 27)) w.heap.size (.slice none 0 0) (.slice none 0 0)) := (YR4.out.keep hb YR4.out.lt).alloc _
 have Y5 : Hid (Bx (w5.alloc (.cells #[.slice x1 ss.length x2, .slice x3 cur.length x4] 27)) w5.heap.size (.slice x1 ss.length x2) (.slice x3 cur.length x4)) := Bx.new w5 _ _ _
 have HB : Hid (Below w.heap.size w (w5.alloc (.cells #[.slice x1 ss.length x2, .slice x3 cur.length x4] 27))) := (HB4.out.trans (hb.mono HB4.out.size)).alloc (Nat.le_trans HB4.out.size hb.size) _
 have HD : Hid (DOwn (w5.alloc (.cells #[.slice x1 ss.length x2, .slice x3 cur.length x4] 27)) (w.heap.size + 1) x1 x2 x3 x4 ss cur) := (hd.mono (by omega)).below hbA
 have HO : Hid ((w5.alloc (.cells #[.slice x1 ss.length x2, .slice x3 cur.length x4] 27)).ownsRow (g + 1) 3 1 (.slice (some ⟨G, 0, none⟩) ks.length cp) ks.length (icz ks)) := World.ownsRow.alloc (ownsBelow HO4.out hb) _
 clear hd hb hbA YR4 HB4 HO4
 have k0 := Y5.out.c0
 have k1 := Y5.out.c1
 have r0 := YR.out.c0
 have r1 := YR.out.c1
 have rf := YR.out.fz
 have V8 : Hid (Bx ((w5.alloc (.cells #[.slice x1 ss.length x2, .slice x3 cur.length x4] 27)).setCell ⟨w.heap.size, 0, none⟩ (.slice x1 ss.length x2)) w.heap.size (.slice x1 ss.length x2) (.slice none 0 0)) := YR.out.set0 _
 have V9 : Hid (Bx (((w5.alloc (.cells #[.slice x1 ss.length x2, .slice x3 cur.length x4] 27)).setCell ⟨w.heap.size, 0, none⟩ (.slice x1 ss.length x2)).setCell ⟨w.heap.size, 1, none⟩ (.slice x3 cur.length x4)) w.heap.size (.slice x1 ss.length x2) (.slice x3 cur.length x4)) := V8.out.set1 _
 have v0 := V9.out.c0
 have v1 := V9.out.c1
 go_wp2
 refine bodyPost_ret (v := .tuple #[.agg #[.slice x1 ss.length x2, .slice x3 cur.length x4], .slice al ts.length cl, .int .i64 (st : Int), .slice (some ⟨G, 0, none⟩) ks.length cp, .int .i64 (tr : Int)]) (by simp [results, Tryz.results6, go_sem, v0, v1]) rfl ⟨ss, cur, x1, x2, x3, x4, ts, al, cl, st, ks, G, cp, tr, rfl, ⟨?_, ?_⟩, ⟨HI.out, (HS.out.setS YR.out.c0 _).setS V8.out.c1 _, HTS.out⟩, ?_, HKL.out, ?_⟩
 ·exact ((HD.out.s.set (by show w.heap.size < _; omega) _).set (by show w.heap.size < _; omega) _).mono (by omega)
 ·exact ((HD.out.p.set (by show w.heap.size < _; omega) _).set (by show w.heap.size < _; omega) _).mono (by omega)
 ·exact own_krow (ownsRow_setCell_below (ownsRow_setCell_below HO.out (by show w.heap.size < _; omega) _) (by show w.heap.size < _; omega) _)
 ·exact (HB.out.setCell (Nat.le_refl _) _).setCell (Nat.le_refl _) _

end Go.Proofs.YtekjpoenbcnhdaaGreat
