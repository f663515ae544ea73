/- All keys; lists of pairs held against each other. -/
import Derived.Test.YtnmggknpllnjiaaGreatPt01
import Derived.Test.YtnmggknpllnjiaaGreatPt33
namespace Go.Proofs.YtnmggknpllnjiaaGreat
open Go.RowKit
open KM
open VM
attribute [local go_sem ↓] Go.wp_at_zero Go.wp_at_succ

def allR : Rg := (⟨#[97]⟩, ⟨#[122, 122, 122]⟩)

set_option maxHeartbeats 400000 in
theorem all66 (w : World) : Calls Tryz.prog 26 #[] w fun e w' => e = .returned (.agg #[.string allR.1, .string allR.2]) ∧ Below w.heap.size w w' := by
 go_enter Tryz.func26, Tryz.ntmps26
 go_wp2
 exact bodyPost_ret (v := .agg #[.string ⟨#[97]⟩, .string ⟨#[122, 122, 122]⟩]) (by simp [results, Tryz.results26, go_sem]) rfl ⟨rfl, (belowRefl w).alloc (Nat.le_refl _) _⟩

set_option maxHeartbeats 400000 in
theorem all67 (w : World) : Calls Tryz.prog 16 #[] w fun e w' => e = .returned (.agg #[.string allR.1, .string allR.2]) ∧ Below w.heap.size w w' := by
 go_enter Tryz.func16, Tryz.ntmps16
 go_wp2
 exact bodyPost_ret (v := .agg #[.string ⟨#[97]⟩, .string ⟨#[122, 122, 122]⟩]) (by simp [results, Tryz.results16, go_sem]) rfl ⟨rfl, (belowRefl w).alloc (Nat.le_refl _) _⟩

set_option maxRecDepth 100000 in
set_option maxHeartbeats 1000000 in
theorem ipairs (ps qs : List Rg) (a1 a2 : Option Addr) (c1 c2 : Nat) (hn : ps.length ≤ 100000000) (w : World) (h1 : GRow encR w a1 ps) (h2 : GRow encR w a2 qs) :
  Calls Tryz.prog 27 #[.slice a1 ps.length c1, .slice a2 qs.length c2] w fun e w' => e = .returned (.bool (decide (ps = qs))) ∧ Below w.heap.size w w' := by
 have H1 : Hid (GRow encR w a1 ps) := h1
 have H2 : Hid (GRow encR w a2 qs) := h2
 clear h1 h2
 by_cases hl : ps.length = qs.length
 ·have hl' : ((ps.length : Int) != (qs.length : Int)) = false := by rw [hl]; simp
  have HLe : Hid (ps.length = qs.length) := hl
  clear hl
  go_enter Tryz.func27, Tryz.ntmps27
  go_wp2
  go_loopw [13] (fun t wr => ∃ k : Nat, k ≤ ps.length ∧ t = .int .i64 k ∧ Hid (ps.take k = qs.take k) ∧ Hid (Below w.heap.size w wr)) (fun t _ => ps.length - (intOf t).toNat)
  case atStart => exact ⟨0, Nat.zero_le _, rfl, rfl, Below.refl _ _⟩
  case round =>
   obtain ⟨k, hk, rfl, HT, HB⟩ := hrel
   by_cases hlt : k < ps.length
   ·have hlt' : (k : Int) < (ps.length : Int) := by omega
    have h0 : (0 : Int) ≤ (k : Int) := by omega
    have hltq : k < qs.length := by have := HLe.out; omega
    have hltq' : (k : Int) < (qs.length : Int) := by omega
    obtain ⟨b1, o1, rfl, hb1, q1⟩ := (H1.out.below HB.out) (by omega)
    obtain ⟨b2, o2, rfl, hb2, q2⟩ := (H2.out.below HB.out) (by omega)
    have r0 := (rat q1 k hlt).1
    have r1 := (rat q1 k hlt).2
    have r2 := (rat q2 k hltq).1
    have r3 := (rat q2 k hltq).2
    clear q1 q2
    by_cases f1 : ps[k].1.toList = qs[k].1.toList
    ·by_cases f2 : ps[k].2.toList = qs[k].2.toList
     ·have HT2 : Hid (ps.take (k + 1) = qs.take (k + 1)) := by
       show _ = _
       have he : ps[k] = qs[k] := Prod.ext (toList_inj f1) (toList_inj f2)
       rw [List.take_succ_eq_append_getElem hlt, List.take_succ_eq_append_getElem hltq, HT.out, he]
      go_wp2
      refine wp_region_held_drew (S := fun w' => w'.cell? ⟨b1, o1 + k * 2, none⟩ = some (.string ps[k].1) ∧ w'.cell? ⟨b1, o1 + k * 2 + 1, none⟩ = some (.string ps[k].2) ∧ w'.cell? ⟨b2, o2 + k * 2, none⟩ = some (.string qs[k].1) ∧ w'.cell? ⟨b2, o2 + k * 2 + 1, none⟩ = some (.string qs[k].2)) (by kernel_rfl) ⟨r0, r1, r2, r3⟩ (fun hHeld => ?_)
      (refine tk 0 ?_ rfl (Or.inl ⟨by rfl, ?_⟩) ?_; rotate_left; (focus (intro w h; (try dsimp only at h); go_simp; (try with_reducible rfl))); simp only [Act.put, tA, tB, tD, tE, tF])
      (refine tk 1 ?_ rfl (Or.inl ⟨by rfl, ?_⟩) ?_; rotate_left; (focus (intro w h; (try dsimp only at h); go_simp; (try with_reducible rfl))); simp only [Act.put, tA, tB, tC, tD, tE, tF])
      (refine tk 2 ?_ rfl (Or.inl ⟨by rfl, ?_⟩) ?_; rotate_left; (focus (intro w h; (try dsimp only at h); go_simp; (try with_reducible rfl))); simp only [Act.put, tA, tB, tC, tD, tE, tF])
      (refine tk 3 ?_ rfl (Or.inl ⟨by rfl, ?_⟩) ?_; rotate_left; (focus (intro w h; (try dsimp only at h); go_simp; (try with_reducible rfl))); simp only [Act.put, tA, tB, tC, tD, tE, tF])
      (refine tk 4 ?_ rfl (Or.inl ⟨by rfl, ?_⟩) ?_; rotate_left; (focus (intro w h; (try dsimp only at h); go_simp; (try with_reducible rfl))); simp only [Act.put, tA, tB, tC, tD, tE, tF])
      (refine tk 5 ?_ rfl (Or.inl ⟨by rfl, ?_⟩) ?_; rotate_left; (focus (intro w h; (try dsimp only at h); go_simp; (try with_reducible rfl))); simp only [Act.put, tA, tB, tC, tD, tE, tF])
      (refine tk 6 ?_ rfl (Or.inl ⟨by rfl, ?_⟩) ?_; rotate_left; (focus (intro w h; (try dsimp only at h); go_simp; (try with_reducible rfl))); simp only [Act.put, tA, tB, tC, tD, tE, tF])
      (refine tk 7 ?_ rfl (Or.inl ⟨by rfl, ?_⟩) ?_; rotate_left; (focus (intro w h; (try dsimp only at h); go_simp; (try with_reducible rfl))); simp only [Act.put, tA, tB, tC, tD, tE, tF])
      (refine tk 8 ?_ rfl (Or.inl ⟨by rfl, ?_⟩) ?_; rotate_left; (focus (intro w h; (try dsimp only at h); go_simp; (try with_reducible rfl))); simp only [Act.put, tA, tB, tC, tD, tE, tF])
      refine wpAnyH_done (by kernel_rfl) ?_ _
      go_wp2
      go_roundw
      case rel => exact ⟨k + 1, by omega, by go_num, HT2, HB.out.drew⟩
      case measure => simp [intOf]; omega
     ·have HR : Hid (decide (ps = qs) = false) := by
       show _ = _
       rw [decide_eq_false_iff_not]
       intro e
       subst e
       exact f2 rfl
      go_wp2
      refine wp_region_held_drew (S := fun w' => w'.cell? ⟨b1, o1 + k * 2, none⟩ = some (.string ps[k].1) ∧ w'.cell? ⟨b1, o1 + k * 2 + 1, none⟩ = some (.string ps[k].2) ∧ w'.cell? ⟨b2, o2 + k * 2, none⟩ = some (.string qs[k].1) ∧ w'.cell? ⟨b2, o2 + k * 2 + 1, none⟩ = some (.string qs[k].2)) (by kernel_rfl) ⟨r0, r1, r2, r3⟩ (fun hHeld => ?_)
      (refine tk 0 ?_ rfl (Or.inl ⟨by rfl, ?_⟩) ?_; rotate_left; (focus (intro w h; (try dsimp only at h); go_simp; (try with_reducible rfl))); simp only [Act.put, tA, tB, tD, tE, tF])
      (refine tk 1 ?_ rfl (Or.inl ⟨by rfl, ?_⟩) ?_; rotate_left; (focus (intro w h; (try dsimp only at h); go_simp; (try with_reducible rfl))); simp only [Act.put, tA, tB, tC, tD, tE, tF])
      (refine tk 2 ?_ rfl (Or.inl ⟨by rfl, ?_⟩) ?_; rotate_left; (focus (intro w h; (try dsimp only at h); go_simp; (try with_reducible rfl))); simp only [Act.put, tA, tB, tC, tD, tE, tF])
      (refine tk 3 ?_ rfl (Or.inl ⟨by rfl, ?_⟩) ?_; rotate_left; (focus (intro w h; (try dsimp only at h); go_simp; (try with_reducible rfl))); simp only [Act.put, tA, tB, tC, tD, tE, tF])
      (refine tk 4 ?_ rfl (Or.inl ⟨by rfl, ?_⟩) ?_; rotate_left; (focus (intro w h; (try dsimp only at h); go_simp; (try with_reducible rfl))); simp only [Act.put, tA, tB, tC, tD, tE, tF])
      (refine tk 5 ?_ rfl (Or.inl ⟨by rfl, ?_⟩) ?_; rotate_left; (focus (intro w h; (try dsimp only at h); go_simp; (try with_reducible rfl))); simp only [Act.put, tA, tB, tC, tD, tE, tF])
      (refine tk 6 ?_ rfl (Or.inl ⟨by rfl, ?_⟩) ?_; rotate_left; (focus (intro w h; (try dsimp only at h); go_simp; (try with_reducible rfl))); simp only [Act.put, tA, tB, tC, tD, tE, tF])
      (refine tk 7 ?_ rfl (Or.inl ⟨by rfl, ?_⟩) ?_; rotate_left; (focus (intro w h; (try dsimp only at h); go_simp; (try with_reducible rfl))); simp only [Act.put, tA, tB, tC, tD, tE, tF])
      (refine tk 8 ?_ rfl (Or.inl ⟨by rfl, ?_⟩) ?_; rotate_left; (focus (intro w h; (try dsimp only at h); go_simp; (try with_reducible rfl))); simp only [Act.put, tA, tB, tC, tD, tE, tF])
      refine wpAnyH_done (by kernel_rfl) ?_ _
      go_wp2
      go_ret
      exact ⟨ret_bool HR.out.symm, HB.out.drew⟩
    ·have HR : Hid (decide (ps = qs) = false) := by
      show _ = _
      rw [decide_eq_false_iff_not]
      intro e
      subst e
      exact f1 rfl
     go_wp2
     refine wp_region_held_drew (S := fun w' => w'.cell? ⟨b1, o1 + k * 2, none⟩ = some (.string ps[k].1) ∧ w'.cell? ⟨b1, o1 + k * 2 + 1, none⟩ = some (.string ps[k].2) ∧ w'.cell? ⟨b2, o2 + k * 2, none⟩ = some (.string qs[k].1) ∧ w'.cell? ⟨b2, o2 + k * 2 + 1, none⟩ = some (.string qs[k].2)) (by kernel_rfl) ⟨r0, r1, r2, r3⟩ (fun hHeld => ?_)
     (refine tk 0 ?_ rfl (Or.inl ⟨by rfl, ?_⟩) ?_; rotate_left; (focus (intro w h; (try dsimp only at h); go_simp; (try with_reducible rfl))); simp only [Act.put, tA, tB, tD, tE, tF])
     (refine tk 1 ?_ rfl (Or.inl ⟨by rfl, ?_⟩) ?_; rotate_left; (focus (intro w h; (try dsimp only at h); go_simp; (try with_reducible rfl))); simp only [Act.put, tA, tB, tC, tD, tE, tF])
     (refine tk 2 ?_ rfl (Or.inl ⟨by rfl, ?_⟩) ?_; rotate_left; (focus (intro w h; (try dsimp only at h); go_simp; (try with_reducible rfl))); simp only [Act.put, tA, tB, tC, tD, tE, tF])
     (refine tk 3 ?_ rfl (Or.inl ⟨by rfl, ?_⟩) ?_; rotate_left; (focus (intro w h; (try dsimp only at h); go_simp; (try with_reducible rfl))); simp only [Act.put, tA, tB, tC, tD, tE, tF])
     (refine tk 4 ?_ rfl (Or.inl ⟨by rfl, ?_⟩) ?_; rotate_left; (focus (intro w h; (try dsimp only at h); go_simp; (try with_reducible rfl))); simp only [Act.put, tA, tB, tC, tD, tE, tF])
     (refine tk 5 ?_ rfl (Or.inl ⟨by rfl, ?_⟩) ?_; rotate_left; (focus (intro w h; (try dsimp only at h); go_simp; (try with_reducible rfl))); simp only [Act.put, tA, tB, tC, tD, tE, tF])
     (refine tk 6 ?_ rfl (Or.inl ⟨by rfl, ?_⟩) ?_; rotate_left; (focus (intro w h; (try dsimp only at h); go_simp; (try with_reducible rfl))); simp only [Act.put, tA, tB, tC, tD, tE, tF])
     (refine tk 7 ?_ rfl (Or.inl ⟨by rfl, ?_⟩) ?_; rotate_left; (focus (intro w h; (try dsimp only at h); go_simp; (try with_reducible rfl))); simp only [Act.put, tA, tB, tC, tD, tE, tF])
     (refine tk 8 ?_ rfl (Or.inl ⟨by rfl, ?_⟩) ?_; rotate_left; (focus (intro w h; (try dsimp only at h); go_simp; (try with_reducible rfl))); simp only [Act.put, tA, tB, tC, tD, tE, tF])
     refine wpAnyH_done (by kernel_rfl) ?_ _
     go_wp2
     go_ret
     exact ⟨ret_bool HR.out.symm, HB.out.drew⟩
   ·have hd : ¬ (k : Int) < (ps.length : Int) := by omega
    have HR : Hid (decide (ps = qs) = true) := by
     show _ = _
     have h := HT.out
     rw [List.take_of_length_le (by omega), List.take_of_length_le (by have := HLe.out; omega)] at h
     rw [h]; simp
    go_wp2
    go_ret
    exact ⟨ret_bool HR.out.symm, HB.out⟩
 ·have hl' : ((ps.length : Int) != (qs.length : Int)) = true := by rw [bne_iff_ne]; omega
  have HR : Hid (decide (ps = qs) = false) := by show _ = _; rw [decide_eq_false_iff_not]; intro e; exact hl (by rw [e])
  clear hl
  go_enter Tryz.func27, Tryz.ntmps27
  go_wp2
  go_ret
  exact ⟨ret_bool HR.out.symm, belowRefl w⟩

set_option maxRecDepth 100000 in
set_option maxHeartbeats 1000000 in
theorem spairs (ps qs : List Rg) (a1 a2 : Option Addr) (c1 c2 : Nat) (hn : ps.length ≤ 100000000) (w : World) (h1 : GRow encR w a1 ps) (h2 : GRow encR w a2 qs) :
  Calls Tryz.prog 14 #[.slice a1 ps.length c1, .slice a2 qs.length c2] w fun e w' => e = .returned (.bool (decide (ps = qs))) ∧ Below w.heap.size w w' := by
 have H1 : Hid (GRow encR w a1 ps) := h1
 have H2 : Hid (GRow encR w a2 qs) := h2
 clear h1 h2
 by_cases hl : ps.length = qs.length
 ·have hl' : ((ps.length : Int) != (qs.length : Int)) = false := by rw [hl]; simp
  have HLe : Hid (ps.length = qs.length) := hl
  clear hl
  go_enter Tryz.func14, Tryz.ntmps14
  go_wp2
  go_loopw [5] (fun t wr => ∃ k : Nat, k ≤ ps.length ∧ t = .int .i64 k ∧ Hid (ps.take k = qs.take k) ∧ Hid (Below w.heap.size w wr)) (fun t _ => ps.length - (intOf t).toNat)
  case atStart => exact ⟨0, Nat.zero_le _, rfl, rfl, Below.refl _ _⟩
  case round =>
   obtain ⟨k, hk, rfl, HT, HB⟩ := hrel
   by_cases hlt : k < ps.length
   ·have hlt' : (k : Int) < (ps.length : Int) := by omega
    have h0 : (0 : Int) ≤ (k : Int) := by omega
    have hltq : k < qs.length := by have := HLe.out; omega
    have hltq' : (k : Int) < (qs.length : Int) := by omega
    obtain ⟨b1, o1, rfl, hb1, q1⟩ := (H1.out.below HB.out) (by omega)
    obtain ⟨b2, o2, rfl, hb2, q2⟩ := (H2.out.below HB.out) (by omega)
    have r0 := (rat q1 k hlt).1
    have r1 := (rat q1 k hlt).2
    have r2 := (rat q2 k hltq).1
    have r3 := (rat q2 k hltq).2
    clear q1 q2
    by_cases f1 : ps[k].1.toList = qs[k].1.toList
    ·by_cases f2 : ps[k].2.toList = qs[k].2.toList
     ·have HT2 : Hid (ps.take (k + 1) = qs.take (k + 1)) := by
       show _ = _
       have he : ps[k] = qs[k] := Prod.ext (toList_inj f1) (toList_inj f2)
       rw [List.take_succ_eq_append_getElem hlt, List.take_succ_eq_append_getElem hltq, HT.out, he]
      go_wp2
      refine wp_region_held_drew (S := fun w' => w'.cell? ⟨b1, o1 + k * 2, none⟩ = some (.string ps[k].1) ∧ w'.cell? ⟨b1, o1 + k * 2 + 1, none⟩ = some (.string ps[k].2) ∧ w'.cell? ⟨b2, o2 + k * 2, none⟩ = some (.string qs[k].1) ∧ w'.cell? ⟨b2, o2 + k * 2 + 1, none⟩ = some (.string qs[k].2)) (by kernel_rfl) ⟨r0, r1, r2, r3⟩ (fun hHeld => ?_)
      (refine tk 0 ?_ rfl (Or.inl ⟨by rfl, ?_⟩) ?_; rotate_left; (focus (intro w h; (try dsimp only at h); go_simp; (try with_reducible rfl))); simp only [Act.put, tA, tB, tD, tE, tF])
      (refine tk 1 ?_ rfl (Or.inl ⟨by rfl, ?_⟩) ?_; rotate_left; (focus (intro w h; (try dsimp only at h); go_simp; (try with_reducible rfl))); simp only [Act.put, tA, tB, tC, tD, tE, tF])
      (refine tk 2 ?_ rfl (Or.inl ⟨by rfl, ?_⟩) ?_; rotate_left; (focus (intro w h; (try dsimp only at h); go_simp; (try with_reducible rfl))); simp only [Act.put, tA, tB, tC, tD, tE, tF])
      (refine tk 3 ?_ rfl (Or.inl ⟨by rfl, ?_⟩) ?_; rotate_left; (focus (intro w h; (try dsimp only at h); go_simp; (try with_reducible rfl))); simp only [Act.put, tA, tB, tC, tD, tE, tF])
      (refine tk 4 ?_ rfl (Or.inl ⟨by rfl, ?_⟩) ?_; rotate_left; (focus (intro w h; (try dsimp only at h); go_simp; (try with_reducible rfl))); simp only [Act.put, tA, tB, tC, tD, tE, tF])
      (refine tk 5 ?_ rfl (Or.inl ⟨by rfl, ?_⟩) ?_; rotate_left; (focus (intro w h; (try dsimp only at h); go_simp; (try with_reducible rfl))); simp only [Act.put, tA, tB, tC, tD, tE, tF])
      (refine tk 6 ?_ rfl (Or.inl ⟨by rfl, ?_⟩) ?_; rotate_left; (focus (intro w h; (try dsimp only at h); go_simp; (try with_reducible rfl))); simp only [Act.put, tA, tB, tC, tD, tE, tF])
      (refine tk 7 ?_ rfl (Or.inl ⟨by rfl, ?_⟩) ?_; rotate_left; (focus (intro w h; (try dsimp only at h); go_simp; (try with_reducible rfl))); simp only [Act.put, tA, tB, tC, tD, tE, tF])
      (refine tk 8 ?_ rfl (Or.inl ⟨by rfl, ?_⟩) ?_; rotate_left; (focus (intro w h; (try dsimp only at h); go_simp; (try with_reducible rfl))); simp only [Act.put, tA, tB, tC, tD, tE, tF])
      refine wpAnyH_done (by kernel_rfl) ?_ _
      go_wp2
      go_roundw
      case rel => exact ⟨k + 1, by omega, by go_num, HT2, HB.out.drew⟩
      case measure => simp [intOf]; omega
     ·have HR : Hid (decide (ps = qs) = false) := by
       show _ = _
       rw [decide_eq_false_iff_not]
       intro e
       subst e
       exact f2 rfl
      go_wp2
      refine wp_region_held_drew (S := fun w' => w'.cell? ⟨b1, o1 + k * 2, none⟩ = some (.string ps[k].1) ∧ w'.cell? ⟨b1, o1 + k * 2 + 1, none⟩ = some (.string ps[k].2) ∧ w'.cell? ⟨b2, o2 + k * 2, none⟩ = some (.string qs[k].1) ∧ w'.cell? ⟨b2, o2 + k * 2 + 1, none⟩ = some (.string qs[k].2)) (by kernel_rfl) ⟨r0, r1, r2, r3⟩ (fun hHeld => ?_)
      (refine tk 0 ?_ rfl (Or.inl ⟨by rfl, ?_⟩) ?_; rotate_left; (focus (intro w h; (try dsimp only at h); go_simp; (try with_reducible rfl))); simp only [Act.put, tA, tB, tD, tE, tF])
      (refine tk 1 ?_ rfl (Or.inl ⟨by rfl, ?_⟩) ?_; rotate_left; (focus (intro w h; (try dsimp only at h); go_simp; (try with_reducible rfl))); simp only [Act.put, tA, tB, tC, tD, tE, tF])
      (refine tk 2 ?_ rfl (Or.inl ⟨by rfl, ?_⟩) ?_; rotate_left; (focus (intro w h; (try dsimp only at h); go_simp; (try with_reducible rfl))); simp only [Act.put, tA, tB, tC, tD, tE, tF])
      (refine tk 3 ?_ rfl (Or.inl ⟨by rfl, ?_⟩) ?_; rotate_left; (focus (intro w h; (try dsimp only at h); go_simp; (try with_reducible rfl))); simp only [Act.put, tA, tB, tC, tD, tE, tF])
      (refine tk 4 ?_ rfl (Or.inl ⟨by rfl, ?_⟩) ?_; rotate_left; (focus (intro w h; (try dsimp only at h); go_simp; (try with_reducible rfl))); simp only [Act.put, tA, tB, tC, tD, tE, tF])
      (refine tk 5 ?_ rfl (Or.inl ⟨by rfl, ?_⟩) ?_; rotate_left; (focus (intro w h; (try dsimp only at h); go_simp; (try with_reducible rfl))); simp only [Act.put, tA, tB, tC, tD, tE, tF])
      (refine tk 6 ?_ rfl (Or.inl ⟨by rfl, ?_⟩) ?_; rotate_left; (focus (intro w h; (try dsimp only at h); go_simp; (try with_reducible rfl))); simp only [Act.put, tA, tB, tC, tD, tE, tF])
      (refine tk 7 ?_ rfl (Or.inl ⟨by rfl, ?_⟩) ?_; rotate_left; (focus (intro w h; (try dsimp only at h); go_simp; (try with_reducible rfl))); simp only [Act.put, tA, tB, tC, tD, tE, tF])
      (refine tk 8 ?_ rfl (Or.inl ⟨by rfl, ?_⟩) ?_; rotate_left; (focus (intro w h; (try dsimp only at h); go_simp; (try with_reducible rfl))); simp only [Act.put, tA, tB, tC, tD, tE, tF])
      refine wpAnyH_done (by kernel_rfl) ?_ _
      go_wp2
      go_ret
      exact ⟨ret_bool HR.out.symm, HB.out.drew⟩
    ·have HR : Hid (decide (ps = qs) = false) := by
      show _ = _
      rw [decide_eq_false_iff_not]
      intro e
      subst e
      exact f1 rfl
     go_wp2
     refine wp_region_held_drew (S := fun w' => w'.cell? ⟨b1, o1 + k * 2, none⟩ = some (.string ps[k].1) ∧ w'.cell? ⟨b1, o1 + k * 2 + 1, none⟩ = some (.string ps[k].2) ∧ w'.cell? ⟨b2, o2 + k * 2, none⟩ = some (.string qs[k].1) ∧ w'.cell? ⟨b2, o2 + k * 2 + 1, none⟩ = some (.string qs[k].2)) (by kernel_rfl) ⟨r0, r1, r2, r3⟩ (fun hHeld => ?_)
     (refine tk 0 ?_ rfl (Or.inl ⟨by rfl, ?_⟩) ?_; rotate_left; (focus (intro w h; (try dsimp only at h); go_simp; (try with_reducible rfl))); simp only [Act.put, tA, tB, tD, tE, tF])
     (refine tk 1 ?_ rfl (Or.inl ⟨by rfl, ?_⟩) ?_; rotate_left; (focus (intro w h; (try dsimp only at h); go_simp; (try with_reducible rfl))); simp only [Act.put, tA, tB, tC, tD, tE, tF])
     (refine tk 2 ?_ rfl (Or.inl ⟨by rfl, ?_⟩) ?_; rotate_left; (focus (intro w h; (try dsimp only at h); go_simp; (try with_reducible rfl))); simp only [Act.put, tA, tB, tC, tD, tE, tF])
     (refine tk 3 ?_ rfl (Or.inl ⟨by rfl, ?_⟩) ?_; rotate_left; (focus (intro w h; (try dsimp only at h); go_simp; (try with_reducible rfl))); simp only [Act.put, tA, tB, tC, tD, tE, tF])
     (refine tk 4 ?_ rfl (Or.inl ⟨by rfl, ?_⟩) ?_; rotate_left; (focus (intro w h; (try dsimp only at h); go_simp; (try with_reducible rfl))); simp only [Act.put, tA, tB, tC, tD, tE, tF])
     (refine tk 5 ?_ rfl (Or.inl ⟨by rfl, ?_⟩) ?_; rotate_left; (focus (intro w h; (try dsimp only at h); go_simp; (try with_reducible rfl))); simp only [Act.put, tA, tB, tC, tD, tE, tF])
     (refine tk 6 ?_ rfl (Or.inl ⟨by rfl, ?_⟩) ?_; rotate_left; (focus (intro w h; (try dsimp only at h); go_simp; (try with_reducible rfl))); simp only [Act.put, tA, tB, tC, tD, tE, tF])
     (refine tk 7 ?_ rfl (Or.inl ⟨by rfl, ?_⟩) ?_; rotate_left; (focus (intro w h; (try dsimp only at h); go_simp; (try with_reducible rfl))); simp only [Act.put, tA, tB, tC, tD, tE, tF])
     (refine tk 8 ?_ rfl (Or.inl ⟨by rfl, ?_⟩) ?_; rotate_left; (focus (intro w h; (try dsimp only at h); go_simp; (try with_reducible rfl))); simp only [Act.put, tA, tB, tC, tD, tE, tF])
     refine wpAnyH_done (by kernel_rfl) ?_ _
     go_wp2
     go_ret
     exact ⟨ret_bool HR.out.symm, HB.out.drew⟩
   ·have hd : ¬ (k : Int) < (ps.length : Int) := by omega
    have HR : Hid (decide (ps = qs) = true) := by
     show _ = _
     have h := HT.out
     rw [List.take_of_length_le (by omega), List.take_of_length_le (by have := HLe.out; omega)] at h
     rw [h]; simp
    go_wp2
    go_ret
    exact ⟨ret_bool HR.out.symm, HB.out⟩
 ·have hl' : ((ps.length : Int) != (qs.length : Int)) = true := by rw [bne_iff_ne]; omega
  have HR : Hid (decide (ps = qs) = false) := by show _ = _; rw [decide_eq_false_iff_not]; intro e; exact hl (by rw [e])
  clear hl
  go_enter Tryz.func14, Tryz.ntmps14
  go_wp2
  go_ret
  exact ⟨ret_bool HR.out.symm, belowRefl w⟩
end Go.Proofs.YtnmggknpllnjiaaGreat
