/- What WritesOk returns, on both sides. -/
import Derived.Test.YtpnnncfbodfnhaaGreatDoorPr01
import Derived.Test.YtpnnncfbodfnhaaGreatDoorPr02
import Derived.Deep.RegionHeld
namespace Go.Proofs.YtpnnncfbodfnhaaGreatDoor
open Go.RowKit
open KM
attribute [local go_sem ↓] Go.wp_at_zero Go.wp_at_succ

def Good (xs : List Wt) (k : Nat) : Prop := ∀ j (h : j < xs.length), j < k → writeB xs[j] = true ∧ ∀ (_ : 0 < j), lt (xs[j - 1]'(by omega)).1 xs[j].1 = true
theorem good_all {xs : List Wt} {k : Nat} (h : Good xs k) (hk : xs.length ≤ k) (h8 : xs.length ≤ 8) : writesB xs = true := by
 unfold writesB
 simp only [Bool.and_eq_true, decide_eq_true_eq]
 exact ⟨h8, fun j hj => h j hj (by omega)⟩
theorem good_len {xs : List Wt} (h8 : ¬ xs.length ≤ 8) : writesB xs = false := by
 unfold writesB
 rw [decide_eq_false h8]; rfl
theorem good_whole {xs : List Wt} {k : Nat} (h : Good xs k) (hk : xs.length ≤ k) : decide (xs.length ≤ 8) = writesB xs := by
 by_cases h8 : xs.length ≤ 8
 ·rw [good_all h hk h8, decide_eq_true h8]
 ·rw [good_len h8, decide_eq_false h8]
theorem good_no {xs : List Wt} (k : Nat) (hk : k < xs.length) (h : ¬ (writeB xs[k] = true ∧ ∀ (_ : 0 < k), lt (xs[k - 1]'(by omega)).1 xs[k].1 = true)) : writesB xs = false := by
 cases hw : writesB xs
 ·rfl
 ·unfold writesB at hw
  simp only [Bool.and_eq_true, decide_eq_true_eq] at hw
  exact absurd (hw.2 k hk) h
theorem good_more {xs : List Wt} {k : Nat} (hg : Good xs k) (hk : k < xs.length) (h : writeB xs[k] = true ∧ ∀ (_ : 0 < k), lt (xs[k - 1]'(by omega)).1 xs[k].1 = true) : Good xs (k + 1) := fun j hj h2 => by
 by_cases e : j = k
 ·subst e; exact h
 ·exact hg j hj (by omega)

set_option maxRecDepth 100000 in
set_option maxHeartbeats 4000000 in
theorem iwrites (xs : List Wt) (a : Option Addr) (c : Nat) (hn : xs.length ≤ 100000000) (w : World) (hp : GRow encW w a xs) :
  Calls Tryz.prog 121 #[.slice a xs.length c] w fun e w' => e = .returned (.bool (writesB xs)) ∧ Below w.heap.size w w' := by
 have HP : Hid (GRow encW w a xs) := hp
 clear hp
 by_cases h8 : xs.length ≤ 8
 ·have h8' : ¬ (8 : Int) < (xs.length : Int) := by omega
  go_enter Tryz.func121, Tryz.ntmps121
  go_wp2
  go_loopw [10] (fun t wr => ∃ k : Nat, k ≤ xs.length ∧ t = .int .i64 k ∧ Hid (Good xs k) ∧ Hid (Below w.heap.size w wr)) (fun t _ => xs.length - (intOf t).toNat)
  case atStart => exact ⟨0, Nat.zero_le _, rfl, fun j hj h => by omega, belowRefl w⟩
  case round =>
   obtain ⟨k, hk, rfl, HG, HB⟩ := hrel
   by_cases hlt : k < xs.length
   ·have hlt' : (k : Int) < (xs.length : Int) := by omega
    have hk0 : (0 : Int) ≤ (k : Int) := by omega
    have HR : Hid (GRow encW wr a xs) := HP.out.below HB.out
    obtain ⟨b, off, rfl, hbl, hc⟩ := HR.out (by omega)
    have r0 := (wat hc k hlt).1
    have r1 := (wat hc k hlt).2.1
    have r2 := (wat hc k hlt).2.2
    clear hc
    have HX : Hid (Box (wr.alloc (.cells #[.string xs[k].1, .string xs[k].2.1, .bool xs[k].2.2] 111)) wr.heap.size [.string xs[k].1, .string xs[k].2.1, .bool xs[k].2.2]) := Box.new wr [.string xs[k].1, .string xs[k].2.1, .bool xs[k].2.2] 111
    have HB1 : Hid (Below w.heap.size w (wr.alloc (.cells #[.string xs[k].1, .string xs[k].2.1, .bool xs[k].2.2] 111))) := HB.out.alloc HB.out.size _
    have HR1 : Hid (GRow encW (wr.alloc (.cells #[.string xs[k].1, .string xs[k].2.1, .bool xs[k].2.2] 111)) (some ⟨b, off, none⟩) xs) := HR.out.below ((belowRefl wr).alloc (Nat.le_refl _) _)
    cases hw : writeB xs[k]
    ·have C1 : Hid (∀ w, Calls Tryz.prog 131 #[.agg #[.string xs[k].1, .string xs[k].2.1, .bool xs[k].2.2]] w fun e w' => e = .returned (.bool false) ∧ Below w.heap.size w w') := fun w => hw ▸ iwrite xs[k].1 xs[k].2.1 xs[k].2.2 w
     have HN : Hid (writesB xs = false) := good_no k hlt (fun h => by rw [hw] at h; cases h.1)
     clear hw
     go_wp2
     generalize (wr.alloc (.cells #[.string xs[k].1, .string xs[k].2.1, .bool xs[k].2.2] 111)) = W1 at *
     have c0 := HX.out.c0
     have c1 := HX.out.c1
     have c2 := HX.out.c2
     refine wp_region_held_drew (S := fun w' => w'.cell? ⟨wr.heap.size, 0, none⟩ = some (.string xs[k].1) ∧ w'.cell? ⟨wr.heap.size, 1, none⟩ = some (.string xs[k].2.1) ∧ w'.cell? ⟨wr.heap.size, 2, none⟩ = some (.bool xs[k].2.2)) (by kernel_rfl) ⟨c0, c1, c2⟩ (fun hHeld => ?_)
     (refine ti 0 ?_; simp only [Act.put, tA, tB, tD, tE, tF])
     refine wpAnyH_ready (rs := [1]) (by kernel_rfl) (by simp) ?_
     refine AllReadyH.cons rfl (fun K hK => ?_) AllReadyH.nil
     go_simp
     go_wp2_with (go_at_call 131; refine (C1.out _).mono ?_; rintro e w2 ⟨rfl, hb2⟩; have Q := HX.out.below (undrew hb2); have q0 := Q.c0; have q1 := Q.c1; have q2 := Q.c2; clear Q)
     refine hK.out _ _ ⟨q0, q1, q2⟩ (fun hHeld2 => ?_)
     clear hK K
     (refine ti 2 ?_; simp only [Act.put, tA, tB, tC, tD, tE, tF])
     (refine ti 3 ?_; simp only [Act.put, tA, tB, tC, tD, tE, tF])
     (refine tu 4 ?_; simp only [Act.put, tA, tB, tC, tD, tE, tF])
     (refine tu 5 ?_; simp only [Act.put, tA, tB, tC, tD, tE, tF])
     (refine tu 6 ?_; simp only [Act.put, tA, tB, tC, tD, tE, tF])
     (refine tu 7 ?_; simp only [Act.put, tA, tB, tC, tD, tE, tF])
     (refine tu 8 ?_; simp only [Act.put, tA, tB, tC, tD, tE, tF])
     (refine tu 9 ?_; simp only [Act.put, tA, tB, tC, tD, tE, tF])
     (refine tu 10 ?_; simp only [Act.put, tA, tB, tC, tD, tE, tF])
     (refine tu 11 ?_; simp only [Act.put, tA, tB, tC, tD, tE, tF])
     (refine tu 12 ?_; simp only [Act.put, tA, tB, tC, tD, tE, tF])
     (refine tu 13 ?_; simp only [Act.put, tA, tB, tC, tD, tE, tF])
     (refine tu 14 ?_; simp only [Act.put, tA, tB, tC, tD, tE, tF])
     (refine tu 15 ?_; simp only [Act.put, tA, tB, tC, tD, tE, tF])
     (refine tu 16 ?_; simp only [Act.put, tA, tB, tC, tD, tE, tF])
     (refine ti 17 ?_; simp only [Act.put, tA, tB, tC, tD, tE, tF])
     refine wpAnyH_done (by kernel_rfl) ?_ _
     go_wp2
     go_ret
     exact ⟨ret_bool HN.out.symm, HB1.out.trans ((undrew hb2).mono HB1.out.size)⟩
    ·have C1 : Hid (∀ w, Calls Tryz.prog 131 #[.agg #[.string xs[k].1, .string xs[k].2.1, .bool xs[k].2.2]] w fun e w' => e = .returned (.bool true) ∧ Below w.heap.size w w') := fun w => hw ▸ iwrite xs[k].1 xs[k].2.1 xs[k].2.2 w
     by_cases hz : k = 0
     ·have hz' : ¬ (0 : Int) < (k : Int) := by omega
      have HG2 : Hid (Good xs (k + 1)) := good_more HG.out hlt ⟨hw, fun h => by omega⟩
      clear hw hz
      go_wp2
      generalize (wr.alloc (.cells #[.string xs[k].1, .string xs[k].2.1, .bool xs[k].2.2] 111)) = W1 at *
      have c0 := HX.out.c0
      have c1 := HX.out.c1
      have c2 := HX.out.c2
      have hzd : decide (0 < k) = false := by simp; omega
      refine wp_region_held_drew (S := fun w' => w'.cell? ⟨wr.heap.size, 0, none⟩ = some (.string xs[k].1) ∧ w'.cell? ⟨wr.heap.size, 1, none⟩ = some (.string xs[k].2.1) ∧ w'.cell? ⟨wr.heap.size, 2, none⟩ = some (.bool xs[k].2.2)) (by kernel_rfl) ⟨c0, c1, c2⟩ (fun hHeld => ?_)
      (refine ti 0 ?_; simp only [Act.put, tA, tB, tD, tE, tF])
      refine wpAnyH_ready (rs := [1]) (by kernel_rfl) (by simp) ?_
      refine AllReadyH.cons rfl (fun K hK => ?_) AllReadyH.nil
      go_simp
      go_wp2_with (go_at_call 131; refine (C1.out _).mono ?_; rintro e w2 ⟨rfl, hb2⟩; have Q := HX.out.below (undrew hb2); have q0 := Q.c0; have q1 := Q.c1; have q2 := Q.c2; clear Q)
      refine hK.out _ _ ⟨q0, q1, q2⟩ (fun hHeld2 => ?_)
      clear hK K
      (refine ti 2 ?_; simp only [Act.put, tA, tB, tC, tD, tE, tF])
      (refine ti 3 ?_; simp only [Act.put, tA, tB, tC, tD, tE, tF])
      (refine ti 4 ?_; simp only [Act.put, tA, tB, tC, tD, tE, tF])
      (refine ti 5 ?_; simp only [Act.put, tA, tB, tC, tD, tE, tF])
      (refine ti 6 ?_; simp only [Act.put, tA, tB, tC, tD, tE, tF])
      (refine tu 7 ?_; simp only [Act.put, tA, tB, tC, tD, tE, tF])
      (refine tu 8 ?_; simp only [Act.put, tA, tB, tC, tD, tE, tF])
      (refine tu 9 ?_; simp only [Act.put, tA, tB, tC, tD, tE, tF])
      (refine tu 10 ?_; simp only [Act.put, tA, tB, tC, tD, tE, tF])
      (refine tu 11 ?_; simp only [Act.put, tA, tB, tC, tD, tE, tF])
      (refine tu 12 ?_; simp only [Act.put, tA, tB, tC, tD, tE, tF])
      (refine tu 13 ?_; simp only [Act.put, tA, tB, tC, tD, tE, tF])
      (refine tu 14 ?_; simp only [Act.put, tA, tB, tC, tD, tE, tF])
      (refine tu 15 ?_; simp only [Act.put, tA, tB, tC, tD, tE, tF])
      (refine ti 16 ?_; simp only [Act.put, tA, tB, tC, tD, tE, tF])
      (refine ti 17 ?_; simp only [Act.put, tA, tB, tC, tD, tE, tF])
      refine wpAnyH_done (by kernel_rfl) ?_ _
      go_wp2
      go_roundw
      case rel => exact ⟨k + 1, by omega, by go_num, HG2, HB1.out.trans ((undrew hb2).mono HB1.out.size)⟩
      case measure => simp [intOf]; omega
     ·obtain ⟨m, hm⟩ : ∃ m, m + 1 = k := ⟨k - 1, by omega⟩
      have HM : Hid (m + 1 = k) := hm
      have hml : m < xs.length := by omega
      have hz' : (0 : Int) < (k : Int) := by omega
      have e9 : IntKind.i64.wrap ((k : Int) - 1) = (m : Int) := by rw [IntKind.wrap_i64]; omega
      have e10 : (k : Int) - 1 = (m : Int) := by omega
      have hm0 : (0 : Int) ≤ (m : Int) := by omega
      have hml' : (m : Int) < (xs.length : Int) := by omega
      have EM : Hid (xs[k - 1]'(Nat.lt_of_le_of_lt (Nat.sub_le _ _) hlt) = xs[m]) := by show _ = _; congr 1; omega
      cases hl : lt xs[m].1 xs[k].1
      ·have hl' : (!Op.bytesLess xs[m].1.toList xs[k].1.toList) = true := by show (!lt xs[m].1 xs[k].1) = true; rw [hl]; rfl
       have HN : Hid (writesB xs = false) := good_no k hlt (fun h => by have := h.2 (by omega); rw [EM.out, hl] at this; cases this)
       clear hw hz hm hl
       go_wp2
       generalize (wr.alloc (.cells #[.string xs[k].1, .string xs[k].2.1, .bool xs[k].2.2] 111)) = W1 at *
       have c0 := HX.out.c0
       have c1 := HX.out.c1
       have c2 := HX.out.c2
       obtain ⟨b', off', hbo, hbl', hc'⟩ := HR1.out (by omega)
       cases hbo
       have p0 := (wat hc' m hml).1
       clear hc'
       have hzd : decide (0 < k) = true := by have := HM.out; simp; omega
       have e11 : IntKind.i64.wrap (m : Int) = (m : Int) := by rw [IntKind.wrap_i64]; omega
       refine wp_region_held_drew (S := fun w' => w'.cell? ⟨wr.heap.size, 0, none⟩ = some (.string xs[k].1) ∧ w'.cell? ⟨wr.heap.size, 1, none⟩ = some (.string xs[k].2.1) ∧ w'.cell? ⟨wr.heap.size, 2, none⟩ = some (.bool xs[k].2.2) ∧ w'.cell? ⟨b, off + m * 3, none⟩ = some (.string xs[m].1)) (by kernel_rfl) ⟨c0, c1, c2, p0⟩ (fun hHeld => ?_)
       (refine ti 0 ?_; simp only [Act.put, tA, tB, tD, tE, tF])
       refine wpAnyH_ready (rs := [1]) (by kernel_rfl) (by simp) ?_
       refine AllReadyH.cons rfl (fun K hK => ?_) AllReadyH.nil
       go_simp
       go_wp2_with (go_at_call 131; refine (C1.out _).mono ?_; rintro e w2 ⟨rfl, hb2⟩; have Q := HX.out.below (undrew hb2); have q0 := Q.c0; have q1 := Q.c1; have q2 := Q.c2; clear Q; have q3 := ((undrew hb2).cell (p := ⟨b, off + m * 3, none⟩) hbl').trans p0)
       refine hK.out _ _ ⟨q0, q1, q2, q3⟩ (fun hHeld2 => ?_)
       clear hK K
       (refine ti 2 ?_; simp only [Act.put, tA, tB, tC, tD, tE, tF])
       (refine ti 3 ?_; simp only [Act.put, tA, tB, tC, tD, tE, tF])
       (refine ti 4 ?_; simp only [Act.put, tA, tB, tC, tD, tE, tF])
       (refine ti 5 ?_; simp only [Act.put, tA, tB, tC, tD, tE, tF])
       (refine ti 6 ?_; simp only [Act.put, tA, tB, tC, tD, tE, tF])
       (refine ti 7 ?_; simp only [Act.put, tA, tB, tC, tD, tE, tF])
       (refine ti 8 ?_; simp only [Act.put, tA, tB, tC, tD, tE, tF])
       (refine ti 9 ?_; simp only [Act.put, tA, tB, tC, tD, tE, tF])
       (refine ti 10 ?_; simp only [Act.put, tA, tB, tC, tD, tE, tF])
       (refine ti 11 ?_; simp only [Act.put, tA, tB, tC, tD, tE, tF])
       (refine ti 12 ?_; simp only [Act.put, tA, tB, tC, tD, tE, tF])
       (refine ti 13 ?_; simp only [Act.put, tA, tB, tC, tD, tE, tF])
       (refine ti 14 ?_; simp only [Act.put, tA, tB, tC, tD, tE, tF])
       (refine ti 15 ?_; simp only [Act.put, tA, tB, tC, tD, tE, tF])
       (refine ti 16 ?_; simp only [Act.put, tA, tB, tC, tD, tE, tF])
       (refine ti 17 ?_; simp only [Act.put, tA, tB, tC, tD, tE, tF])
       refine wpAnyH_done (by kernel_rfl) ?_ _
       go_wp2
       go_ret
       exact ⟨ret_bool HN.out.symm, HB1.out.trans ((undrew hb2).mono HB1.out.size)⟩
      ·have hl' : (!Op.bytesLess xs[m].1.toList xs[k].1.toList) = false := by show (!lt xs[m].1 xs[k].1) = false; rw [hl]; rfl
       have HG2 : Hid (Good xs (k + 1)) := good_more HG.out hlt ⟨hw, fun h => by rw [EM.out]; exact hl⟩
       clear hw hz hm hl
       go_wp2
       generalize (wr.alloc (.cells #[.string xs[k].1, .string xs[k].2.1, .bool xs[k].2.2] 111)) = W1 at *
       have c0 := HX.out.c0
       have c1 := HX.out.c1
       have c2 := HX.out.c2
       obtain ⟨b', off', hbo, hbl', hc'⟩ := HR1.out (by omega)
       cases hbo
       have p0 := (wat hc' m hml).1
       clear hc'
       have hzd : decide (0 < k) = true := by have := HM.out; simp; omega
       have e11 : IntKind.i64.wrap (m : Int) = (m : Int) := by rw [IntKind.wrap_i64]; omega
       refine wp_region_held_drew (S := fun w' => w'.cell? ⟨wr.heap.size, 0, none⟩ = some (.string xs[k].1) ∧ w'.cell? ⟨wr.heap.size, 1, none⟩ = some (.string xs[k].2.1) ∧ w'.cell? ⟨wr.heap.size, 2, none⟩ = some (.bool xs[k].2.2) ∧ w'.cell? ⟨b, off + m * 3, none⟩ = some (.string xs[m].1)) (by kernel_rfl) ⟨c0, c1, c2, p0⟩ (fun hHeld => ?_)
       (refine ti 0 ?_; simp only [Act.put, tA, tB, tD, tE, tF])
       refine wpAnyH_ready (rs := [1]) (by kernel_rfl) (by simp) ?_
       refine AllReadyH.cons rfl (fun K hK => ?_) AllReadyH.nil
       go_simp
       go_wp2_with (go_at_call 131; refine (C1.out _).mono ?_; rintro e w2 ⟨rfl, hb2⟩; have Q := HX.out.below (undrew hb2); have q0 := Q.c0; have q1 := Q.c1; have q2 := Q.c2; clear Q; have q3 := ((undrew hb2).cell (p := ⟨b, off + m * 3, none⟩) hbl').trans p0)
       refine hK.out _ _ ⟨q0, q1, q2, q3⟩ (fun hHeld2 => ?_)
       clear hK K
       (refine ti 2 ?_; simp only [Act.put, tA, tB, tC, tD, tE, tF])
       (refine ti 3 ?_; simp only [Act.put, tA, tB, tC, tD, tE, tF])
       (refine ti 4 ?_; simp only [Act.put, tA, tB, tC, tD, tE, tF])
       (refine ti 5 ?_; simp only [Act.put, tA, tB, tC, tD, tE, tF])
       (refine ti 6 ?_; simp only [Act.put, tA, tB, tC, tD, tE, tF])
       (refine ti 7 ?_; simp only [Act.put, tA, tB, tC, tD, tE, tF])
       (refine ti 8 ?_; simp only [Act.put, tA, tB, tC, tD, tE, tF])
       (refine ti 9 ?_; simp only [Act.put, tA, tB, tC, tD, tE, tF])
       (refine ti 10 ?_; simp only [Act.put, tA, tB, tC, tD, tE, tF])
       (refine ti 11 ?_; simp only [Act.put, tA, tB, tC, tD, tE, tF])
       (refine ti 12 ?_; simp only [Act.put, tA, tB, tC, tD, tE, tF])
       (refine ti 13 ?_; simp only [Act.put, tA, tB, tC, tD, tE, tF])
       (refine ti 14 ?_; simp only [Act.put, tA, tB, tC, tD, tE, tF])
       (refine ti 15 ?_; simp only [Act.put, tA, tB, tC, tD, tE, tF])
       (refine ti 16 ?_; simp only [Act.put, tA, tB, tC, tD, tE, tF])
       (refine ti 17 ?_; simp only [Act.put, tA, tB, tC, tD, tE, tF])
       refine wpAnyH_done (by kernel_rfl) ?_ _
       go_wp2
       go_roundw
       case rel => exact ⟨k + 1, by omega, by go_num, HG2, HB1.out.trans ((undrew hb2).mono HB1.out.size)⟩
       case measure => simp [intOf]; omega
   ·have hlt' : ¬ (k : Int) < (xs.length : Int) := by omega
    have HT : Hid (writesB xs = true) := good_all HG.out (by omega) h8
    go_wp2
    go_ret
    exact ⟨ret_bool HT.out.symm, HB.out⟩
 ·have h8' : (8 : Int) < (xs.length : Int) := by omega
  have HN : Hid (writesB xs = false) := good_len h8
  clear h8
  go_enter Tryz.func121, Tryz.ntmps121
  go_wp2
  go_ret
  exact ⟨ret_bool HN.out.symm, belowRefl w⟩
end Go.Proofs.YtpnnncfbodfnhaaGreatDoor

namespace Go.Proofs.YtpnnncfbodfnhaaGreatDoor
open Go.RowKit
open KM
attribute [local go_sem ↓] Go.wp_at_zero Go.wp_at_succ

set_option maxRecDepth 100000 in
set_option maxHeartbeats 4000000 in
theorem swrites (xs : List Wt) (a : Option Addr) (c : Nat) (hn : xs.length ≤ 100000000) (hf : WFit xs) (w : World) (hp : GRow encW w a xs) :
  Calls Tryz.prog 93 #[.slice a xs.length c] w fun e w' => e = .returned (.bool (writesB xs)) ∧ Below w.heap.size w w' := by
 have HP : Hid (GRow encW w a xs) := hp
 clear hp
 have HF : Hid (WFit xs) := hf
 clear hf
 go_enter Tryz.func93, Tryz.ntmps93
 go_wp2
 go_loopw [3] (fun t wr => ∃ k : Nat, k ≤ xs.length ∧ t = .int .i64 k ∧ Hid (Good xs k) ∧ Hid (Below w.heap.size w wr)) (fun t _ => xs.length - (intOf t).toNat)
 case atStart => exact ⟨0, Nat.zero_le _, rfl, fun j hj h => by omega, belowRefl w⟩
 case round =>
  obtain ⟨k, hk, rfl, HG, HB⟩ := hrel
  by_cases hlt : k < xs.length
  ·have hlt' : (k : Int) < (xs.length : Int) := by omega
   have hk0 : (0 : Int) ≤ (k : Int) := by omega
   have HR : Hid (GRow encW wr a xs) := HP.out.below HB.out
   obtain ⟨b, off, rfl, hbl, hc⟩ := HR.out (by omega)
   have c0 := (wat hc k hlt).1
   have c1 := (wat hc k hlt).2.1
   have c2 := (wat hc k hlt).2.2
   have HC : Hid (∀ j (hj : j < xs.length), wr.cell? ⟨b, off + j * 3, none⟩ = some (.string xs[j].1)) := fun j hj => (wat hc j hj).1
   clear hc
   have HB1 : Hid (Below w.heap.size w wr) := HB.out
   have HZ : Hid (xs[k].1.size ≤ 1048576) := (HF.out _ (List.getElem_mem hlt)).1
   cases hw : writeB xs[k]
   ·have C1 : Hid (∀ w, Calls Tryz.prog 116 #[.agg #[.string xs[k].1, .string xs[k].2.1, .bool xs[k].2.2]] w fun e w' => e = .returned (.bool false) ∧ Below w.heap.size w w') := fun w => hw ▸ swrite xs[k].1 xs[k].2.1 xs[k].2.2 HZ.out w
    have HN : Hid (writesB xs = false) := good_no k hlt (fun h => by rw [hw] at h; cases h.1)
    clear hw
    go_wp2
    refine wp_region_held_drew (S := fun w' => w'.cell? ⟨b, off + k * 3, none⟩ = some (.string xs[k].1) ∧ w'.cell? ⟨b, off + k * 3 + 1, none⟩ = some (.string xs[k].2.1) ∧ w'.cell? ⟨b, off + k * 3 + 2, none⟩ = some (.bool xs[k].2.2)) (by kernel_rfl) ⟨c0, c1, c2⟩ (fun hHeld => ?_)
    (refine ti 0 ?_; simp only [Act.put, tA, tB, tD, tE, tF])
    (refine ti 1 ?_; simp only [Act.put, tA, tB, tC, tD, tE, tF])
    (refine ti 2 ?_; simp only [Act.put, tA, tB, tC, tD, tE, tF])
    (refine ti 3 ?_; simp only [Act.put, tA, tB, tC, tD, tE, tF])
    refine wpAnyH_ready (rs := [4]) (by kernel_rfl) (by simp) ?_
    refine AllReadyH.cons rfl (fun K hK => ?_) AllReadyH.nil
    go_simp
    go_wp2_with (go_at_call 116; refine (C1.out _).mono ?_; rintro e w2 ⟨rfl, hb2⟩; have q0 := ((undrew hb2).cell (p := ⟨b, off + k * 3, none⟩) hbl).trans c0; have q1 := ((undrew hb2).cell (p := ⟨b, off + k * 3 + 1, none⟩) hbl).trans c1; have q2 := ((undrew hb2).cell (p := ⟨b, off + k * 3 + 2, none⟩) hbl).trans c2)
    refine hK.out _ _ ⟨q0, q1, q2⟩ (fun hHeld2 => ?_)
    clear hK K
    (refine ti 5 ?_; simp only [Act.put, tA, tB, tC, tD, tE, tF])
    (refine ti 6 ?_; simp only [Act.put, tA, tB, tC, tD, tE, tF])
    (refine tu 7 ?_; simp only [Act.put, tA, tB, tC, tD, tE, tF])
    (refine tu 8 ?_; simp only [Act.put, tA, tB, tC, tD, tE, tF])
    (refine tu 9 ?_; simp only [Act.put, tA, tB, tC, tD, tE, tF])
    (refine tu 10 ?_; simp only [Act.put, tA, tB, tC, tD, tE, tF])
    (refine tu 11 ?_; simp only [Act.put, tA, tB, tC, tD, tE, tF])
    (refine tu 12 ?_; simp only [Act.put, tA, tB, tC, tD, tE, tF])
    (refine tu 13 ?_; simp only [Act.put, tA, tB, tC, tD, tE, tF])
    (refine tu 14 ?_; simp only [Act.put, tA, tB, tC, tD, tE, tF])
    (refine tu 15 ?_; simp only [Act.put, tA, tB, tC, tD, tE, tF])
    (refine tu 16 ?_; simp only [Act.put, tA, tB, tC, tD, tE, tF])
    (refine tu 17 ?_; simp only [Act.put, tA, tB, tC, tD, tE, tF])
    (refine tu 18 ?_; simp only [Act.put, tA, tB, tC, tD, tE, tF])
    (refine tu 19 ?_; simp only [Act.put, tA, tB, tC, tD, tE, tF])
    (refine tu 20 ?_; simp only [Act.put, tA, tB, tC, tD, tE, tF])
    (refine tu 21 ?_; simp only [Act.put, tA, tB, tC, tD, tE, tF])
    (refine tu 22 ?_; simp only [Act.put, tA, tB, tC, tD, tE, tF])
    (refine ti 23 ?_; simp only [Act.put, tA, tB, tC, tD, tE, tF])
    refine wpAnyH_done (by kernel_rfl) ?_ _
    go_wp2
    go_ret
    exact ⟨ret_bool HN.out.symm, HB1.out.trans ((undrew hb2).mono HB1.out.size)⟩
   ·have C1 : Hid (∀ w, Calls Tryz.prog 116 #[.agg #[.string xs[k].1, .string xs[k].2.1, .bool xs[k].2.2]] w fun e w' => e = .returned (.bool true) ∧ Below w.heap.size w w') := fun w => hw ▸ swrite xs[k].1 xs[k].2.1 xs[k].2.2 HZ.out w
    by_cases hz : k = 0
    ·have hz' : ¬ (0 : Int) < (k : Int) := by omega
     have HG2 : Hid (Good xs (k + 1)) := good_more HG.out hlt ⟨hw, fun h => by omega⟩
     clear hw hz
     go_wp2
     have hzd : decide (0 < k) = false := by simp; omega
     refine wp_region_held_drew (S := fun w' => w'.cell? ⟨b, off + k * 3, none⟩ = some (.string xs[k].1) ∧ w'.cell? ⟨b, off + k * 3 + 1, none⟩ = some (.string xs[k].2.1) ∧ w'.cell? ⟨b, off + k * 3 + 2, none⟩ = some (.bool xs[k].2.2)) (by kernel_rfl) ⟨c0, c1, c2⟩ (fun hHeld => ?_)
     (refine ti 0 ?_; simp only [Act.put, tA, tB, tD, tE, tF])
     (refine ti 1 ?_; simp only [Act.put, tA, tB, tC, tD, tE, tF])
     (refine ti 2 ?_; simp only [Act.put, tA, tB, tC, tD, tE, tF])
     (refine ti 3 ?_; simp only [Act.put, tA, tB, tC, tD, tE, tF])
     refine wpAnyH_ready (rs := [4]) (by kernel_rfl) (by simp) ?_
     refine AllReadyH.cons rfl (fun K hK => ?_) AllReadyH.nil
     go_simp
     go_wp2_with (go_at_call 116; refine (C1.out _).mono ?_; rintro e w2 ⟨rfl, hb2⟩; have q0 := ((undrew hb2).cell (p := ⟨b, off + k * 3, none⟩) hbl).trans c0; have q1 := ((undrew hb2).cell (p := ⟨b, off + k * 3 + 1, none⟩) hbl).trans c1; have q2 := ((undrew hb2).cell (p := ⟨b, off + k * 3 + 2, none⟩) hbl).trans c2)
     refine hK.out _ _ ⟨q0, q1, q2⟩ (fun hHeld2 => ?_)
     clear hK K
     (refine ti 5 ?_; simp only [Act.put, tA, tB, tC, tD, tE, tF])
     (refine ti 6 ?_; simp only [Act.put, tA, tB, tC, tD, tE, tF])
     (refine ti 7 ?_; simp only [Act.put, tA, tB, tC, tD, tE, tF])
     (refine ti 8 ?_; simp only [Act.put, tA, tB, tC, tD, tE, tF])
     (refine ti 9 ?_; simp only [Act.put, tA, tB, tC, tD, tE, tF])
     (refine tu 10 ?_; simp only [Act.put, tA, tB, tC, tD, tE, tF])
     (refine tu 11 ?_; simp only [Act.put, tA, tB, tC, tD, tE, tF])
     (refine tu 12 ?_; simp only [Act.put, tA, tB, tC, tD, tE, tF])
     (refine tu 13 ?_; simp only [Act.put, tA, tB, tC, tD, tE, tF])
     (refine tu 14 ?_; simp only [Act.put, tA, tB, tC, tD, tE, tF])
     (refine tu 15 ?_; simp only [Act.put, tA, tB, tC, tD, tE, tF])
     (refine tu 16 ?_; simp only [Act.put, tA, tB, tC, tD, tE, tF])
     (refine tu 17 ?_; simp only [Act.put, tA, tB, tC, tD, tE, tF])
     (refine tu 18 ?_; simp only [Act.put, tA, tB, tC, tD, tE, tF])
     (refine tu 19 ?_; simp only [Act.put, tA, tB, tC, tD, tE, tF])
     (refine tu 20 ?_; simp only [Act.put, tA, tB, tC, tD, tE, tF])
     (refine tu 21 ?_; simp only [Act.put, tA, tB, tC, tD, tE, tF])
     (refine ti 22 ?_; simp only [Act.put, tA, tB, tC, tD, tE, tF])
     (refine ti 23 ?_; simp only [Act.put, tA, tB, tC, tD, tE, tF])
     refine wpAnyH_done (by kernel_rfl) ?_ _
     go_wp2
     go_roundw
     case rel => exact ⟨k + 1, by omega, by go_num, HG2, HB1.out.trans ((undrew hb2).mono HB1.out.size)⟩
     case measure => simp [intOf]; omega
    ·obtain ⟨m, hm⟩ : ∃ m, m + 1 = k := ⟨k - 1, by omega⟩
     have HM : Hid (m + 1 = k) := hm
     have hml : m < xs.length := by omega
     have hz' : (0 : Int) < (k : Int) := by omega
     have e9 : IntKind.i64.wrap ((k : Int) - 1) = (m : Int) := by rw [IntKind.wrap_i64]; omega
     have e10 : (k : Int) - 1 = (m : Int) := by omega
     have hm0 : (0 : Int) ≤ (m : Int) := by omega
     have hml' : (m : Int) < (xs.length : Int) := by omega
     have EM : Hid (xs[k - 1]'(Nat.lt_of_le_of_lt (Nat.sub_le _ _) hlt) = xs[m]) := by show _ = _; congr 1; omega
     have p0 := HC.out m hml
     cases hl : lt xs[m].1 xs[k].1
     ·have hl' : (!Op.bytesLess xs[m].1.toList xs[k].1.toList) = true := by show (!lt xs[m].1 xs[k].1) = true; rw [hl]; rfl
      have HN : Hid (writesB xs = false) := good_no k hlt (fun h => by have := h.2 (by omega); rw [EM.out, hl] at this; cases this)
      clear hw hz hm hl
      go_wp2
      have hzd : decide (0 < k) = true := by have := HM.out; simp; omega
      have e11 : IntKind.i64.wrap (m : Int) = (m : Int) := by rw [IntKind.wrap_i64]; omega
      refine wp_region_held_drew (S := fun w' => w'.cell? ⟨b, off + k * 3, none⟩ = some (.string xs[k].1) ∧ w'.cell? ⟨b, off + k * 3 + 1, none⟩ = some (.string xs[k].2.1) ∧ w'.cell? ⟨b, off + k * 3 + 2, none⟩ = some (.bool xs[k].2.2) ∧ w'.cell? ⟨b, off + m * 3, none⟩ = some (.string xs[m].1)) (by kernel_rfl) ⟨c0, c1, c2, p0⟩ (fun hHeld => ?_)
      (refine ti 0 ?_; simp only [Act.put, tA, tB, tD, tE, tF])
      (refine ti 1 ?_; simp only [Act.put, tA, tB, tC, tD, tE, tF])
      (refine ti 2 ?_; simp only [Act.put, tA, tB, tC, tD, tE, tF])
      (refine ti 3 ?_; simp only [Act.put, tA, tB, tC, tD, tE, tF])
      refine wpAnyH_ready (rs := [4]) (by kernel_rfl) (by simp) ?_
      refine AllReadyH.cons rfl (fun K hK => ?_) AllReadyH.nil
      go_simp
      go_wp2_with (go_at_call 116; refine (C1.out _).mono ?_; rintro e w2 ⟨rfl, hb2⟩; have q0 := ((undrew hb2).cell (p := ⟨b, off + k * 3, none⟩) hbl).trans c0; have q1 := ((undrew hb2).cell (p := ⟨b, off + k * 3 + 1, none⟩) hbl).trans c1; have q2 := ((undrew hb2).cell (p := ⟨b, off + k * 3 + 2, none⟩) hbl).trans c2; have q3 := ((undrew hb2).cell (p := ⟨b, off + m * 3, none⟩) hbl).trans p0)
      refine hK.out _ _ ⟨q0, q1, q2, q3⟩ (fun hHeld2 => ?_)
      clear hK K
      (refine ti 5 ?_; simp only [Act.put, tA, tB, tC, tD, tE, tF])
      (refine ti 6 ?_; simp only [Act.put, tA, tB, tC, tD, tE, tF])
      (refine ti 7 ?_; simp only [Act.put, tA, tB, tC, tD, tE, tF])
      (refine ti 8 ?_; simp only [Act.put, tA, tB, tC, tD, tE, tF])
      (refine ti 9 ?_; simp only [Act.put, tA, tB, tC, tD, tE, tF])
      (refine ti 10 ?_; simp only [Act.put, tA, tB, tC, tD, tE, tF])
      (refine ti 11 ?_; simp only [Act.put, tA, tB, tC, tD, tE, tF])
      (refine ti 12 ?_; simp only [Act.put, tA, tB, tC, tD, tE, tF])
      (refine ti 13 ?_; simp only [Act.put, tA, tB, tC, tD, tE, tF])
      (refine ti 14 ?_; simp only [Act.put, tA, tB, tC, tD, tE, tF])
      (refine ti 15 ?_; simp only [Act.put, tA, tB, tC, tD, tE, tF])
      (refine ti 16 ?_; simp only [Act.put, tA, tB, tC, tD, tE, tF])
      (refine ti 17 ?_; simp only [Act.put, tA, tB, tC, tD, tE, tF])
      (refine ti 18 ?_; simp only [Act.put, tA, tB, tC, tD, tE, tF])
      (refine ti 19 ?_; simp only [Act.put, tA, tB, tC, tD, tE, tF])
      (refine ti 20 ?_; simp only [Act.put, tA, tB, tC, tD, tE, tF])
      (refine ti 21 ?_; simp only [Act.put, tA, tB, tC, tD, tE, tF])
      (refine ti 22 ?_; simp only [Act.put, tA, tB, tC, tD, tE, tF])
      (refine ti 23 ?_; simp only [Act.put, tA, tB, tC, tD, tE, tF])
      refine wpAnyH_done (by kernel_rfl) ?_ _
      go_wp2
      go_ret
      exact ⟨ret_bool HN.out.symm, HB1.out.trans ((undrew hb2).mono HB1.out.size)⟩
     ·have hl' : (!Op.bytesLess xs[m].1.toList xs[k].1.toList) = false := by show (!lt xs[m].1 xs[k].1) = false; rw [hl]; rfl
      have HG2 : Hid (Good xs (k + 1)) := good_more HG.out hlt ⟨hw, fun h => by rw [EM.out]; exact hl⟩
      clear hw hz hm hl
      go_wp2
      have hzd : decide (0 < k) = true := by have := HM.out; simp; omega
      have e11 : IntKind.i64.wrap (m : Int) = (m : Int) := by rw [IntKind.wrap_i64]; omega
      refine wp_region_held_drew (S := fun w' => w'.cell? ⟨b, off + k * 3, none⟩ = some (.string xs[k].1) ∧ w'.cell? ⟨b, off + k * 3 + 1, none⟩ = some (.string xs[k].2.1) ∧ w'.cell? ⟨b, off + k * 3 + 2, none⟩ = some (.bool xs[k].2.2) ∧ w'.cell? ⟨b, off + m * 3, none⟩ = some (.string xs[m].1)) (by kernel_rfl) ⟨c0, c1, c2, p0⟩ (fun hHeld => ?_)
      (refine ti 0 ?_; simp only [Act.put, tA, tB, tD, tE, tF])
      (refine ti 1 ?_; simp only [Act.put, tA, tB, tC, tD, tE, tF])
      (refine ti 2 ?_; simp only [Act.put, tA, tB, tC, tD, tE, tF])
      (refine ti 3 ?_; simp only [Act.put, tA, tB, tC, tD, tE, tF])
      refine wpAnyH_ready (rs := [4]) (by kernel_rfl) (by simp) ?_
      refine AllReadyH.cons rfl (fun K hK => ?_) AllReadyH.nil
      go_simp
      go_wp2_with (go_at_call 116; refine (C1.out _).mono ?_; rintro e w2 ⟨rfl, hb2⟩; have q0 := ((undrew hb2).cell (p := ⟨b, off + k * 3, none⟩) hbl).trans c0; have q1 := ((undrew hb2).cell (p := ⟨b, off + k * 3 + 1, none⟩) hbl).trans c1; have q2 := ((undrew hb2).cell (p := ⟨b, off + k * 3 + 2, none⟩) hbl).trans c2; have q3 := ((undrew hb2).cell (p := ⟨b, off + m * 3, none⟩) hbl).trans p0)
      refine hK.out _ _ ⟨q0, q1, q2, q3⟩ (fun hHeld2 => ?_)
      clear hK K
      (refine ti 5 ?_; simp only [Act.put, tA, tB, tC, tD, tE, tF])
      (refine ti 6 ?_; simp only [Act.put, tA, tB, tC, tD, tE, tF])
      (refine ti 7 ?_; simp only [Act.put, tA, tB, tC, tD, tE, tF])
      (refine ti 8 ?_; simp only [Act.put, tA, tB, tC, tD, tE, tF])
      (refine ti 9 ?_; simp only [Act.put, tA, tB, tC, tD, tE, tF])
      (refine ti 10 ?_; simp only [Act.put, tA, tB, tC, tD, tE, tF])
      (refine ti 11 ?_; simp only [Act.put, tA, tB, tC, tD, tE, tF])
      (refine ti 12 ?_; simp only [Act.put, tA, tB, tC, tD, tE, tF])
      (refine ti 13 ?_; simp only [Act.put, tA, tB, tC, tD, tE, tF])
      (refine ti 14 ?_; simp only [Act.put, tA, tB, tC, tD, tE, tF])
      (refine ti 15 ?_; simp only [Act.put, tA, tB, tC, tD, tE, tF])
      (refine ti 16 ?_; simp only [Act.put, tA, tB, tC, tD, tE, tF])
      (refine ti 17 ?_; simp only [Act.put, tA, tB, tC, tD, tE, tF])
      (refine ti 18 ?_; simp only [Act.put, tA, tB, tC, tD, tE, tF])
      (refine ti 19 ?_; simp only [Act.put, tA, tB, tC, tD, tE, tF])
      (refine ti 20 ?_; simp only [Act.put, tA, tB, tC, tD, tE, tF])
      (refine ti 21 ?_; simp only [Act.put, tA, tB, tC, tD, tE, tF])
      (refine ti 22 ?_; simp only [Act.put, tA, tB, tC, tD, tE, tF])
      (refine ti 23 ?_; simp only [Act.put, tA, tB, tC, tD, tE, tF])
      refine wpAnyH_done (by kernel_rfl) ?_ _
      go_wp2
      go_roundw
      case rel => exact ⟨k + 1, by omega, by go_num, HG2, HB1.out.trans ((undrew hb2).mono HB1.out.size)⟩
      case measure => simp [intOf]; omega
  ·have hlt' : ¬ (k : Int) < (xs.length : Int) := by omega
   have HT : Hid (decide ((xs.length : Int) ≤ 8) = writesB xs) := by
    show _ = _
    rw [← good_whole HG.out (by omega), decide_eq_decide]; omega
   go_wp2
   go_ret
   exact ⟨ret_bool HT.out, HB.out⟩
end Go.Proofs.YtpnnncfbodfnhaaGreatDoor
