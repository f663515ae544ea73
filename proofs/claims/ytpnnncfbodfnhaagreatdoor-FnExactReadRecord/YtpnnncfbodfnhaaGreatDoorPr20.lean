/- Who is ahead of whom: what is asked of two. -/
import Derived.Test.YtpnnncfbodfnhaaGreatDoorProg
import Derived.WalkKit
import Derived.Test.YtpnnncfbodfnhaaGreatDoorPr01
import Derived.WalkSpells
import Derived.WalkLawsBesides
import Derived.Deep.QuietTactic
import Derived.BigQuiet
import Derived.Deep.RegionHeld3
import Derived.Deep.DrawnRows
import Derived.Deep.AppendLies
import Derived.Test.YtpnnncfbodfnhaaGreatDoorPr02
import Derived.Test.YtpnnncfbodfnhaaGreatDoorPr04
import Derived.Test.YtpnnncfbodfnhaaGreatDoorPr05
import Derived.Sort.OwnSorted
import Derived.Lib.RowBridge
import Derived.Test.YtpnnncfbodfnhaaGreatDoorPr19
import Derived.Test.YtpnnncfbodfnhaaGreatDoorPr17
import Derived.Test.YtpnnncfbodfnhaaGreatDoorPr08
import Derived.Deep.RegionHeld
import Derived.Deep.Cut
import Derived.Test.YtpnnncfbodfnhaaGreatDoorPr09
import Derived.Test.YtpnnncfbodfnhaaGreatDoorPr06
import Derived.Test.YtpnnncfbodfnhaaGreatDoorPr11
import Derived.Test.YtpnnncfbodfnhaaGreatDoorPr18
import Derived.Test.YtpnnncfbodfnhaaGreatDoorPr16
import Derived.Deep.CutRange
import Derived.Test.YtpnnncfbodfnhaaGreatDoorPr10
namespace Go.Proofs.YtpnnncfbodfnhaaGreatDoor
open Go.RowKit
open KM
attribute [local go_sem ↓] Go.wp_at_zero Go.wp_at_succ

end Go.Proofs.YtpnnncfbodfnhaaGreatDoor

namespace Go.Proofs.YtpnnncfbodfnhaaGreatDoor
open Go.RowKit
open KM
attribute [local go_sem ↓] Go.wp_at_zero Go.wp_at_succ
set_option maxRecDepth 100000 in
set_option maxHeartbeats 4000000 in
theorem markV (n k0 : Nat) (a : Option Addr) (c base : Nat) (xs0 : List Value) (hn : n ≤ 100000000) (hk0 : 0 < k0) (hk1 : k0 ≤ 100000000000000000) (w : World) (h : w.ownsRow base 106 4 (.slice a n c) n xs0) :
  Calls Tryz.prog 84 #[.slice a n c, .int .i64 k0] w fun e w' => e = .returned (.int .i64 ((k0 + 4 * n : Nat) : Int)) ∧ GOwn encV 106 w' base (.slice a n c) (mkV k0 n) ∧ w.grownBy w' (Value.slice a n c).ownBlock := by
 have H : Hid (w.ownsRow base 106 4 (.slice a n c) n xs0) := h
 clear h
 go_enter Tryz.func84, Tryz.ntmps84
 go_wp2
 go_loopw [1, 5] (fun tk t wr => ∃ (k : Nat) (xs : List Value), k ≤ n ∧ t = .int .i64 k ∧ tk = .int .i64 ((k0 + 4 * k : Nat) : Int) ∧ Hid (wr.ownsRow base 106 4 (.slice a n c) n xs) ∧ Hid (∀ j, j < k * 4 → xs[j]? = (encV.cells (mkV k0 n))[j]?) ∧ Hid (w.grownBy wr (Value.slice a n c).ownBlock)) (fun _ t _ => n - (intOf t).toNat)
 case atStart => exact ⟨0, xs0, Nat.zero_le _, rfl, rfl, H, (fun j hj => by omega), grown_refl _ _⟩
 case round =>
  obtain ⟨k, xs, hk, rfl, rfl, HX, HA, HG⟩ := hrel
  by_cases hlt : k < n
  ·have hlt' : (k : Int) < (n : Int) := by omega
   have h0 : (0 : Int) ≤ (k : Int) := by omega
   obtain ⟨g, rfl, hbg, hgl⟩ := own_form HX.out (by omega)
   have hlen := HX.out.1
   obtain ⟨q, hq⟩ : ∃ q, q = k0 + 4 * k := ⟨_, rfl⟩
   have HQ : Hid (q = k0 + 4 * k) := hq
   rw [← hq]
   have hq0 : 0 < q := by omega
   have hq1 : q ≤ 900000000000000000 := by omega
   clear hq
   have W0 := hide HX.out
   have G0 : Hid (wr.grownBy wr (some g)) := grown_refl _ _
   go_wp2_with fail
   refine (mark87 q (by omega) (by omega) _).mono ?_
   rintro e w1 ⟨rfl, hbm⟩
   have V0 := hide (ownsBelow W0.out hbm)
   have F0 : Hid (wr.grownBy w1 (some g)) := grown_trans G0.out (grown_below _ hbm)
   have hgl0 : g < w1.heap.size := Nat.lt_of_lt_of_le hgl F0.out.size
   clear hbm
   have len0 : k * 4 < (xs).length := by omega
   have q0 : (w1).cell? ⟨g, k * 4, none⟩ = some ((xs)[k * 4]'len0) := by rw [World.ownsRow.cellAt V0.out (k * 4) (by omega)]; simp
   have f0 : (w1).frozen? ⟨g, k * 4, none⟩ = false := World.ownsRow.frozenAt V0.out (k * 4)
   have st0 := World.ownsRow.stored V0.out (k * 4) (.string (mkB q))
   have W1 := hide st0.1
   have G1 : Hid (wr.grownBy ((w1).setCell ⟨g, k * 4, none⟩ (.string (mkB q))) (some g)) := grown_trans F0.out st0.2
   clear st0
   have E1 : Hid ((q : Int) + 1 = ((q + 1 : Nat) : Int)) := by show _ = _; omega
   go_wp2_with fail
   rw [E1.out]
   refine (mark87 (q + 1) (by omega) (by omega) _).mono ?_
   rintro e w2 ⟨rfl, hbm⟩
   have V1 := hide (ownsBelow W1.out hbm)
   have F1 : Hid (wr.grownBy w2 (some g)) := grown_trans G1.out (grown_below _ hbm)
   have hgl1 : g < w2.heap.size := Nat.lt_of_lt_of_le hgl F1.out.size
   clear hbm
   have len1 : k * 4 + 1 < ((xs).set (k * 4) (.string (mkB q))).length := by simp only [List.length_set]; omega
   have q1 : (w2).cell? ⟨g, k * 4 + 1, none⟩ = some (((xs).set (k * 4) (.string (mkB q)))[k * 4 + 1]'len1) := by rw [World.ownsRow.cellAt V1.out (k * 4 + 1) (by omega)]; simp
   have f1 : (w2).frozen? ⟨g, k * 4 + 1, none⟩ = false := World.ownsRow.frozenAt V1.out (k * 4 + 1)
   have st1 := World.ownsRow.stored V1.out (k * 4 + 1) (.string (mkB (q + 1)))
   have W2 := hide st1.1
   have G2 : Hid (wr.grownBy ((w2).setCell ⟨g, k * 4 + 1, none⟩ (.string (mkB (q + 1)))) (some g)) := grown_trans F1.out st1.2
   clear st1
   have len2 : k * 4 + 2 < (((xs).set (k * 4) (.string (mkB q))).set (k * 4 + 1) (.string (mkB (q + 1)))).length := by simp only [List.length_set]; omega
   have q2 : ((w2).setCell ⟨g, k * 4 + 1, none⟩ (.string (mkB (q + 1)))).cell? ⟨g, k * 4 + 2, none⟩ = some ((((xs).set (k * 4) (.string (mkB q))).set (k * 4 + 1) (.string (mkB (q + 1))))[k * 4 + 2]'len2) := by rw [World.ownsRow.cellAt W2.out (k * 4 + 2) (by omega)]; simp
   have f2 : ((w2).setCell ⟨g, k * 4 + 1, none⟩ (.string (mkB (q + 1)))).frozen? ⟨g, k * 4 + 2, none⟩ = false := World.ownsRow.frozenAt W2.out (k * 4 + 2)
   have st2 := World.ownsRow.stored W2.out (k * 4 + 2) (.bool (goneQ q))
   have W3 := hide st2.1
   have G3 : Hid (wr.grownBy (((w2).setCell ⟨g, k * 4 + 1, none⟩ (.string (mkB (q + 1)))).setCell ⟨g, k * 4 + 2, none⟩ (.bool (goneQ q))) (some g)) := grown_trans G2.out st2.2
   clear st2
   have len3 : k * 4 + 3 < ((((xs).set (k * 4) (.string (mkB q))).set (k * 4 + 1) (.string (mkB (q + 1)))).set (k * 4 + 2) (.bool (goneQ q))).length := by simp only [List.length_set]; omega
   have q3 : (((w2).setCell ⟨g, k * 4 + 1, none⟩ (.string (mkB (q + 1)))).setCell ⟨g, k * 4 + 2, none⟩ (.bool (goneQ q))).cell? ⟨g, k * 4 + 3, none⟩ = some (((((xs).set (k * 4) (.string (mkB q))).set (k * 4 + 1) (.string (mkB (q + 1)))).set (k * 4 + 2) (.bool (goneQ q)))[k * 4 + 3]'len3) := by rw [World.ownsRow.cellAt W3.out (k * 4 + 3) (by omega)]; simp
   have f3 : (((w2).setCell ⟨g, k * 4 + 1, none⟩ (.string (mkB (q + 1)))).setCell ⟨g, k * 4 + 2, none⟩ (.bool (goneQ q))).frozen? ⟨g, k * 4 + 3, none⟩ = false := World.ownsRow.frozenAt W3.out (k * 4 + 3)
   have st3 := World.ownsRow.stored W3.out (k * 4 + 3) (.int .i64 ((q : Int) + 1 + 1 + 1))
   have W4 := hide st3.1
   have G4 : Hid (wr.grownBy ((((w2).setCell ⟨g, k * 4 + 1, none⟩ (.string (mkB (q + 1)))).setCell ⟨g, k * 4 + 2, none⟩ (.bool (goneQ q))).setCell ⟨g, k * 4 + 3, none⟩ (.int .i64 ((q : Int) + 1 + 1 + 1))) (some g)) := grown_trans G3.out st3.2
   clear st3
   have HA2 : Hid (∀ j, j < (k + 1) * 4 → (((((xs).set (k * 4) (.string (mkB q))).set (k * 4 + 1) (.string (mkB (q + 1)))).set (k * 4 + 2) (.bool (goneQ q))).set (k * 4 + 3) (.int .i64 ((q : Int) + 1 + 1 + 1)))[j]? = (encV.cells (mkV k0 n))[j]?) := fun j hj => by
    have ea := mkV_at k0 n k hlt
    rw [← HQ.out] at ea
    by_cases e0 : j = k * 4
    ·subst e0
     rw [List.getElem?_set_ne (by omega), List.getElem?_set_ne (by omega), List.getElem?_set_ne (by omega), List.getElem?_set_self len0]
     have := encV.cells_at (mkV k0 n) k (by rw [mkV_len]; exact hlt) 0 (by decide)
     rw [ea] at this
     simp only [encV, Nat.add_zero] at this ⊢
     rw [this]; rfl
    by_cases e1 : j = k * 4 + 1
    ·subst e1
     rw [List.getElem?_set_ne (by omega), List.getElem?_set_ne (by omega), List.getElem?_set_self len1]
     have := encV.cells_at (mkV k0 n) k (by rw [mkV_len]; exact hlt) 1 (by decide)
     rw [ea] at this
     simp only [encV] at this ⊢
     rw [this]; rfl
    by_cases e2 : j = k * 4 + 2
    ·subst e2
     rw [List.getElem?_set_ne (by omega), List.getElem?_set_self len2]
     have := encV.cells_at (mkV k0 n) k (by rw [mkV_len]; exact hlt) 2 (by decide)
     rw [ea] at this
     simp only [encV] at this ⊢
     rw [this]; rfl
    by_cases e3 : j = k * 4 + 3
    ·subst e3
     rw [List.getElem?_set_self len3]
     have := encV.cells_at (mkV k0 n) k (by rw [mkV_len]; exact hlt) 3 (by decide)
     rw [ea] at this
     simp only [encV] at this ⊢
     rw [this]; rfl
    rw [List.getElem?_set_ne (by omega), List.getElem?_set_ne (by omega), List.getElem?_set_ne (by omega), List.getElem?_set_ne (by omega)]
    exact HA.out j (by omega)
   have HN2 : Hid (((q + 4 : Nat) : Int) = ((k0 + 4 * (k + 1) : Nat) : Int)) := by show _ = _; have := HQ.out; omega
   have eg := goneQ_eq q
   have en : (q : Int) + 1 + 1 + 1 + 1 = ((q + 4 : Nat) : Int) := by omega
   go_wp2
   go_roundw
   case rel => exact ⟨k + 1, _, by omega, by go_num, by rw [← HN2.out]; go_num, W4, HA2, grown_trans HG.out G4.out⟩
   case measure => simp [intOf]; omega
  ·have hd : ¬ (k : Int) < (n : Int) := by omega
   have e : k = n := by omega
   have HE : Hid (GOwn encV 106 wr base (.slice a n c) (mkV k0 n)) := gown_ext (mkV_len _ _) HX.out (fun j hj => HA.out j (by have : encV.size = 4 := rfl; rw [this] at hj; omega))
   subst e
   go_wp2
   go_ret
   exact ⟨ret_int rfl, HE.out, HG.out⟩

end Go.Proofs.YtpnnncfbodfnhaaGreatDoor

namespace Go.Proofs.YtpnnncfbodfnhaaGreatDoor
open Go.RowKit
open KM
attribute [local go_sem ↓] Go.wp_at_zero Go.wp_at_succ

set_option maxRecDepth 100000 in
set_option maxHeartbeats 4000000 in
theorem markR (n k0 : Nat) (a : Option Addr) (c base : Nat) (xs0 : List Value) (hn : n ≤ 100000000) (hk0 : 0 < k0) (hk1 : k0 ≤ 100000000000000000) (w : World) (h : w.ownsRow base 109 2 (.slice a n c) n xs0) :
  Calls Tryz.prog 82 #[.slice a n c, .int .i64 k0] w fun e w' => e = .returned (.int .i64 ((k0 + 2 * n : Nat) : Int)) ∧ GOwn encR 109 w' base (.slice a n c) (mkR k0 n) ∧ w.grownBy w' (Value.slice a n c).ownBlock := by
 have H : Hid (w.ownsRow base 109 2 (.slice a n c) n xs0) := h
 clear h
 go_enter Tryz.func82, Tryz.ntmps82
 go_wp2
 go_loopw [1, 5] (fun tk t wr => ∃ (k : Nat) (xs : List Value), k ≤ n ∧ t = .int .i64 k ∧ tk = .int .i64 ((k0 + 2 * k : Nat) : Int) ∧ Hid (wr.ownsRow base 109 2 (.slice a n c) n xs) ∧ Hid (∀ j, j < k * 2 → xs[j]? = (encR.cells (mkR k0 n))[j]?) ∧ Hid (w.grownBy wr (Value.slice a n c).ownBlock)) (fun _ t _ => n - (intOf t).toNat)
 case atStart => exact ⟨0, xs0, Nat.zero_le _, rfl, rfl, H, (fun j hj => by omega), grown_refl _ _⟩
 case round =>
  obtain ⟨k, xs, hk, rfl, rfl, HX, HA, HG⟩ := hrel
  by_cases hlt : k < n
  ·have hlt' : (k : Int) < (n : Int) := by omega
   have h0 : (0 : Int) ≤ (k : Int) := by omega
   obtain ⟨g, rfl, hbg, hgl⟩ := own_form HX.out (by omega)
   have hlen := HX.out.1
   obtain ⟨q, hq⟩ : ∃ q, q = k0 + 2 * k := ⟨_, rfl⟩
   have HQ : Hid (q = k0 + 2 * k) := hq
   rw [← hq]
   have hq0 : 0 < q := by omega
   have hq1 : q ≤ 900000000000000000 := by omega
   clear hq
   have W0 := hide HX.out
   have G0 : Hid (wr.grownBy wr (some g)) := grown_refl _ _
   go_wp2_with fail
   refine (mark87 q (by omega) (by omega) _).mono ?_
   rintro e w1 ⟨rfl, hbm⟩
   have V0 := hide (ownsBelow W0.out hbm)
   have F0 : Hid (wr.grownBy w1 (some g)) := grown_trans G0.out (grown_below _ hbm)
   have hgl0 : g < w1.heap.size := Nat.lt_of_lt_of_le hgl F0.out.size
   clear hbm
   have len0 : k * 2 < (xs).length := by omega
   have q0 : (w1).cell? ⟨g, k * 2, none⟩ = some ((xs)[k * 2]'len0) := by rw [World.ownsRow.cellAt V0.out (k * 2) (by omega)]; simp
   have f0 : (w1).frozen? ⟨g, k * 2, none⟩ = false := World.ownsRow.frozenAt V0.out (k * 2)
   have st0 := World.ownsRow.stored V0.out (k * 2) (.string (mkB q))
   have W1 := hide st0.1
   have G1 : Hid (wr.grownBy ((w1).setCell ⟨g, k * 2, none⟩ (.string (mkB q))) (some g)) := grown_trans F0.out st0.2
   clear st0
   have E1 : Hid ((q : Int) + 1 = ((q + 1 : Nat) : Int)) := by show _ = _; omega
   go_wp2_with fail
   rw [E1.out]
   refine (mark87 (q + 1) (by omega) (by omega) _).mono ?_
   rintro e w2 ⟨rfl, hbm⟩
   have V1 := hide (ownsBelow W1.out hbm)
   have F1 : Hid (wr.grownBy w2 (some g)) := grown_trans G1.out (grown_below _ hbm)
   have hgl1 : g < w2.heap.size := Nat.lt_of_lt_of_le hgl F1.out.size
   clear hbm
   have len1 : k * 2 + 1 < ((xs).set (k * 2) (.string (mkB q))).length := by simp only [List.length_set]; omega
   have q1 : (w2).cell? ⟨g, k * 2 + 1, none⟩ = some (((xs).set (k * 2) (.string (mkB q)))[k * 2 + 1]'len1) := by rw [World.ownsRow.cellAt V1.out (k * 2 + 1) (by omega)]; simp
   have f1 : (w2).frozen? ⟨g, k * 2 + 1, none⟩ = false := World.ownsRow.frozenAt V1.out (k * 2 + 1)
   have st1 := World.ownsRow.stored V1.out (k * 2 + 1) (.string (mkB (q + 1)))
   have W2 := hide st1.1
   have G2 : Hid (wr.grownBy ((w2).setCell ⟨g, k * 2 + 1, none⟩ (.string (mkB (q + 1)))) (some g)) := grown_trans F1.out st1.2
   clear st1
   have HA2 : Hid (∀ j, j < (k + 1) * 2 → (((xs).set (k * 2) (.string (mkB q))).set (k * 2 + 1) (.string (mkB (q + 1))))[j]? = (encR.cells (mkR k0 n))[j]?) := fun j hj => by
    have ea := mkR_at k0 n k hlt
    rw [← HQ.out] at ea
    by_cases e0 : j = k * 2
    ·subst e0
     rw [List.getElem?_set_ne (by omega), List.getElem?_set_self len0]
     have := encR.cells_at (mkR k0 n) k (by rw [mkR_len]; exact hlt) 0 (by decide)
     rw [ea] at this
     simp only [encR, Nat.add_zero] at this ⊢
     rw [this]; rfl
    by_cases e1 : j = k * 2 + 1
    ·subst e1
     rw [List.getElem?_set_self len1]
     have := encR.cells_at (mkR k0 n) k (by rw [mkR_len]; exact hlt) 1 (by decide)
     rw [ea] at this
     simp only [encR] at this ⊢
     rw [this]; rfl
    rw [List.getElem?_set_ne (by omega), List.getElem?_set_ne (by omega)]
    exact HA.out j (by omega)
   have HN2 : Hid (((q + 2 : Nat) : Int) = ((k0 + 2 * (k + 1) : Nat) : Int)) := by show _ = _; have := HQ.out; omega
   have en : (q : Int) + 1 + 1 = ((q + 2 : Nat) : Int) := by omega
   go_wp2
   go_roundw
   case rel => exact ⟨k + 1, _, by omega, by go_num, by rw [← HN2.out]; go_num, W2, HA2, grown_trans HG.out G2.out⟩
   case measure => simp [intOf]; omega
  ·have hd : ¬ (k : Int) < (n : Int) := by omega
   have e : k = n := by omega
   have HE : Hid (GOwn encR 109 wr base (.slice a n c) (mkR k0 n)) := gown_ext (mkR_len _ _) HX.out (fun j hj => HA.out j (by have : encR.size = 2 := rfl; rw [this] at hj; omega))
   subst e
   go_wp2
   go_ret
   exact ⟨ret_int rfl, HE.out, HG.out⟩

set_option maxRecDepth 100000 in
set_option maxHeartbeats 4000000 in
theorem heldR (n k0 : Nat) (a : Option Addr) (c : Nat) (hn : n ≤ 100000000) (hk0 : 0 < k0) (hk1 : k0 ≤ 100000000000000000) (w : World) (h : GRow encR w a (mkR k0 n)) :
  Calls Tryz.prog 86 #[.slice a n c, .int .i64 k0] w fun e w' => e = .returned (.int .i64 ((k0 + 2 * n : Nat) : Int)) ∧ Below w.heap.size w w' := by
 have H : Hid (GRow encR w a (mkR k0 n)) := h
 clear h
 go_enter Tryz.func86, Tryz.ntmps86
 go_wp2
 go_loopw [1, 5] (fun tk t wr => ∃ k : Nat, k ≤ n ∧ t = .int .i64 k ∧ tk = .int .i64 ((k0 + 2 * k : Nat) : Int) ∧ Hid (Below w.heap.size w wr)) (fun _ t _ => n - (intOf t).toNat)
 case atStart => exact ⟨0, Nat.zero_le _, rfl, rfl, Below.refl _ _⟩
 case round =>
  obtain ⟨k, hk, rfl, rfl, HB⟩ := hrel
  by_cases hlt : k < n
  ·have hlt' : (k : Int) < (n : Int) := by omega
   have h0 : (0 : Int) ≤ (k : Int) := by omega
   obtain ⟨b, off, rfl, hgl, hc⟩ := (H.out.below HB.out) (by rw [mkR_len]; omega)
   have HC := hide (rat hc k (by rw [mkR_len]; exact hlt))
   rw [mkR_at k0 n k hlt] at HC
   clear hc
   obtain ⟨q, hq⟩ : ∃ q, q = k0 + 2 * k := ⟨_, rfl⟩
   have HQ : Hid (q = k0 + 2 * k) := hq
   rw [← hq] at HC ⊢
   have hq0 : 0 < q := by omega
   have hq1 : q ≤ 900000000000000000 := by omega
   clear hq
   have HN2 : Hid (((q + 2 : Nat) : Int) = ((k0 + 2 * (k + 1) : Nat) : Int)) := by show _ = _; have := HQ.out; omega
   have eq0 : IntKind.i64.wrap (q : Int) = (q : Int) := by rw [IntKind.wrap_i64]; omega
   go_wp2
   have r0 := HC.out.1
   have tn0 := bne_text (mkB q)
   refine wp_region_held_drew (S := fun w' => w'.cell? ⟨b, off + k * 2, none⟩ = some (.string (mkB q))) (by kernel_rfl) r0 (fun hHeld => ?_)
   (refine ti 0 ?_; simp only [Act.put, tA, tB, tD, tE, tF])
   (refine ti 1 ?_; simp only [Act.put, tA, tB, tC, tD, tE, tF])
   (refine ti 2 ?_; simp only [Act.put, tA, tB, tC, tD, tE, tF])
   (refine ti 3 ?_; simp only [Act.put, tA, tB, tC, tD, tE, tF])
   (refine ti 4 ?_; simp only [Act.put, tA, tB, tC, tD, tE, tF])
   (refine ti 5 ?_; simp only [Act.put, tA, tB, tC, tD, tE, tF])
   refine wpAnyH_ready (rs := [6]) (by kernel_rfl) (by simp) ?_
   refine AllReadyH.cons rfl (fun K hK => ?_) AllReadyH.nil
   go_simp
   go_wp2_with fail
   refine (mark87 q (by omega) (by omega) _).mono ?_
   rintro e w1 ⟨rfl, hbm⟩
   have hbA1 : Below wr.heap.size wr w1 := undrew hbm
   clear hbm
   have s0 := (hbA1.cell (p := ⟨b, off + k * 2, none⟩) hgl).trans HC.out.1
   go_wp2_with fail
   refine hK.out _ _ s0 (fun hHeld2 => ?_)
   clear hK K
   (refine ti 7 ?_; simp only [Act.put, tA, tB, tC, tD, tE, tF])
   refine wpAnyH_done (by kernel_rfl) ?_ _
   go_wp2
   have r1 := (hbA1.cell (p := ⟨b, off + k * 2 + 1, none⟩) hgl).trans HC.out.2
   have E1 : Hid ((q : Int) + 1 = ((q + 1 : Nat) : Int)) := by show _ = _; omega
   have e1 : IntKind.i64.wrap ((q : Int) + 1) = (q : Int) + 1 := by rw [IntKind.wrap_i64]; omega
   have tn1 := bne_text (mkB (q + 1))
   refine wp_region_held_drew (S := fun w' => w'.cell? ⟨b, off + k * 2 + 1, none⟩ = some (.string (mkB (q + 1)))) (by kernel_rfl) r1 (fun hHeld => ?_)
   (refine ti 0 ?_; simp only [Act.put, tA, tB, tD, tE, tF])
   (refine ti 1 ?_; simp only [Act.put, tA, tB, tC, tD, tE, tF])
   (refine ti 2 ?_; simp only [Act.put, tA, tB, tC, tD, tE, tF])
   (refine ti 3 ?_; simp only [Act.put, tA, tB, tC, tD, tE, tF])
   (refine ti 4 ?_; simp only [Act.put, tA, tB, tC, tD, tE, tF])
   (refine ti 5 ?_; simp only [Act.put, tA, tB, tC, tD, tE, tF])
   refine wpAnyH_ready (rs := [6]) (by kernel_rfl) (by simp) ?_
   refine AllReadyH.cons rfl (fun K hK => ?_) AllReadyH.nil
   go_simp
   go_wp2_with fail
   rw [E1.out]
   refine (mark87 (q + 1) (by omega) (by omega) _).mono ?_
   rintro e w2 ⟨rfl, hbm⟩
   have hbA2 : Below wr.heap.size wr w2 := hbA1.trans ((undrew hbm).mono hbA1.size)
   clear hbm
   have s1 := (hbA2.cell (p := ⟨b, off + k * 2 + 1, none⟩) hgl).trans HC.out.2
   go_wp2_with fail
   refine hK.out _ _ s1 (fun hHeld2 => ?_)
   clear hK K
   (refine ti 7 ?_; simp only [Act.put, tA, tB, tC, tD, tE, tF])
   refine wpAnyH_done (by kernel_rfl) ?_ _
   go_wp2
   go_roundw
   case rel => exact ⟨k + 1, by omega, by go_num, by rw [← HN2.out]; go_num, HB.out.trans (hbA2.mono HB.out.size)⟩
   case measure => simp [intOf]; omega
  ·have hd : ¬ (k : Int) < (n : Int) := by omega
   go_wp2
   go_ret
   refine ⟨?_, HB.out⟩
   rw [show k = n by omega]
   rfl

set_option maxRecDepth 100000 in
set_option maxHeartbeats 4000000 in
theorem markW (n k0 : Nat) (a : Option Addr) (c base : Nat) (xs0 : List Value) (hn : n ≤ 100000000) (hk0 : 0 < k0) (hk1 : k0 ≤ 100000000000000000) (w : World) (h : w.ownsRow base 111 3 (.slice a n c) n xs0) :
  Calls Tryz.prog 83 #[.slice a n c, .int .i64 k0] w fun e w' => e = .returned (.int .i64 ((k0 + 3 * n : Nat) : Int)) ∧ GOwn encW 111 w' base (.slice a n c) (mkW k0 n) ∧ w.grownBy w' (Value.slice a n c).ownBlock := by
 have H : Hid (w.ownsRow base 111 3 (.slice a n c) n xs0) := h
 clear h
 go_enter Tryz.func83, Tryz.ntmps83
 go_wp2
 go_loopw [1, 5] (fun tk t wr => ∃ (k : Nat) (xs : List Value), k ≤ n ∧ t = .int .i64 k ∧ tk = .int .i64 ((k0 + 3 * k : Nat) : Int) ∧ Hid (wr.ownsRow base 111 3 (.slice a n c) n xs) ∧ Hid (∀ j, j < k * 3 → xs[j]? = (encW.cells (mkW k0 n))[j]?) ∧ Hid (w.grownBy wr (Value.slice a n c).ownBlock)) (fun _ t _ => n - (intOf t).toNat)
 case atStart => exact ⟨0, xs0, Nat.zero_le _, rfl, rfl, H, (fun j hj => by omega), grown_refl _ _⟩
 case round =>
  obtain ⟨k, xs, hk, rfl, rfl, HX, HA, HG⟩ := hrel
  by_cases hlt : k < n
  ·have hlt' : (k : Int) < (n : Int) := by omega
   have h0 : (0 : Int) ≤ (k : Int) := by omega
   obtain ⟨g, rfl, hbg, hgl⟩ := own_form HX.out (by omega)
   have hlen := HX.out.1
   obtain ⟨q, hq⟩ : ∃ q, q = k0 + 3 * k := ⟨_, rfl⟩
   have HQ : Hid (q = k0 + 3 * k) := hq
   rw [← hq]
   have hq0 : 0 < q := by omega
   have hq1 : q ≤ 900000000000000000 := by omega
   clear hq
   have W0 := hide HX.out
   have G0 : Hid (wr.grownBy wr (some g)) := grown_refl _ _
   go_wp2_with fail
   refine (mark87 q (by omega) (by omega) _).mono ?_
   rintro e w1 ⟨rfl, hbm⟩
   have V0 := hide (ownsBelow W0.out hbm)
   have F0 : Hid (wr.grownBy w1 (some g)) := grown_trans G0.out (grown_below _ hbm)
   have hgl0 : g < w1.heap.size := Nat.lt_of_lt_of_le hgl F0.out.size
   clear hbm
   have len0 : k * 3 < (xs).length := by omega
   have q0 : (w1).cell? ⟨g, k * 3, none⟩ = some ((xs)[k * 3]'len0) := by rw [World.ownsRow.cellAt V0.out (k * 3) (by omega)]; simp
   have f0 : (w1).frozen? ⟨g, k * 3, none⟩ = false := World.ownsRow.frozenAt V0.out (k * 3)
   have st0 := World.ownsRow.stored V0.out (k * 3) (.string (mkB q))
   have W1 := hide st0.1
   have G1 : Hid (wr.grownBy ((w1).setCell ⟨g, k * 3, none⟩ (.string (mkB q))) (some g)) := grown_trans F0.out st0.2
   clear st0
   have E1 : Hid ((q : Int) + 1 = ((q + 1 : Nat) : Int)) := by show _ = _; omega
   go_wp2_with fail
   rw [E1.out]
   refine (mark87 (q + 1) (by omega) (by omega) _).mono ?_
   rintro e w2 ⟨rfl, hbm⟩
   have V1 := hide (ownsBelow W1.out hbm)
   have F1 : Hid (wr.grownBy w2 (some g)) := grown_trans G1.out (grown_below _ hbm)
   have hgl1 : g < w2.heap.size := Nat.lt_of_lt_of_le hgl F1.out.size
   clear hbm
   have len1 : k * 3 + 1 < ((xs).set (k * 3) (.string (mkB q))).length := by simp only [List.length_set]; omega
   have q1 : (w2).cell? ⟨g, k * 3 + 1, none⟩ = some (((xs).set (k * 3) (.string (mkB q)))[k * 3 + 1]'len1) := by rw [World.ownsRow.cellAt V1.out (k * 3 + 1) (by omega)]; simp
   have f1 : (w2).frozen? ⟨g, k * 3 + 1, none⟩ = false := World.ownsRow.frozenAt V1.out (k * 3 + 1)
   have st1 := World.ownsRow.stored V1.out (k * 3 + 1) (.string (mkB (q + 1)))
   have W2 := hide st1.1
   have G2 : Hid (wr.grownBy ((w2).setCell ⟨g, k * 3 + 1, none⟩ (.string (mkB (q + 1)))) (some g)) := grown_trans F1.out st1.2
   clear st1
   have len2 : k * 3 + 2 < (((xs).set (k * 3) (.string (mkB q))).set (k * 3 + 1) (.string (mkB (q + 1)))).length := by simp only [List.length_set]; omega
   have q2 : ((w2).setCell ⟨g, k * 3 + 1, none⟩ (.string (mkB (q + 1)))).cell? ⟨g, k * 3 + 2, none⟩ = some ((((xs).set (k * 3) (.string (mkB q))).set (k * 3 + 1) (.string (mkB (q + 1))))[k * 3 + 2]'len2) := by rw [World.ownsRow.cellAt W2.out (k * 3 + 2) (by omega)]; simp
   have f2 : ((w2).setCell ⟨g, k * 3 + 1, none⟩ (.string (mkB (q + 1)))).frozen? ⟨g, k * 3 + 2, none⟩ = false := World.ownsRow.frozenAt W2.out (k * 3 + 2)
   have st2 := World.ownsRow.stored W2.out (k * 3 + 2) (.bool (goneQ q))
   have W3 := hide st2.1
   have G3 : Hid (wr.grownBy (((w2).setCell ⟨g, k * 3 + 1, none⟩ (.string (mkB (q + 1)))).setCell ⟨g, k * 3 + 2, none⟩ (.bool (goneQ q))) (some g)) := grown_trans G2.out st2.2
   clear st2
   have HA2 : Hid (∀ j, j < (k + 1) * 3 → ((((xs).set (k * 3) (.string (mkB q))).set (k * 3 + 1) (.string (mkB (q + 1)))).set (k * 3 + 2) (.bool (goneQ q)))[j]? = (encW.cells (mkW k0 n))[j]?) := fun j hj => by
    have ea := mkW_at k0 n k hlt
    rw [← HQ.out] at ea
    by_cases e0 : j = k * 3
    ·subst e0
     rw [List.getElem?_set_ne (by omega), List.getElem?_set_ne (by omega), List.getElem?_set_self len0]
     have := encW.cells_at (mkW k0 n) k (by rw [mkW_len]; exact hlt) 0 (by decide)
     rw [ea] at this
     simp only [encW, Nat.add_zero] at this ⊢
     rw [this]; rfl
    by_cases e1 : j = k * 3 + 1
    ·subst e1
     rw [List.getElem?_set_ne (by omega), List.getElem?_set_self len1]
     have := encW.cells_at (mkW k0 n) k (by rw [mkW_len]; exact hlt) 1 (by decide)
     rw [ea] at this
     simp only [encW] at this ⊢
     rw [this]; rfl
    by_cases e2 : j = k * 3 + 2
    ·subst e2
     rw [List.getElem?_set_self len2]
     have := encW.cells_at (mkW k0 n) k (by rw [mkW_len]; exact hlt) 2 (by decide)
     rw [ea] at this
     simp only [encW] at this ⊢
     rw [this]; rfl
    rw [List.getElem?_set_ne (by omega), List.getElem?_set_ne (by omega), List.getElem?_set_ne (by omega)]
    exact HA.out j (by omega)
   have HN2 : Hid (((q + 3 : Nat) : Int) = ((k0 + 3 * (k + 1) : Nat) : Int)) := by show _ = _; have := HQ.out; omega
   have eg := goneQ_eq q
   have en : (q : Int) + 1 + 1 + 1 = ((q + 3 : Nat) : Int) := by omega
   go_wp2
   go_roundw
   case rel => exact ⟨k + 1, _, by omega, by go_num, by rw [← HN2.out]; go_num, W3, HA2, grown_trans HG.out G3.out⟩
   case measure => simp [intOf]; omega
  ·have hd : ¬ (k : Int) < (n : Int) := by omega
   have e : k = n := by omega
   have HE : Hid (GOwn encW 111 wr base (.slice a n c) (mkW k0 n)) := gown_ext (mkW_len _ _) HX.out (fun j hj => HA.out j (by have : encW.size = 3 := rfl; rw [this] at hj; omega))
   subst e
   go_wp2
   go_ret
   exact ⟨ret_int rfl, HE.out, HG.out⟩

set_option maxRecDepth 100000 in
set_option maxHeartbeats 4000000 in
theorem heldW (n k0 : Nat) (a : Option Addr) (c : Nat) (hn : n ≤ 100000000) (hk0 : 0 < k0) (hk1 : k0 ≤ 100000000000000000) (w : World) (h : GRow encW w a (mkW k0 n)) :
  Calls Tryz.prog 87 #[.slice a n c, .int .i64 k0] w fun e w' => e = .returned (.int .i64 ((k0 + 3 * n : Nat) : Int)) ∧ Below w.heap.size w w' := by
 have H : Hid (GRow encW w a (mkW k0 n)) := h
 clear h
 go_enter Tryz.func87, Tryz.ntmps87
 go_wp2
 go_loopw [1, 5] (fun tk t wr => ∃ k : Nat, k ≤ n ∧ t = .int .i64 k ∧ tk = .int .i64 ((k0 + 3 * k : Nat) : Int) ∧ Hid (Below w.heap.size w wr)) (fun _ t _ => n - (intOf t).toNat)
 case atStart => exact ⟨0, Nat.zero_le _, rfl, rfl, Below.refl _ _⟩
 case round =>
  obtain ⟨k, hk, rfl, rfl, HB⟩ := hrel
  by_cases hlt : k < n
  ·have hlt' : (k : Int) < (n : Int) := by omega
   have h0 : (0 : Int) ≤ (k : Int) := by omega
   obtain ⟨b, off, rfl, hgl, hc⟩ := (H.out.below HB.out) (by rw [mkW_len]; omega)
   have HC := hide (wat hc k (by rw [mkW_len]; exact hlt))
   rw [mkW_at k0 n k hlt] at HC
   clear hc
   obtain ⟨q, hq⟩ : ∃ q, q = k0 + 3 * k := ⟨_, rfl⟩
   have HQ : Hid (q = k0 + 3 * k) := hq
   rw [← hq] at HC ⊢
   have hq0 : 0 < q := by omega
   have hq1 : q ≤ 900000000000000000 := by omega
   clear hq
   have HN2 : Hid (((q + 3 : Nat) : Int) = ((k0 + 3 * (k + 1) : Nat) : Int)) := by show _ = _; have := HQ.out; omega
   have eq0 : IntKind.i64.wrap (q : Int) = (q : Int) := by rw [IntKind.wrap_i64]; omega
   go_wp2
   have r0 := HC.out.1
   have tn0 := bne_text (mkB q)
   refine wp_region_held_drew (S := fun w' => w'.cell? ⟨b, off + k * 3, none⟩ = some (.string (mkB q))) (by kernel_rfl) r0 (fun hHeld => ?_)
   (refine ti 0 ?_; simp only [Act.put, tA, tB, tD, tE, tF])
   (refine ti 1 ?_; simp only [Act.put, tA, tB, tC, tD, tE, tF])
   (refine ti 2 ?_; simp only [Act.put, tA, tB, tC, tD, tE, tF])
   (refine ti 3 ?_; simp only [Act.put, tA, tB, tC, tD, tE, tF])
   (refine ti 4 ?_; simp only [Act.put, tA, tB, tC, tD, tE, tF])
   (refine ti 5 ?_; simp only [Act.put, tA, tB, tC, tD, tE, tF])
   refine wpAnyH_ready (rs := [6]) (by kernel_rfl) (by simp) ?_
   refine AllReadyH.cons rfl (fun K hK => ?_) AllReadyH.nil
   go_simp
   go_wp2_with fail
   refine (mark87 q (by omega) (by omega) _).mono ?_
   rintro e w1 ⟨rfl, hbm⟩
   have hbA1 : Below wr.heap.size wr w1 := undrew hbm
   clear hbm
   have s0 := (hbA1.cell (p := ⟨b, off + k * 3, none⟩) hgl).trans HC.out.1
   go_wp2_with fail
   refine hK.out _ _ s0 (fun hHeld2 => ?_)
   clear hK K
   (refine ti 7 ?_; simp only [Act.put, tA, tB, tC, tD, tE, tF])
   refine wpAnyH_done (by kernel_rfl) ?_ _
   go_wp2
   have r1 := (hbA1.cell (p := ⟨b, off + k * 3 + 1, none⟩) hgl).trans HC.out.2.1
   have E1 : Hid ((q : Int) + 1 = ((q + 1 : Nat) : Int)) := by show _ = _; omega
   have e1 : IntKind.i64.wrap ((q : Int) + 1) = (q : Int) + 1 := by rw [IntKind.wrap_i64]; omega
   have tn1 := bne_text (mkB (q + 1))
   refine wp_region_held_drew (S := fun w' => w'.cell? ⟨b, off + k * 3 + 1, none⟩ = some (.string (mkB (q + 1)))) (by kernel_rfl) r1 (fun hHeld => ?_)
   (refine ti 0 ?_; simp only [Act.put, tA, tB, tD, tE, tF])
   (refine ti 1 ?_; simp only [Act.put, tA, tB, tC, tD, tE, tF])
   (refine ti 2 ?_; simp only [Act.put, tA, tB, tC, tD, tE, tF])
   (refine ti 3 ?_; simp only [Act.put, tA, tB, tC, tD, tE, tF])
   (refine ti 4 ?_; simp only [Act.put, tA, tB, tC, tD, tE, tF])
   (refine ti 5 ?_; simp only [Act.put, tA, tB, tC, tD, tE, tF])
   refine wpAnyH_ready (rs := [6]) (by kernel_rfl) (by simp) ?_
   refine AllReadyH.cons rfl (fun K hK => ?_) AllReadyH.nil
   go_simp
   go_wp2_with fail
   rw [E1.out]
   refine (mark87 (q + 1) (by omega) (by omega) _).mono ?_
   rintro e w2 ⟨rfl, hbm⟩
   have hbA2 : Below wr.heap.size wr w2 := hbA1.trans ((undrew hbm).mono hbA1.size)
   clear hbm
   have s1 := (hbA2.cell (p := ⟨b, off + k * 3 + 1, none⟩) hgl).trans HC.out.2.1
   go_wp2_with fail
   refine hK.out _ _ s1 (fun hHeld2 => ?_)
   clear hK K
   (refine ti 7 ?_; simp only [Act.put, tA, tB, tC, tD, tE, tF])
   refine wpAnyH_done (by kernel_rfl) ?_ _
   have r2 := (hbA2.cell (p := ⟨b, off + k * 3 + 2, none⟩) hgl).trans HC.out.2.2
   have eg := goneQ_eq q
   have ebn := bne_self' (goneQ q)
   go_wp2
   go_roundw
   case rel => exact ⟨k + 1, by omega, by go_num, by rw [← HN2.out]; go_num, HB.out.trans (hbA2.mono HB.out.size)⟩
   case measure => simp [intOf]; omega
  ·have hd : ¬ (k : Int) < (n : Int) := by omega
   go_wp2
   go_ret
   refine ⟨?_, HB.out⟩
   rw [show k = n by omega]
   rfl
end Go.Proofs.YtpnnncfbodfnhaaGreatDoor

namespace Go.Proofs.YtpnnncfbodfnhaaGreatDoor
open Go.RowKit
open KM
attribute [local go_sem ↓] Go.wp_at_zero Go.wp_at_succ

structure TxD (t : Tx) : Prop where
 ws : WsD t.ws
 wl : t.ws.length ≤ 3
 rs : RsD t.rs
 rl : t.rs.length ≤ 3
 nm : t.nm.size ≤ 1048576
 id : 1 ≤ t.id ∧ t.id ≤ 6

end Go.Proofs.YtpnnncfbodfnhaaGreatDoor

namespace Go.Proofs.YtpnnncfbodfnhaaGreatDoor
open Go.RowKit
open KM
attribute [local go_sem ↓] Go.wp_at_zero Go.wp_at_succ

theorem Lies.low {α : Type} {E : Enc α} {e : TypeId} {w w' : World} {lo hi B : Nat} {v : Value} {xs : List α} (h : Lies E e w lo hi v xs) (hb : Below B w w') (hB : hi ≤ B := by first | exact Nat.le_refl _ | omega) : Lies E e w' lo hi v xs := by
 refine ⟨?_, h.up⟩
 obtain ⟨h1, h2⟩ := h.own
 refine ⟨h1, ?_⟩
 rcases h2 with h2 | ⟨g, cap, cur, hv, hg', hh, r⟩
 ·exact Or.inl h2
 ·refine Or.inr ⟨g, cap, cur, hv, hg', ?_, r⟩
  have hup := h.up g (by rw [hv]; rfl)
  rw [hb.block g (by omega)]
  exact hh
end Go.Proofs.YtpnnncfbodfnhaaGreatDoor

namespace Go.Proofs.YtpnnncfbodfnhaaGreatDoor
open Go.RowKit
open KM
attribute [local go_sem ↓] Go.wp_at_zero Go.wp_at_succ

structure TxA (t : Tx) : Prop where
 fit : TFit t
 rl : t.rs.length ≤ 4
 wl : t.ws.length ≤ 4
theorem TxD.fit {t : Tx} (h : TxD t) : TFit t := ⟨Nat.le_trans h.rl (by omega), h.rs.fit, Nat.le_trans h.wl (by omega), h.ws.fit, h.nm⟩
theorem TxD.any {t : Tx} (h : TxD t) : TxA t := ⟨h.fit, Nat.le_trans h.rl (by omega), Nat.le_trans h.wl (by omega)⟩
end Go.Proofs.YtpnnncfbodfnhaaGreatDoor

namespace Go.Proofs.YtpnnncfbodfnhaaGreatDoor
open Go.RowKit
open KM
attribute [local go_sem ↓] Go.wp_at_zero Go.wp_at_succ

end Go.Proofs.YtpnnncfbodfnhaaGreatDoor

namespace Go.Proofs.YtpnnncfbodfnhaaGreatDoor
open Go.RowKit
open KM
attribute [local go_sem ↓] Go.wp_at_zero Go.wp_at_succ

end Go.Proofs.YtpnnncfbodfnhaaGreatDoor

namespace Go.Proofs.YtpnnncfbodfnhaaGreatDoor
open Go.RowKit
open KM
attribute [local go_sem ↓] Go.wp_at_zero Go.wp_at_succ

end Go.Proofs.YtpnnncfbodfnhaaGreatDoor

namespace Go.Proofs.YtpnnncfbodfnhaaGreatDoor
open Go.RowKit
open KM
attribute [local go_sem ↓] Go.wp_at_zero Go.wp_at_succ

end Go.Proofs.YtpnnncfbodfnhaaGreatDoor

namespace Go.Proofs.YtpnnncfbodfnhaaGreatDoor
open Go.RowKit
open KM
attribute [local go_sem ↓] Go.wp_at_zero Go.wp_at_succ

end Go.Proofs.YtpnnncfbodfnhaaGreatDoor

namespace Go.Proofs.YtpnnncfbodfnhaaGreatDoor
namespace VM
open KM
def keep (s : Int) (ns : List Nd) (n : Nd) : Bool := decide (s < n.2.2.2.2) || ((lst n.2.1 s ns).map (·.1) == some n.1)
def T1 (s : Int) (vs : List Vr) : Nat → List Vr
 | 0 => []
 | i + 1 => T1 s vs i ++ (match vs[i]? with
  | some v => if keep s (lab vs vs.length) (i, v) = true then [v] else []
  | none => [])
end VM
end Go.Proofs.YtpnnncfbodfnhaaGreatDoor

namespace Go.Proofs.YtpnnncfbodfnhaaGreatDoor
open Go.RowKit
open KM
open VM
attribute [local go_sem ↓] Go.wp_at_zero Go.wp_at_succ

end Go.Proofs.YtpnnncfbodfnhaaGreatDoor

namespace Go.Proofs.YtpnnncfbodfnhaaGreatDoor
open Go.RowKit
open KM
attribute [local go_sem ↓] Go.wp_at_zero Go.wp_at_succ

end Go.Proofs.YtpnnncfbodfnhaaGreatDoor
