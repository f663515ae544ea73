/- The marks of rows of ranges and of writes. -/
import Derived.Test.YtpnnncfbodfnhaaGreatPr13
import Derived.Test.YtpnnncfbodfnhaaGreatPr04
import Derived.Test.YtpnnncfbodfnhaaGreatPr01
import Derived.Deep.AppendLies
import Derived.Sort.OwnSorted
import Derived.Lib.RowBridge
import Derived.Test.YtpnnncfbodfnhaaGreatPr10
import Derived.Test.YtpnnncfbodfnhaaGreatPr11
import Derived.Deep.RegionHeld3
import Derived.Test.YtpnnncfbodfnhaaGreatPr02
import Derived.Deep.Cut
import Derived.Deep.CutRange
import Derived.Test.YtpnnncfbodfnhaaGreatPr07
import Derived.WalkSpells
import Derived.WalkLawsBesides
import Derived.Deep.QuietTactic
import Derived.BigQuiet
import Derived.Deep.DrawnRows
import Derived.Test.YtpnnncfbodfnhaaGreatPr08
import Derived.Deep.RegionHeld
namespace Go.Proofs.YtpnnncfbodfnhaaGreat
open Go.RowKit
open KM
attribute [local go_sem ↓] Go.wp_at_zero Go.wp_at_succ

set_option maxRecDepth 100000 in
set_option maxHeartbeats 4000000 in
theorem markR (n k0 : Nat) (a : Option Addr) (c base : Nat) (xs0 : List Value) (hn : n ≤ 100000000) (hk0 : 0 < k0) (hk1 : k0 ≤ 100000000000000000) (w : World) (h : w.ownsRow base 115 2 (.slice a n c) n xs0) :
  Calls Tryz.prog 97 #[.slice a n c, .int .i64 k0] w fun e w' => e = .returned (.int .i64 ((k0 + 2 * n : Nat) : Int)) ∧ GOwn encR 115 w' base (.slice a n c) (mkR k0 n) ∧ w.grownBy w' (Value.slice a n c).ownBlock := by
 have H : Hid (w.ownsRow base 115 2 (.slice a n c) n xs0) := h
 clear h
 go_enter Tryz.func97, Tryz.ntmps97
 go_wp2
 go_loopw [1, 5] (fun tk t wr => ∃ (k : Nat) (xs : List Value), k ≤ n ∧ t = .int .i64 k ∧ tk = .int .i64 ((k0 + 2 * k : Nat) : Int) ∧ Hid (wr.ownsRow base 115 2 (.slice a n c) n xs) ∧ Hid (∀ j, j < k * 2 → xs[j]? = (encR.cells (mkR k0 n))[j]?) ∧ Hid (w.grownBy wr (Value.slice a n c).ownBlock)) (fun _ t _ => n - (intOf t).toNat)
 case atStart => exact ⟨0, xs0, Nat.zero_le _, rfl, rfl, H, (fun j hj => by omega), grown_refl _ _⟩
 case round =>
  obtain ⟨k, xs, hk, rfl, rfl, HX, HA, HG⟩ := hrel
  by_cases hlt : k < n
  ·have hlt' : (k : Int) < (n : Int) := by omega
   have h0 : (0 : Int) ≤ (k : Int) := by omega
   obtain ⟨g, rfl, hbg, hgl⟩ := own_form HX.out (by omega)
   have hlen := HX.out.1
   obtain ⟨q, hq⟩ : ∃ q, q = k0 + 2 * k := ⟨_, rfl⟩
   have HQ : Hid (q = k0 + 2 * k) := hq
   rw [← hq]
   have hq0 : 0 < q := by omega
   have hq1 : q ≤ 900000000000000000 := by omega
   clear hq
   have W0 := hide HX.out
   have G0 : Hid (wr.grownBy wr (some g)) := grown_refl _ _
   go_wp2_with fail
   refine (mark87 q (by omega) (by omega) _).mono ?_
   rintro e w1 ⟨rfl, hbm⟩
   have V0 := hide (ownsBelow W0.out hbm)
   have F0 : Hid (wr.grownBy w1 (some g)) := grown_trans G0.out (grown_below _ hbm)
   have hgl0 : g < w1.heap.size := Nat.lt_of_lt_of_le hgl F0.out.size
   clear hbm
   have len0 : k * 2 < (xs).length := by omega
   have q0 : (w1).cell? ⟨g, k * 2, none⟩ = some ((xs)[k * 2]'len0) := by rw [World.ownsRow.cellAt V0.out (k * 2) (by omega)]; simp
   have f0 : (w1).frozen? ⟨g, k * 2, none⟩ = false := World.ownsRow.frozenAt V0.out (k * 2)
   have st0 := World.ownsRow.stored V0.out (k * 2) (.string (mkB q))
   have W1 := hide st0.1
   have G1 : Hid (wr.grownBy ((w1).setCell ⟨g, k * 2, none⟩ (.string (mkB q))) (some g)) := grown_trans F0.out st0.2
   clear st0
   have E1 : Hid ((q : Int) + 1 = ((q + 1 : Nat) : Int)) := by show _ = _; omega
   go_wp2_with fail
   rw [E1.out]
   refine (mark87 (q + 1) (by omega) (by omega) _).mono ?_
   rintro e w2 ⟨rfl, hbm⟩
   have V1 := hide (ownsBelow W1.out hbm)
   have F1 : Hid (wr.grownBy w2 (some g)) := grown_trans G1.out (grown_below _ hbm)
   have hgl1 : g < w2.heap.size := Nat.lt_of_lt_of_le hgl F1.out.size
   clear hbm
   have len1 : k * 2 + 1 < ((xs).set (k * 2) (.string (mkB q))).length := by simp only [List.length_set]; omega
   have q1 : (w2).cell? ⟨g, k * 2 + 1, none⟩ = some (((xs).set (k * 2) (.string (mkB q)))[k * 2 + 1]'len1) := by rw [World.ownsRow.cellAt V1.out (k * 2 + 1) (by omega)]; simp
   have f1 : (w2).frozen? ⟨g, k * 2 + 1, none⟩ = false := World.ownsRow.frozenAt V1.out (k * 2 + 1)
   have st1 := World.ownsRow.stored V1.out (k * 2 + 1) (.string (mkB (q + 1)))
   have W2 := hide st1.1
   have G2 : Hid (wr.grownBy ((w2).setCell ⟨g, k * 2 + 1, none⟩ (.string (mkB (q + 1)))) (some g)) := grown_trans F1.out st1.2
   clear st1
   have HA2 : Hid (∀ j, j < (k + 1) * 2 → (((xs).set (k * 2) (.string (mkB q))).set (k * 2 + 1) (.string (mkB (q + 1))))[j]? = (encR.cells (mkR k0 n))[j]?) := fun j hj => by
    have ea := mkR_at k0 n k hlt
    rw [← HQ.out] at ea
    by_cases e0 : j = k * 2
    ·subst e0
     rw [List.getElem?_set_ne (by omega), List.getElem?_set_self len0]
     have := encR.cells_at (mkR k0 n) k (by rw [mkR_len]; exact hlt) 0 (by decide)
     rw [ea] at this
     simp only [encR, Nat.add_zero] at this ⊢
     rw [this]; rfl
    by_cases e1 : j = k * 2 + 1
    ·subst e1
     rw [List.getElem?_set_self len1]
     have := encR.cells_at (mkR k0 n) k (by rw [mkR_len]; exact hlt) 1 (by decide)
     rw [ea] at this
     simp only [encR] at this ⊢
     rw [this]; rfl
    rw [List.getElem?_set_ne (by omega), List.getElem?_set_ne (by omega)]
    exact HA.out j (by omega)
   have HN2 : Hid (((q + 2 : Nat) : Int) = ((k0 + 2 * (k + 1) : Nat) : Int)) := by show _ = _; have := HQ.out; omega
   have en : (q : Int) + 1 + 1 = ((q + 2 : Nat) : Int) := by omega
   go_wp2
   go_roundw
   case rel => exact ⟨k + 1, _, by omega, by go_num, by rw [← HN2.out]; go_num, W2, HA2, grown_trans HG.out G2.out⟩
   case measure => simp [intOf]; omega
  ·have hd : ¬ (k : Int) < (n : Int) := by omega
   have e : k = n := by omega
   have HE : Hid (GOwn encR 115 wr base (.slice a n c) (mkR k0 n)) := gown_ext (mkR_len _ _) HX.out (fun j hj => HA.out j (by have : encR.size = 2 := rfl; rw [this] at hj; omega))
   subst e
   go_wp2
   go_ret
   exact ⟨ret_int rfl, HE.out, HG.out⟩

set_option maxRecDepth 100000 in
set_option maxHeartbeats 4000000 in
theorem heldR (n k0 : Nat) (a : Option Addr) (c : Nat) (hn : n ≤ 100000000) (hk0 : 0 < k0) (hk1 : k0 ≤ 100000000000000000) (w : World) (h : GRow encR w a (mkR k0 n)) :
  Calls Tryz.prog 99 #[.slice a n c, .int .i64 k0] w fun e w' => e = .returned (.int .i64 ((k0 + 2 * n : Nat) : Int)) ∧ Below w.heap.size w w' := by
 have H : Hid (GRow encR w a (mkR k0 n)) := h
 clear h
 go_enter Tryz.func99, Tryz.ntmps99
 go_wp2
 go_loopw [1, 5] (fun tk t wr => ∃ k : Nat, k ≤ n ∧ t = .int .i64 k ∧ tk = .int .i64 ((k0 + 2 * k : Nat) : Int) ∧ Hid (Below w.heap.size w wr)) (fun _ t _ => n - (intOf t).toNat)
 case atStart => exact ⟨0, Nat.zero_le _, rfl, rfl, Below.refl _ _⟩
 case round =>
  obtain ⟨k, hk, rfl, rfl, HB⟩ := hrel
  by_cases hlt : k < n
  ·have hlt' : (k : Int) < (n : Int) := by omega
   have h0 : (0 : Int) ≤ (k : Int) := by omega
   obtain ⟨b, off, rfl, hgl, hc⟩ := (H.out.below HB.out) (by rw [mkR_len]; omega)
   have HC := hide (rat hc k (by rw [mkR_len]; exact hlt))
   rw [mkR_at k0 n k hlt] at HC
   clear hc
   obtain ⟨q, hq⟩ : ∃ q, q = k0 + 2 * k := ⟨_, rfl⟩
   have HQ : Hid (q = k0 + 2 * k) := hq
   rw [← hq] at HC ⊢
   have hq0 : 0 < q := by omega
   have hq1 : q ≤ 900000000000000000 := by omega
   clear hq
   have HN2 : Hid (((q + 2 : Nat) : Int) = ((k0 + 2 * (k + 1) : Nat) : Int)) := by show _ = _; have := HQ.out; omega
   have eq0 : IntKind.i64.wrap (q : Int) = (q : Int) := by rw [IntKind.wrap_i64]; omega
   go_wp2
   have r0 := HC.out.1
   have tn0 := bne_text (mkB q)
   refine wp_region_held_drew (S := fun w' => w'.cell? ⟨b, off + k * 2, none⟩ = some (.string (mkB q))) (by kernel_rfl) r0 (fun hHeld => ?_)
   (refine wpAnyH_take (i := 0) (v := ?_) rfl (by kernel_rfl) (by kernel_rfl) (by kernel_rfl) (fun _ _ _ h => h) (Or.inl ⟨by rfl, ?_⟩) (by assumption) ?_; rotate_left; (focus (intro w hSw; (try dsimp only at hSw); go_simp; (try with_reducible rfl); done)); simp only [Act.put, List.getElem_toArray, List.getElem_cons_zero, List.setIfInBounds_toArray, List.set_cons_zero, List.set_cons_succ])
   (refine wpAnyH_take (i := 1) (v := ?_) rfl (by kernel_rfl) (by kernel_rfl) (by kernel_rfl) (fun _ _ _ h => h) (Or.inl ⟨by rfl, ?_⟩) (by assumption) ?_; rotate_left; (focus (intro w hSw; (try dsimp only at hSw); go_simp; (try with_reducible rfl); done)); simp only [Act.put, List.getElem_toArray, List.getElem_cons_zero, List.getElem_cons_succ, List.setIfInBounds_toArray, List.set_cons_zero, List.set_cons_succ])
   (refine wpAnyH_take (i := 2) (v := ?_) rfl (by kernel_rfl) (by kernel_rfl) (by kernel_rfl) (fun _ _ _ h => h) (Or.inl ⟨by rfl, ?_⟩) (by assumption) ?_; rotate_left; (focus (intro w hSw; (try dsimp only at hSw); go_simp; (try with_reducible rfl); done)); simp only [Act.put, List.getElem_toArray, List.getElem_cons_zero, List.getElem_cons_succ, List.setIfInBounds_toArray, List.set_cons_zero, List.set_cons_succ])
   (refine wpAnyH_take (i := 3) (v := ?_) rfl (by kernel_rfl) (by kernel_rfl) (by kernel_rfl) (fun _ _ _ h => h) (Or.inl ⟨by rfl, ?_⟩) (by assumption) ?_; rotate_left; (focus (intro w hSw; (try dsimp only at hSw); go_simp; (try with_reducible rfl); done)); simp only [Act.put, List.getElem_toArray, List.getElem_cons_zero, List.getElem_cons_succ, List.setIfInBounds_toArray, List.set_cons_zero, List.set_cons_succ])
   (refine wpAnyH_take (i := 4) (v := ?_) rfl (by kernel_rfl) (by kernel_rfl) (by kernel_rfl) (fun _ _ _ h => h) (Or.inl ⟨by rfl, ?_⟩) (by assumption) ?_; rotate_left; (focus (intro w hSw; (try dsimp only at hSw); go_simp; (try with_reducible rfl); done)); simp only [Act.put, List.getElem_toArray, List.getElem_cons_zero, List.getElem_cons_succ, List.setIfInBounds_toArray, List.set_cons_zero, List.set_cons_succ])
   (refine wpAnyH_take (i := 5) (v := ?_) rfl (by kernel_rfl) (by kernel_rfl) (by kernel_rfl) (fun _ _ _ h => h) (Or.inl ⟨by rfl, ?_⟩) (by assumption) ?_; rotate_left; (focus (intro w hSw; (try dsimp only at hSw); go_simp; (try with_reducible rfl); done)); simp only [Act.put, List.getElem_toArray, List.getElem_cons_zero, List.getElem_cons_succ, List.setIfInBounds_toArray, List.set_cons_zero, List.set_cons_succ])
   refine wpAnyH_ready (rs := [6]) (by kernel_rfl) (by simp) ?_
   refine AllReadyH.cons rfl (fun K hK => ?_) AllReadyH.nil
   go_simp
   go_wp2_with fail
   refine (mark87 q (by omega) (by omega) _).mono ?_
   rintro e w1 ⟨rfl, hbm⟩
   have hbA1 : Below wr.heap.size wr w1 := undrew hbm
   clear hbm
   have s0 := (hbA1.cell (p := ⟨b, off + k * 2, none⟩) hgl).trans HC.out.1
   go_wp2_with fail
   refine hK.out _ _ s0 (fun hHeld2 => ?_)
   clear hK K
   (refine wpAnyH_take (i := 7) (v := ?_) rfl (by kernel_rfl) (by kernel_rfl) (by kernel_rfl) (fun _ _ _ h => h) (Or.inl ⟨by rfl, ?_⟩) (by assumption) ?_; rotate_left; (focus (intro w hSw; (try dsimp only at hSw); go_simp; (try with_reducible rfl); done)); simp only [Act.put, List.getElem_toArray, List.getElem_cons_zero, List.getElem_cons_succ, List.setIfInBounds_toArray, List.set_cons_zero, List.set_cons_succ])
   refine wpAnyH_done (by kernel_rfl) ?_ _
   go_wp2
   have r1 := (hbA1.cell (p := ⟨b, off + k * 2 + 1, none⟩) hgl).trans HC.out.2
   have E1 : Hid ((q : Int) + 1 = ((q + 1 : Nat) : Int)) := by show _ = _; omega
   have e1 : IntKind.i64.wrap ((q : Int) + 1) = (q : Int) + 1 := by rw [IntKind.wrap_i64]; omega
   have tn1 := bne_text (mkB (q + 1))
   refine wp_region_held_drew (S := fun w' => w'.cell? ⟨b, off + k * 2 + 1, none⟩ = some (.string (mkB (q + 1)))) (by kernel_rfl) r1 (fun hHeld => ?_)
   (refine wpAnyH_take (i := 0) (v := ?_) rfl (by kernel_rfl) (by kernel_rfl) (by kernel_rfl) (fun _ _ _ h => h) (Or.inl ⟨by rfl, ?_⟩) (by assumption) ?_; rotate_left; (focus (intro w hSw; (try dsimp only at hSw); go_simp; (try with_reducible rfl); done)); simp only [Act.put, List.getElem_toArray, List.getElem_cons_zero, List.setIfInBounds_toArray, List.set_cons_zero, List.set_cons_succ])
   (refine wpAnyH_take (i := 1) (v := ?_) rfl (by kernel_rfl) (by kernel_rfl) (by kernel_rfl) (fun _ _ _ h => h) (Or.inl ⟨by rfl, ?_⟩) (by assumption) ?_; rotate_left; (focus (intro w hSw; (try dsimp only at hSw); go_simp; (try with_reducible rfl); done)); simp only [Act.put, List.getElem_toArray, List.getElem_cons_zero, List.getElem_cons_succ, List.setIfInBounds_toArray, List.set_cons_zero, List.set_cons_succ])
   (refine wpAnyH_take (i := 2) (v := ?_) rfl (by kernel_rfl) (by kernel_rfl) (by kernel_rfl) (fun _ _ _ h => h) (Or.inl ⟨by rfl, ?_⟩) (by assumption) ?_; rotate_left; (focus (intro w hSw; (try dsimp only at hSw); go_simp; (try with_reducible rfl); done)); simp only [Act.put, List.getElem_toArray, List.getElem_cons_zero, List.getElem_cons_succ, List.setIfInBounds_toArray, List.set_cons_zero, List.set_cons_succ])
   (refine wpAnyH_take (i := 3) (v := ?_) rfl (by kernel_rfl) (by kernel_rfl) (by kernel_rfl) (fun _ _ _ h => h) (Or.inl ⟨by rfl, ?_⟩) (by assumption) ?_; rotate_left; (focus (intro w hSw; (try dsimp only at hSw); go_simp; (try with_reducible rfl); done)); simp only [Act.put, List.getElem_toArray, List.getElem_cons_zero, List.getElem_cons_succ, List.setIfInBounds_toArray, List.set_cons_zero, List.set_cons_succ])
   (refine wpAnyH_take (i := 4) (v := ?_) rfl (by kernel_rfl) (by kernel_rfl) (by kernel_rfl) (fun _ _ _ h => h) (Or.inl ⟨by rfl, ?_⟩) (by assumption) ?_; rotate_left; (focus (intro w hSw; (try dsimp only at hSw); go_simp; (try with_reducible rfl); done)); simp only [Act.put, List.getElem_toArray, List.getElem_cons_zero, List.getElem_cons_succ, List.setIfInBounds_toArray, List.set_cons_zero, List.set_cons_succ])
   (refine wpAnyH_take (i := 5) (v := ?_) rfl (by kernel_rfl) (by kernel_rfl) (by kernel_rfl) (fun _ _ _ h => h) (Or.inl ⟨by rfl, ?_⟩) (by assumption) ?_; rotate_left; (focus (intro w hSw; (try dsimp only at hSw); go_simp; (try with_reducible rfl); done)); simp only [Act.put, List.getElem_toArray, List.getElem_cons_zero, List.getElem_cons_succ, List.setIfInBounds_toArray, List.set_cons_zero, List.set_cons_succ])
   refine wpAnyH_ready (rs := [6]) (by kernel_rfl) (by simp) ?_
   refine AllReadyH.cons rfl (fun K hK => ?_) AllReadyH.nil
   go_simp
   go_wp2_with fail
   rw [E1.out]
   refine (mark87 (q + 1) (by omega) (by omega) _).mono ?_
   rintro e w2 ⟨rfl, hbm⟩
   have hbA2 : Below wr.heap.size wr w2 := hbA1.trans ((undrew hbm).mono hbA1.size)
   clear hbm
   have s1 := (hbA2.cell (p := ⟨b, off + k * 2 + 1, none⟩) hgl).trans HC.out.2
   go_wp2_with fail
   refine hK.out _ _ s1 (fun hHeld2 => ?_)
   clear hK K
   (refine wpAnyH_take (i := 7) (v := ?_) rfl (by kernel_rfl) (by kernel_rfl) (by kernel_rfl) (fun _ _ _ h => h) (Or.inl ⟨by rfl, ?_⟩) (by assumption) ?_; rotate_left; (focus (intro w hSw; (try dsimp only at hSw); go_simp; (try with_reducible rfl); done)); simp only [Act.put, List.getElem_toArray, List.getElem_cons_zero, List.getElem_cons_succ, List.setIfInBounds_toArray, List.set_cons_zero, List.set_cons_succ])
   refine wpAnyH_done (by kernel_rfl) ?_ _
   go_wp2
   go_roundw
   case rel => exact ⟨k + 1, by omega, by go_num, by rw [← HN2.out]; go_num, HB.out.trans (hbA2.mono HB.out.size)⟩
   case measure => simp [intOf]; omega
  ·have hd : ¬ (k : Int) < (n : Int) := by omega
   go_wp2
   go_ret
   refine ⟨?_, HB.out⟩
   rw [show k = n by omega]
   rfl

set_option maxRecDepth 100000 in
set_option maxHeartbeats 4000000 in
theorem markW (n k0 : Nat) (a : Option Addr) (c base : Nat) (xs0 : List Value) (hn : n ≤ 100000000) (hk0 : 0 < k0) (hk1 : k0 ≤ 100000000000000000) (w : World) (h : w.ownsRow base 181 3 (.slice a n c) n xs0) :
  Calls Tryz.prog 98 #[.slice a n c, .int .i64 k0] w fun e w' => e = .returned (.int .i64 ((k0 + 3 * n : Nat) : Int)) ∧ GOwn encW 181 w' base (.slice a n c) (mkW k0 n) ∧ w.grownBy w' (Value.slice a n c).ownBlock := by
 have H : Hid (w.ownsRow base 181 3 (.slice a n c) n xs0) := h
 clear h
 go_enter Tryz.func98, Tryz.ntmps98
 go_wp2
 go_loopw [1, 5] (fun tk t wr => ∃ (k : Nat) (xs : List Value), k ≤ n ∧ t = .int .i64 k ∧ tk = .int .i64 ((k0 + 3 * k : Nat) : Int) ∧ Hid (wr.ownsRow base 181 3 (.slice a n c) n xs) ∧ Hid (∀ j, j < k * 3 → xs[j]? = (encW.cells (mkW k0 n))[j]?) ∧ Hid (w.grownBy wr (Value.slice a n c).ownBlock)) (fun _ t _ => n - (intOf t).toNat)
 case atStart => exact ⟨0, xs0, Nat.zero_le _, rfl, rfl, H, (fun j hj => by omega), grown_refl _ _⟩
 case round =>
  obtain ⟨k, xs, hk, rfl, rfl, HX, HA, HG⟩ := hrel
  by_cases hlt : k < n
  ·have hlt' : (k : Int) < (n : Int) := by omega
   have h0 : (0 : Int) ≤ (k : Int) := by omega
   obtain ⟨g, rfl, hbg, hgl⟩ := own_form HX.out (by omega)
   have hlen := HX.out.1
   obtain ⟨q, hq⟩ : ∃ q, q = k0 + 3 * k := ⟨_, rfl⟩
   have HQ : Hid (q = k0 + 3 * k) := hq
   rw [← hq]
   have hq0 : 0 < q := by omega
   have hq1 : q ≤ 900000000000000000 := by omega
   clear hq
   have W0 := hide HX.out
   have G0 : Hid (wr.grownBy wr (some g)) := grown_refl _ _
   go_wp2_with fail
   refine (mark87 q (by omega) (by omega) _).mono ?_
   rintro e w1 ⟨rfl, hbm⟩
   have V0 := hide (ownsBelow W0.out hbm)
   have F0 : Hid (wr.grownBy w1 (some g)) := grown_trans G0.out (grown_below _ hbm)
   have hgl0 : g < w1.heap.size := Nat.lt_of_lt_of_le hgl F0.out.size
   clear hbm
   have len0 : k * 3 < (xs).length := by omega
   have q0 : (w1).cell? ⟨g, k * 3, none⟩ = some ((xs)[k * 3]'len0) := by rw [World.ownsRow.cellAt V0.out (k * 3) (by omega)]; simp
   have f0 : (w1).frozen? ⟨g, k * 3, none⟩ = false := World.ownsRow.frozenAt V0.out (k * 3)
   have st0 := World.ownsRow.stored V0.out (k * 3) (.string (mkB q))
   have W1 := hide st0.1
   have G1 : Hid (wr.grownBy ((w1).setCell ⟨g, k * 3, none⟩ (.string (mkB q))) (some g)) := grown_trans F0.out st0.2
   clear st0
   have E1 : Hid ((q : Int) + 1 = ((q + 1 : Nat) : Int)) := by show _ = _; omega
   go_wp2_with fail
   rw [E1.out]
   refine (mark87 (q + 1) (by omega) (by omega) _).mono ?_
   rintro e w2 ⟨rfl, hbm⟩
   have V1 := hide (ownsBelow W1.out hbm)
   have F1 : Hid (wr.grownBy w2 (some g)) := grown_trans G1.out (grown_below _ hbm)
   have hgl1 : g < w2.heap.size := Nat.lt_of_lt_of_le hgl F1.out.size
   clear hbm
   have len1 : k * 3 + 1 < ((xs).set (k * 3) (.string (mkB q))).length := by simp only [List.length_set]; omega
   have q1 : (w2).cell? ⟨g, k * 3 + 1, none⟩ = some (((xs).set (k * 3) (.string (mkB q)))[k * 3 + 1]'len1) := by rw [World.ownsRow.cellAt V1.out (k * 3 + 1) (by omega)]; simp
   have f1 : (w2).frozen? ⟨g, k * 3 + 1, none⟩ = false := World.ownsRow.frozenAt V1.out (k * 3 + 1)
   have st1 := World.ownsRow.stored V1.out (k * 3 + 1) (.string (mkB (q + 1)))
   have W2 := hide st1.1
   have G2 : Hid (wr.grownBy ((w2).setCell ⟨g, k * 3 + 1, none⟩ (.string (mkB (q + 1)))) (some g)) := grown_trans F1.out st1.2
   clear st1
   have len2 : k * 3 + 2 < (((xs).set (k * 3) (.string (mkB q))).set (k * 3 + 1) (.string (mkB (q + 1)))).length := by simp only [List.length_set]; omega
   have q2 : ((w2).setCell ⟨g, k * 3 + 1, none⟩ (.string (mkB (q + 1)))).cell? ⟨g, k * 3 + 2, none⟩ = some ((((xs).set (k * 3) (.string (mkB q))).set (k * 3 + 1) (.string (mkB (q + 1))))[k * 3 + 2]'len2) := by rw [World.ownsRow.cellAt W2.out (k * 3 + 2) (by omega)]; simp
   have f2 : ((w2).setCell ⟨g, k * 3 + 1, none⟩ (.string (mkB (q + 1)))).frozen? ⟨g, k * 3 + 2, none⟩ = false := World.ownsRow.frozenAt W2.out (k * 3 + 2)
   have st2 := World.ownsRow.stored W2.out (k * 3 + 2) (.bool (goneQ q))
   have W3 := hide st2.1
   have G3 : Hid (wr.grownBy (((w2).setCell ⟨g, k * 3 + 1, none⟩ (.string (mkB (q + 1)))).setCell ⟨g, k * 3 + 2, none⟩ (.bool (goneQ q))) (some g)) := grown_trans G2.out st2.2
   clear st2
   have HA2 : Hid (∀ j, j < (k + 1) * 3 → ((((xs).set (k * 3) (.string (mkB q))).set (k * 3 + 1) (.string (mkB (q + 1)))).set (k * 3 + 2) (.bool (goneQ q)))[j]? = (encW.cells (mkW k0 n))[j]?) := fun j hj => by
    have ea := mkW_at k0 n k hlt
    rw [← HQ.out] at ea
    by_cases e0 : j = k * 3
    ·subst e0
     rw [List.getElem?_set_ne (by omega), List.getElem?_set_ne (by omega), List.getElem?_set_self len0]
     have := encW.cells_at (mkW k0 n) k (by rw [mkW_len]; exact hlt) 0 (by decide)
     rw [ea] at this
     simp only [encW, Nat.add_zero] at this ⊢
     rw [this]; rfl
    by_cases e1 : j = k * 3 + 1
    ·subst e1
     rw [List.getElem?_set_ne (by omega), List.getElem?_set_self len1]
     have := encW.cells_at (mkW k0 n) k (by rw [mkW_len]; exact hlt) 1 (by decide)
     rw [ea] at this
     simp only [encW] at this ⊢
     rw [this]; rfl
    by_cases e2 : j = k * 3 + 2
    ·subst e2
     rw [List.getElem?_set_self len2]
     have := encW.cells_at (mkW k0 n) k (by rw [mkW_len]; exact hlt) 2 (by decide)
     rw [ea] at this
     simp only [encW] at this ⊢
     rw [this]; rfl
    rw [List.getElem?_set_ne (by omega), List.getElem?_set_ne (by omega), List.getElem?_set_ne (by omega)]
    exact HA.out j (by omega)
   have HN2 : Hid (((q + 3 : Nat) : Int) = ((k0 + 3 * (k + 1) : Nat) : Int)) := by show _ = _; have := HQ.out; omega
   have eg := goneQ_eq q
   have en : (q : Int) + 1 + 1 + 1 = ((q + 3 : Nat) : Int) := by omega
   go_wp2
   go_roundw
   case rel => exact ⟨k + 1, _, by omega, by go_num, by rw [← HN2.out]; go_num, W3, HA2, grown_trans HG.out G3.out⟩
   case measure => simp [intOf]; omega
  ·have hd : ¬ (k : Int) < (n : Int) := by omega
   have e : k = n := by omega
   have HE : Hid (GOwn encW 181 wr base (.slice a n c) (mkW k0 n)) := gown_ext (mkW_len _ _) HX.out (fun j hj => HA.out j (by have : encW.size = 3 := rfl; rw [this] at hj; omega))
   subst e
   go_wp2
   go_ret
   exact ⟨ret_int rfl, HE.out, HG.out⟩

set_option maxRecDepth 100000 in
set_option maxHeartbeats 4000000 in
theorem heldW (n k0 : Nat) (a : Option Addr) (c : Nat) (hn : n ≤ 100000000) (hk0 : 0 < k0) (hk1 : k0 ≤ 100000000000000000) (w : World) (h : GRow encW w a (mkW k0 n)) :
  Calls Tryz.prog 100 #[.slice a n c, .int .i64 k0] w fun e w' => e = .returned (.int .i64 ((k0 + 3 * n : Nat) : Int)) ∧ Below w.heap.size w w' := by
 have H : Hid (GRow encW w a (mkW k0 n)) := h
 clear h
 go_enter Tryz.func100, Tryz.ntmps100
 go_wp2
 go_loopw [1, 5] (fun tk t wr => ∃ k : Nat, k ≤ n ∧ t = .int .i64 k ∧ tk = .int .i64 ((k0 + 3 * k : Nat) : Int) ∧ Hid (Below w.heap.size w wr)) (fun _ t _ => n - (intOf t).toNat)
 case atStart => exact ⟨0, Nat.zero_le _, rfl, rfl, Below.refl _ _⟩
 case round =>
  obtain ⟨k, hk, rfl, rfl, HB⟩ := hrel
  by_cases hlt : k < n
  ·have hlt' : (k : Int) < (n : Int) := by omega
   have h0 : (0 : Int) ≤ (k : Int) := by omega
   obtain ⟨b, off, rfl, hgl, hc⟩ := (H.out.below HB.out) (by rw [mkW_len]; omega)
   have HC := hide (wat hc k (by rw [mkW_len]; exact hlt))
   rw [mkW_at k0 n k hlt] at HC
   clear hc
   obtain ⟨q, hq⟩ : ∃ q, q = k0 + 3 * k := ⟨_, rfl⟩
   have HQ : Hid (q = k0 + 3 * k) := hq
   rw [← hq] at HC ⊢
   have hq0 : 0 < q := by omega
   have hq1 : q ≤ 900000000000000000 := by omega
   clear hq
   have HN2 : Hid (((q + 3 : Nat) : Int) = ((k0 + 3 * (k + 1) : Nat) : Int)) := by show _ = _; have := HQ.out; omega
   have eq0 : IntKind.i64.wrap (q : Int) = (q : Int) := by rw [IntKind.wrap_i64]; omega
   go_wp2
   have r0 := HC.out.1
   have tn0 := bne_text (mkB q)
   refine wp_region_held_drew (S := fun w' => w'.cell? ⟨b, off + k * 3, none⟩ = some (.string (mkB q))) (by kernel_rfl) r0 (fun hHeld => ?_)
   (refine wpAnyH_take (i := 0) (v := ?_) rfl (by kernel_rfl) (by kernel_rfl) (by kernel_rfl) (fun _ _ _ h => h) (Or.inl ⟨by rfl, ?_⟩) (by assumption) ?_; rotate_left; (focus (intro w hSw; (try dsimp only at hSw); go_simp; (try with_reducible rfl); done)); simp only [Act.put, List.getElem_toArray, List.getElem_cons_zero, List.setIfInBounds_toArray, List.set_cons_zero, List.set_cons_succ])
   (refine wpAnyH_take (i := 1) (v := ?_) rfl (by kernel_rfl) (by kernel_rfl) (by kernel_rfl) (fun _ _ _ h => h) (Or.inl ⟨by rfl, ?_⟩) (by assumption) ?_; rotate_left; (focus (intro w hSw; (try dsimp only at hSw); go_simp; (try with_reducible rfl); done)); simp only [Act.put, List.getElem_toArray, List.getElem_cons_zero, List.getElem_cons_succ, List.setIfInBounds_toArray, List.set_cons_zero, List.set_cons_succ])
   (refine wpAnyH_take (i := 2) (v := ?_) rfl (by kernel_rfl) (by kernel_rfl) (by kernel_rfl) (fun _ _ _ h => h) (Or.inl ⟨by rfl, ?_⟩) (by assumption) ?_; rotate_left; (focus (intro w hSw; (try dsimp only at hSw); go_simp; (try with_reducible rfl); done)); simp only [Act.put, List.getElem_toArray, List.getElem_cons_zero, List.getElem_cons_succ, List.setIfInBounds_toArray, List.set_cons_zero, List.set_cons_succ])
   (refine wpAnyH_take (i := 3) (v := ?_) rfl (by kernel_rfl) (by kernel_rfl) (by kernel_rfl) (fun _ _ _ h => h) (Or.inl ⟨by rfl, ?_⟩) (by assumption) ?_; rotate_left; (focus (intro w hSw; (try dsimp only at hSw); go_simp; (try with_reducible rfl); done)); simp only [Act.put, List.getElem_toArray, List.getElem_cons_zero, List.getElem_cons_succ, List.setIfInBounds_toArray, List.set_cons_zero, List.set_cons_succ])
   (refine wpAnyH_take (i := 4) (v := ?_) rfl (by kernel_rfl) (by kernel_rfl) (by kernel_rfl) (fun _ _ _ h => h) (Or.inl ⟨by rfl, ?_⟩) (by assumption) ?_; rotate_left; (focus (intro w hSw; (try dsimp only at hSw); go_simp; (try with_reducible rfl); done)); simp only [Act.put, List.getElem_toArray, List.getElem_cons_zero, List.getElem_cons_succ, List.setIfInBounds_toArray, List.set_cons_zero, List.set_cons_succ])
   (refine wpAnyH_take (i := 5) (v := ?_) rfl (by kernel_rfl) (by kernel_rfl) (by kernel_rfl) (fun _ _ _ h => h) (Or.inl ⟨by rfl, ?_⟩) (by assumption) ?_; rotate_left; (focus (intro w hSw; (try dsimp only at hSw); go_simp; (try with_reducible rfl); done)); simp only [Act.put, List.getElem_toArray, List.getElem_cons_zero, List.getElem_cons_succ, List.setIfInBounds_toArray, List.set_cons_zero, List.set_cons_succ])
   refine wpAnyH_ready (rs := [6]) (by kernel_rfl) (by simp) ?_
   refine AllReadyH.cons rfl (fun K hK => ?_) AllReadyH.nil
   go_simp
   go_wp2_with fail
   refine (mark87 q (by omega) (by omega) _).mono ?_
   rintro e w1 ⟨rfl, hbm⟩
   have hbA1 : Below wr.heap.size wr w1 := undrew hbm
   clear hbm
   have s0 := (hbA1.cell (p := ⟨b, off + k * 3, none⟩) hgl).trans HC.out.1
   go_wp2_with fail
   refine hK.out _ _ s0 (fun hHeld2 => ?_)
   clear hK K
   (refine wpAnyH_take (i := 7) (v := ?_) rfl (by kernel_rfl) (by kernel_rfl) (by kernel_rfl) (fun _ _ _ h => h) (Or.inl ⟨by rfl, ?_⟩) (by assumption) ?_; rotate_left; (focus (intro w hSw; (try dsimp only at hSw); go_simp; (try with_reducible rfl); done)); simp only [Act.put, List.getElem_toArray, List.getElem_cons_zero, List.getElem_cons_succ, List.setIfInBounds_toArray, List.set_cons_zero, List.set_cons_succ])
   refine wpAnyH_done (by kernel_rfl) ?_ _
   go_wp2
   have r1 := (hbA1.cell (p := ⟨b, off + k * 3 + 1, none⟩) hgl).trans HC.out.2.1
   have E1 : Hid ((q : Int) + 1 = ((q + 1 : Nat) : Int)) := by show _ = _; omega
   have e1 : IntKind.i64.wrap ((q : Int) + 1) = (q : Int) + 1 := by rw [IntKind.wrap_i64]; omega
   have tn1 := bne_text (mkB (q + 1))
   refine wp_region_held_drew (S := fun w' => w'.cell? ⟨b, off + k * 3 + 1, none⟩ = some (.string (mkB (q + 1)))) (by kernel_rfl) r1 (fun hHeld => ?_)
   (refine wpAnyH_take (i := 0) (v := ?_) rfl (by kernel_rfl) (by kernel_rfl) (by kernel_rfl) (fun _ _ _ h => h) (Or.inl ⟨by rfl, ?_⟩) (by assumption) ?_; rotate_left; (focus (intro w hSw; (try dsimp only at hSw); go_simp; (try with_reducible rfl); done)); simp only [Act.put, List.getElem_toArray, List.getElem_cons_zero, List.setIfInBounds_toArray, List.set_cons_zero, List.set_cons_succ])
   (refine wpAnyH_take (i := 1) (v := ?_) rfl (by kernel_rfl) (by kernel_rfl) (by kernel_rfl) (fun _ _ _ h => h) (Or.inl ⟨by rfl, ?_⟩) (by assumption) ?_; rotate_left; (focus (intro w hSw; (try dsimp only at hSw); go_simp; (try with_reducible rfl); done)); simp only [Act.put, List.getElem_toArray, List.getElem_cons_zero, List.getElem_cons_succ, List.setIfInBounds_toArray, List.set_cons_zero, List.set_cons_succ])
   (refine wpAnyH_take (i := 2) (v := ?_) rfl (by kernel_rfl) (by kernel_rfl) (by kernel_rfl) (fun _ _ _ h => h) (Or.inl ⟨by rfl, ?_⟩) (by assumption) ?_; rotate_left; (focus (intro w hSw; (try dsimp only at hSw); go_simp; (try with_reducible rfl); done)); simp only [Act.put, List.getElem_toArray, List.getElem_cons_zero, List.getElem_cons_succ, List.setIfInBounds_toArray, List.set_cons_zero, List.set_cons_succ])
   (refine wpAnyH_take (i := 3) (v := ?_) rfl (by kernel_rfl) (by kernel_rfl) (by kernel_rfl) (fun _ _ _ h => h) (Or.inl ⟨by rfl, ?_⟩) (by assumption) ?_; rotate_left; (focus (intro w hSw; (try dsimp only at hSw); go_simp; (try with_reducible rfl); done)); simp only [Act.put, List.getElem_toArray, List.getElem_cons_zero, List.getElem_cons_succ, List.setIfInBounds_toArray, List.set_cons_zero, List.set_cons_succ])
   (refine wpAnyH_take (i := 4) (v := ?_) rfl (by kernel_rfl) (by kernel_rfl) (by kernel_rfl) (fun _ _ _ h => h) (Or.inl ⟨by rfl, ?_⟩) (by assumption) ?_; rotate_left; (focus (intro w hSw; (try dsimp only at hSw); go_simp; (try with_reducible rfl); done)); simp only [Act.put, List.getElem_toArray, List.getElem_cons_zero, List.getElem_cons_succ, List.setIfInBounds_toArray, List.set_cons_zero, List.set_cons_succ])
   (refine wpAnyH_take (i := 5) (v := ?_) rfl (by kernel_rfl) (by kernel_rfl) (by kernel_rfl) (fun _ _ _ h => h) (Or.inl ⟨by rfl, ?_⟩) (by assumption) ?_; rotate_left; (focus (intro w hSw; (try dsimp only at hSw); go_simp; (try with_reducible rfl); done)); simp only [Act.put, List.getElem_toArray, List.getElem_cons_zero, List.getElem_cons_succ, List.setIfInBounds_toArray, List.set_cons_zero, List.set_cons_succ])
   refine wpAnyH_ready (rs := [6]) (by kernel_rfl) (by simp) ?_
   refine AllReadyH.cons rfl (fun K hK => ?_) AllReadyH.nil
   go_simp
   go_wp2_with fail
   rw [E1.out]
   refine (mark87 (q + 1) (by omega) (by omega) _).mono ?_
   rintro e w2 ⟨rfl, hbm⟩
   have hbA2 : Below wr.heap.size wr w2 := hbA1.trans ((undrew hbm).mono hbA1.size)
   clear hbm
   have s1 := (hbA2.cell (p := ⟨b, off + k * 3 + 1, none⟩) hgl).trans HC.out.2.1
   go_wp2_with fail
   refine hK.out _ _ s1 (fun hHeld2 => ?_)
   clear hK K
   (refine wpAnyH_take (i := 7) (v := ?_) rfl (by kernel_rfl) (by kernel_rfl) (by kernel_rfl) (fun _ _ _ h => h) (Or.inl ⟨by rfl, ?_⟩) (by assumption) ?_; rotate_left; (focus (intro w hSw; (try dsimp only at hSw); go_simp; (try with_reducible rfl); done)); simp only [Act.put, List.getElem_toArray, List.getElem_cons_zero, List.getElem_cons_succ, List.setIfInBounds_toArray, List.set_cons_zero, List.set_cons_succ])
   refine wpAnyH_done (by kernel_rfl) ?_ _
   have r2 := (hbA2.cell (p := ⟨b, off + k * 3 + 2, none⟩) hgl).trans HC.out.2.2
   have eg := goneQ_eq q
   have ebn := bne_self' (goneQ q)
   go_wp2
   go_roundw
   case rel => exact ⟨k + 1, by omega, by go_num, by rw [← HN2.out]; go_num, HB.out.trans (hbA2.mono HB.out.size)⟩
   case measure => simp [intOf]; omega
  ·have hd : ¬ (k : Int) < (n : Int) := by omega
   go_wp2
   go_ret
   refine ⟨?_, HB.out⟩
   rw [show k = n by omega]
   rfl
end Go.Proofs.YtpnnncfbodfnhaaGreat

namespace Go.Proofs.YtpnnncfbodfnhaaGreat
open Go.RowKit
open KM
attribute [local go_sem ↓] Go.wp_at_zero Go.wp_at_succ

structure Zn (lo hi : Nat) (w w' : World) : Prop where
 os : w'.os = w.os
 tape : w'.tape = w.tape
 output : w'.output = w.output
 size : w.heap.size ≤ w'.heap.size
 block : ∀ j, j < w.heap.size → (j < lo ∨ hi ≤ j) → w'.heap[j]? = w.heap[j]?
theorem Zn.trans {lo hi : Nat} {a b c : World} (h : Zn lo hi a b) (k : Zn lo hi b c) : Zn lo hi a c :=
 ⟨k.os.trans h.os, k.tape.trans h.tape, k.output.trans h.output, Nat.le_trans h.size k.size, fun j hj hn => (k.block j (Nat.lt_of_lt_of_le hj h.size) hn).trans (h.block j hj hn)⟩
theorem Zn.ofBelow (lo hi : Nat) {w w' : World} (h : Below w.heap.size w w') : Zn lo hi w w' := ⟨h.os, h.tape, h.output, h.size, fun j hj _ => h.block j hj⟩
theorem Zn.ofGrown {lo hi : Nat} {w w' : World} {row : Option Nat} (h : w.grownBy w' row) (hr : ∀ g, row = some g → lo ≤ g ∧ g < hi) : Zn lo hi w w' :=
 ⟨h.os, h.tape, h.output, h.size, fun j hj hn => h.block j hj (fun e => by have := hr j e.symm; omega)⟩
theorem Zn.below {lo hi base : Nat} {w w' : World} (h : Zn lo hi w w') (hb : base ≤ lo) (hs : base ≤ w.heap.size) : Below base w w' :=
 ⟨h.os, h.tape, h.output, h.size, fun j hj => h.block j (by omega) (Or.inl (by omega))⟩
theorem Bx.zn {lo hi b : Nat} {w w' : World} {cs : List Value} (h : Bx w b cs) (hg : Zn lo hi w w') (hne : b < lo ∨ hi ≤ b) : Bx w' b cs := by
 have hb := hg.block b h.lt hne
 refine ⟨Nat.lt_of_lt_of_le h.lt hg.size, fun j hj => (World.cell?_of_block (w := w) (a := ⟨b, j, none⟩) hb).trans (h.at' j hj), fun j => ?_⟩
 have := h.fz j
 unfold World.frozen? at this ⊢
 simp only at this ⊢
 rw [hb]; exact this
theorem Lies.zn {α : Type} {E : Enc α} {e : TypeId} {w w' : World} {l h' lo hi : Nat} {v : Value} {xs : List α} (h : Lies E e w l h' v xs) (hz : Zn lo hi w w') (hne : h' ≤ lo ∨ hi ≤ l) : Lies E e w' l h' v xs := by
 refine ⟨?_, h.up⟩
 obtain ⟨h1, h2⟩ := h.own
 refine ⟨h1, ?_⟩
 rcases h2 with h2 | ⟨g, cap, cur, hv, hg', hh, r⟩
 ·exact Or.inl h2
 ·refine Or.inr ⟨g, cap, cur, hv, hg', ?_, r⟩
  have hlt : g < w.heap.size := (Array.getElem?_eq_some_iff.1 hh).1
  have hup := h.up g (by rw [hv]; rfl)
  rw [hz.block g hlt (by omega)]
  exact hh
theorem TLie.zn {w w' : World} {l h' lo hi : Nat} {t : Tx} {ra wa : Option Addr} {rc wc : Nat} (h : TLie w l h' t ra rc wa wc) (hz : Zn lo hi w w') (hne : h' ≤ lo ∨ hi ≤ l) : TLie w' l h' t ra rc wa wc := by
 obtain ⟨m, p, q, h1, h2⟩ := h.ex
 exact ⟨m, p, q, h1.zn hz (by omega), h2.zn hz (by omega)⟩
end Go.Proofs.YtpnnncfbodfnhaaGreat

namespace Go.Proofs.YtpnnncfbodfnhaaGreat
open Go.RowKit
open KM
attribute [local go_sem ↓] Go.wp_at_zero Go.wp_at_succ

def Av (v : Value) (p q : Nat) : Prop := ∀ g, v.ownBlock = some g → g < p ∨ q ≤ g
def Zs (w : World) (v : Value) : Nat → Nat → List Ta → Prop
 | lo, hi, [] => lo ≤ hi
 | lo, hi, y :: ys => ∃ p q, lo ≤ p ∧ p ≤ q ∧ TLie w p q y.t y.ra y.rc y.wa y.wc ∧ Av v p q ∧ Zs w v q hi ys
theorem Zs.le {w : World} {v : Value} : ∀ {ys : List Ta} {lo hi : Nat}, Zs w v lo hi ys → lo ≤ hi
 | [], _, _, h => h
 | _ :: _, _, _, ⟨_, _, h1, h2, _, _, h5⟩ => Nat.le_trans (Nat.le_trans h1 h2) h5.le
theorem Zs.below {w w' : World} {v : Value} (hb : Below w.heap.size w w') : ∀ {ys : List Ta} {lo hi : Nat}, Zs w v lo hi ys → Zs w' v lo hi ys
 | [], _, _, h => h
 | _ :: _, _, _, ⟨p, q, h1, h2, h3, h4, h5⟩ => ⟨p, q, h1, h2, h3.below hb, h4, h5.below hb⟩
theorem Zs.set {w : World} {v : Value} {a : Addr} (u : Value) : ∀ {ys : List Ta} {lo hi : Nat}, Zs w v lo hi ys → a.block < lo → Zs (w.setCell a u) v lo hi ys
 | [], _, _, h, _ => h
 | _ :: _, _, _, ⟨p, q, h1, h2, h3, h4, h5⟩, ha => ⟨p, q, h1, h2, h3.set (Nat.lt_of_lt_of_le ha h1) u, h4, h5.set u (by omega)⟩
theorem Zs.mono {w : World} {v : Value} : ∀ {ys : List Ta} {lo hi lo' hi' : Nat}, Zs w v lo hi ys → lo' ≤ lo → hi ≤ hi' → Zs w v lo' hi' ys
 | [], _, _, _, _, h, h1, h2 => Nat.le_trans h1 (Nat.le_trans h h2)
 | _ :: _, _, _, _, _, ⟨p, q, h1, h2, h3, h4, h5⟩, k1, k2 => ⟨p, q, Nat.le_trans k1 h1, h2, h3, h4, h5.mono (Nat.le_refl _) k2⟩
theorem Zs.snoc {w : World} {v : Value} {p q m hi : Nat} {y : Ta} (hm : m ≤ p) (hpq : p ≤ q) (hq : q ≤ hi) (hl : TLie w p q y.t y.ra y.rc y.wa y.wc) (ha : Av v p q) : ∀ {ys : List Ta} {lo : Nat}, Zs w v lo m ys → Zs w v lo hi (ys ++ [y])
 | [], _, h => ⟨p, q, Nat.le_trans h hm, hpq, hl, ha, hq⟩
 | _ :: _, _, ⟨p', q', h1, h2, h3, h4, h5⟩ => ⟨p', q', h1, h2, h3, h4, h5.snoc hm hpq hq hl ha⟩
theorem Zs.each {w : World} {v : Value} : ∀ {ys : List Ta} {lo hi : Nat}, Zs w v lo hi ys → ∀ y ∈ ys, TRow w y.t y.ra y.wa
 | [], _, _, _, _, hy => by cases hy
 | _ :: _, _, _, ⟨_, _, _, _, h3, _, h5⟩, y, hy => by
  rcases List.mem_cons.1 hy with rfl | hy
  ·exact h3.row
  ·exact h5.each y hy
theorem Zs.zn {w w' : World} {v : Value} {l h : Nat} (hz : Zn l h w w') : ∀ {ys : List Ta} {lo hi : Nat}, Zs w v lo hi ys → (hi ≤ l ∨ h ≤ lo) → Zs w' v lo hi ys
 | [], _, _, k, _ => k
 | _ :: _, lo, hi, ⟨p, q, h1, h2, h3, h4, h5⟩, k => ⟨p, q, h1, h2, h3.zn hz (by have := h5.le; omega), h4, h5.zn hz (by omega)⟩
theorem Zs.av {w : World} {v v' : Value} : ∀ {ys : List Ta} {lo hi : Nat}, Zs w v lo hi ys → (∀ p q, lo ≤ p → q ≤ hi → Av v p q → Av v' p q) → Zs w v' lo hi ys
 | [], _, _, h, _ => h
 | _ :: _, _, _, ⟨p, q, h1, h2, h3, h4, h5⟩, k => ⟨p, q, h1, h2, h3, k p q h1 h5.le h4, h5.av (fun a b ha hb => k a b (by omega) hb)⟩
theorem Zs.filter {w : World} {v : Value} (f : Ta → Bool) : ∀ {ys : List Ta} {lo hi : Nat}, Zs w v lo hi ys → Zs w v lo hi (ys.filter f)
 | [], _, _, h => h
 | y :: ys, _, _, ⟨p, q, h1, h2, h3, h4, h5⟩ => by
  rw [List.filter_cons]
  split
  ·exact ⟨p, q, h1, h2, h3, h4, h5.filter f⟩
  ·exact (h5.filter f).mono (by omega) (Nat.le_refl _)
structure LLie (w : World) (lo hi : Nat) (v : Value) (ys : List Ta) : Prop where
 own : Lies encT 37 w lo hi v ys
 zs : Zs w v lo hi ys
theorem LLie.below {w w' : World} {lo hi : Nat} {v : Value} {ys : List Ta} (h : LLie w lo hi v ys) (hb : Below w.heap.size w w') : LLie w' lo hi v ys := ⟨h.own.below hb, h.zs.below hb⟩
theorem LLie.mono {w : World} {lo hi lo' hi' : Nat} {v : Value} {ys : List Ta} (h : LLie w lo hi v ys) (h1 : lo' ≤ lo) (h2 : hi ≤ hi') : LLie w lo' hi' v ys := ⟨h.own.mono h1 h2, h.zs.mono h1 h2⟩
theorem LLie.zn {w w' : World} {lo hi l h : Nat} {v : Value} {ys : List Ta} (k : LLie w lo hi v ys) (hz : Zn l h w w') (hne : hi ≤ l ∨ h ≤ lo) : LLie w' lo hi v ys := ⟨k.own.zn hz hne, k.zs.zn hz hne⟩
theorem LLie.set {w : World} {lo hi : Nat} {v : Value} {ys : List Ta} (h : LLie w lo hi v ys) {a : Addr} (ha : a.block < lo) (u : Value) : LLie (w.setCell a u) lo hi v ys := ⟨h.own.set ha u, h.zs.set u ha⟩
theorem LLie.rows {w : World} {lo hi c : Nat} {a : Option Addr} {ys : List Ta} (h : LLie w lo hi (.slice a ys.length c) ys) : TRows w a ys := ⟨h.own.own.grow, h.zs.each⟩

end Go.Proofs.YtpnnncfbodfnhaaGreat

namespace Go.Proofs.YtpnnncfbodfnhaaGreat
open Go.RowKit
open KM
attribute [local go_sem ↓] Go.wp_at_zero Go.wp_at_succ

structure BLie (w : World) (lo hi : Nat) (c : Bb) : Prop where
 ex : ∃ m1 m2, lo ≤ m1 ∧ m1 ≤ m2 ∧ m2 ≤ hi ∧ Lies encV 76 w lo m1 (.slice c.va c.vs.length c.vc) c.vs ∧ LLie w m1 m2 (.slice c.pa c.ps.length c.pc) c.ps ∧ LLie w m2 hi (.slice c.qa c.qs.length c.qc) c.qs
theorem BLie.rows {w : World} {lo hi : Nat} {c : Bb} (h : BLie w lo hi c) : BRows w c := by
 obtain ⟨m1, m2, _, _, _, h1, h2, h3⟩ := h.ex
 exact ⟨h1.own.grow, h2.rows, h3.rows⟩
theorem BLie.below {w w' : World} {lo hi : Nat} {c : Bb} (h : BLie w lo hi c) (hb : Below w.heap.size w w') : BLie w' lo hi c := by
 obtain ⟨m1, m2, a, b, d, h1, h2, h3⟩ := h.ex
 exact ⟨m1, m2, a, b, d, h1.below hb, h2.below hb, h3.below hb⟩
theorem BLie.set {w : World} {lo hi : Nat} {c : Bb} (h : BLie w lo hi c) {a : Addr} (ha : a.block < lo) (u : Value) : BLie (w.setCell a u) lo hi c := by
 obtain ⟨m1, m2, k1, k2, k3, h1, h2, h3⟩ := h.ex
 exact ⟨m1, m2, k1, k2, k3, h1.set ha u, h2.set (by omega) u, h3.set (by omega) u⟩
theorem BLie.mono {w : World} {lo hi lo' hi' : Nat} {c : Bb} (h : BLie w lo hi c) (k : lo' ≤ lo) (k' : hi ≤ hi') : BLie w lo' hi' c := by
 obtain ⟨m1, m2, k1, k2, k3, h1, h2, h3⟩ := h.ex
 exact ⟨m1, m2, by omega, k2, by omega, h1.mono k (Nat.le_refl _), h2, h3.mono (Nat.le_refl _) k'⟩
theorem BLie.zn {w w' : World} {lo hi l h : Nat} {c : Bb} (k : BLie w lo hi c) (hz : Zn l h w w') (hne : hi ≤ l ∨ h ≤ lo) : BLie w' lo hi c := by
 obtain ⟨m1, m2, k1, k2, k3, h1, h2, h3⟩ := k.ex
 exact ⟨m1, m2, k1, k2, k3, h1.zn hz (by omega), h2.zn hz (by omega), h3.zn hz (by omega)⟩

end Go.Proofs.YtpnnncfbodfnhaaGreat

namespace Go.Proofs.YtpnnncfbodfnhaaGreat
open Go.RowKit
open KM
attribute [local go_sem ↓] Go.wp_at_zero Go.wp_at_succ

structure TxD (t : Tx) : Prop where
 ws : WsD t.ws
 wl : t.ws.length ≤ 3
 rs : RsD t.rs
 rl : t.rs.length ≤ 3
 nm : t.nm.size ≤ 1048576
 id : 1 ≤ t.id ∧ t.id ≤ 6

end Go.Proofs.YtpnnncfbodfnhaaGreat

namespace Go.Proofs.YtpnnncfbodfnhaaGreat
open Go.RowKit
open KM
attribute [local go_sem ↓] Go.wp_at_zero Go.wp_at_succ

theorem Lies.low {α : Type} {E : Enc α} {e : TypeId} {w w' : World} {lo hi B : Nat} {v : Value} {xs : List α} (h : Lies E e w lo hi v xs) (hb : Below B w w') (hB : hi ≤ B := by first | exact Nat.le_refl _ | omega) : Lies E e w' lo hi v xs := by
 refine ⟨?_, h.up⟩
 obtain ⟨h1, h2⟩ := h.own
 refine ⟨h1, ?_⟩
 rcases h2 with h2 | ⟨g, cap, cur, hv, hg', hh, r⟩
 ·exact Or.inl h2
 ·refine Or.inr ⟨g, cap, cur, hv, hg', ?_, r⟩
  have hup := h.up g (by rw [hv]; rfl)
  rw [hb.block g (by omega)]
  exact hh
end Go.Proofs.YtpnnncfbodfnhaaGreat
