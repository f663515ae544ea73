/- How versions are compared, and which are right. -/
import Derived.Test.YtjeicgibddfifaaGreatPa03
import Derived.Deep.RegionHeld
namespace Go.Proofs.YtjeicgibddfifaaGreat
open Go.RowKit
open KM
attribute [local go_sem ↓] Go.wp_at_zero Go.wp_at_succ

theorem undrew {w w' : World} (h : Below w.drew.heap.size w.drew w') : Below w.heap.size w w' := (belowRefl w).drew.trans h
theorem ret_int {a b : Int} (h : a = b) : Ending.returned (.int .i64 a) = .returned (.int .i64 b) := by rw [h]
def orI (x y : Int) : Int := if x = 0 then y else x

set_option maxRecDepth 100000 in
set_option maxHeartbeats 1000000 in
theorem or84 (x y : Int) (g : Nat) (w : World) (h0 : w.cell? ⟨g, 0, none⟩ = some (.int .i64 x)) (h1 : w.cell? ⟨g, 1, none⟩ = some (.int .i64 y)) :
  Calls Tryz.prog 130 #[.slice (some ⟨g, 0, none⟩) 2 2] w fun e w' => e = .returned (.int .i64 (orI x y)) ∧ w' = w := by
 by_cases hx : x = 0
 ·subst hx
  have HE : Hid (orI 0 y = y) := by show _ = _; unfold orI; rw [if_pos rfl]
  go_enter Tryz.func130, Tryz.ntmps130
  go_wp2
  go_loop [8] (fun t => ∃ k : Nat, k ≤ 2 ∧ t = .int .i64 k ∧ Hid (k = 2 → y = 0)) (fun t => 2 - (intOf t).toNat)
  case atStart => exact ⟨0, by omega, rfl, fun h => by omega⟩
  case round =>
   obtain ⟨k, hk, rfl, HY⟩ := hrel
   by_cases hk0 : k = 0
   ·subst hk0
    go_wp2
    go_round
    case rel => exact ⟨1, by omega, by go_num, fun h => by omega⟩
    case measure => simp [intOf]
   by_cases hk1 : k = 1
   ·subst hk1
    by_cases hy : y = 0
    ·subst hy
     go_wp2
     go_round
     case rel => exact ⟨2, by omega, by go_num, fun h => trivial⟩
     case measure => simp [intOf]
    ·have hy' : (y != 0) = true := by simpa using hy
     clear hy
     go_wp2
     go_ret
     exact ⟨ret_int HE.out.symm, rfl⟩
   ·have hk2 : k = 2 := by omega
    have HF : Hid (0 = orI 0 y) := by show _ = _; rw [HE.out, HY.out hk2]
    subst hk2
    clear hk0 hk1
    go_wp2
    go_ret
    exact ⟨ret_int HF.out, rfl⟩
 ·have HE : Hid (orI x y = x) := by show _ = _; unfold orI; rw [if_neg hx]
  have hx' : (x != 0) = true := by simpa using hx
  clear hx
  go_enter Tryz.func130, Tryz.ntmps130
  go_wp2
  go_loop [8] (fun t => t = .int .i64 0) (fun t => 2 - (intOf t).toNat)
  case atStart => rfl
  case round =>
   subst hrel
   go_wp2
   go_ret
   exact ⟨ret_int HE.out.symm, rfl⟩

def cmpV (a b : Vr) : Int := orI (Lib.compareBytes a.1.data.toList b.1.data.toList) (Lib.compareInt a.2.2.2 b.2.2.2)

set_option maxRecDepth 100000 in
set_option maxHeartbeats 1000000 in
theorem cmp55 (a b : Vr) (w : World) :
  Calls Tryz.prog 97 #[.agg #[.string a.1, .string a.2.1, .bool a.2.2.1, .int .i64 a.2.2.2], .agg #[.string b.1, .string b.2.1, .bool b.2.2.1, .int .i64 b.2.2.2]] w fun e w' => e = .returned (.int .i64 (cmpV a b)) ∧ Below w.heap.size w w' := by
 have A0 : Hid (Box ((w.alloc (.cells #[.string a.1, .string a.2.1, .bool a.2.2.1, .int .i64 a.2.2.2] 85)).alloc (.cells #[.string b.1, .string b.2.1, .bool b.2.2.1, .int .i64 b.2.2.2] 85)) w.heap.size [.string a.1, .string a.2.1, .bool a.2.2.1, .int .i64 a.2.2.2]) := (Box.new w _ 85).below ((belowRefl _).alloc (Nat.le_refl _) _)
 have B0 : Hid (Box ((w.alloc (.cells #[.string a.1, .string a.2.1, .bool a.2.2.1, .int .i64 a.2.2.2] 85)).alloc (.cells #[.string b.1, .string b.2.1, .bool b.2.2.1, .int .i64 b.2.2.2] 85)) (w.heap.size + 1) [.string b.1, .string b.2.1, .bool b.2.2.1, .int .i64 b.2.2.2]) := by
  have h := Box.new (w.alloc (.cells #[.string a.1, .string a.2.1, .bool a.2.2.1, .int .i64 a.2.2.2] 85)) [.string b.1, .string b.2.1, .bool b.2.2.1, .int .i64 b.2.2.2] 85
  rw [World.size_alloc] at h
  exact h
 have HB0 : Hid (Below w.heap.size w ((w.alloc (.cells #[.string a.1, .string a.2.1, .bool a.2.2.1, .int .i64 a.2.2.2] 85)).alloc (.cells #[.string b.1, .string b.2.1, .bool b.2.2.1, .int .i64 b.2.2.2] 85))) := ((belowRefl w).alloc (Nat.le_refl _) _).alloc (by simp) _
 have HC : Hid (cmpV a b = orI (Lib.compareBytes a.1.data.toList b.1.data.toList) (Lib.compareInt a.2.2.2 b.2.2.2)) := rfl
 have C1 : Hid (∀ w, Calls Tryz.prog 131 #[.string a.1, .string b.1] w fun e w' => e = .returned (.int .i64 (Lib.compareBytes a.1.data.toList b.1.data.toList)) ∧ w' = w) := fun w => Tryz.strings_Compare a.1 b.1 w
 have C2 : Hid (∀ w, Calls Tryz.prog 132 #[.int .i64 a.2.2.2, .int .i64 b.2.2.2] w fun e w' => e = .returned (.int .i64 (Lib.compareInt a.2.2.2 b.2.2.2)) ∧ w' = w) := fun w => Tryz.cmp_Compare_int a.2.2.2 b.2.2.2 w
 generalize Lib.compareBytes a.1.data.toList b.1.data.toList = x at *
 generalize Lib.compareInt a.2.2.2 b.2.2.2 = y at *
 go_enter Tryz.func97, Tryz.ntmps97
 go_wp2
 generalize ((w.alloc (.cells #[.string a.1, .string a.2.1, .bool a.2.2.1, .int .i64 a.2.2.2] 85)).alloc (.cells #[.string b.1, .string b.2.1, .bool b.2.2.1, .int .i64 b.2.2.2] 85)) = W at *
 refine wp_region_held_drew (S := fun w' => w'.cell? ⟨w.heap.size, 0, none⟩ = some (.string a.1) ∧ w'.cell? ⟨w.heap.size, 3, none⟩ = some (.int .i64 a.2.2.2) ∧ w'.cell? ⟨w.heap.size + 1, 0, none⟩ = some (.string b.1) ∧ w'.cell? ⟨w.heap.size + 1, 3, none⟩ = some (.int .i64 b.2.2.2)) (by kernel_rfl) ⟨A0.out.c0, A0.out.c3, B0.out.c0, B0.out.c3⟩ (fun hHeld => ?_)
 (refine wpAnyH_take (i := 0) (v := ?_) rfl (by kernel_rfl) (by kernel_rfl) (by kernel_rfl) (fun _ _ _ h => h) (Or.inl ⟨by rfl, ?_⟩) (by assumption) ?_; rotate_left; (focus (intro w hSw; (try dsimp only at hSw); go_simp; (try with_reducible rfl); done)); simp only [Act.put, List.getElem_toArray, List.getElem_cons_zero, List.setIfInBounds_toArray, List.set_cons_zero, List.set_cons_succ])
 (refine wpAnyH_take (i := 1) (v := ?_) rfl (by kernel_rfl) (by kernel_rfl) (by kernel_rfl) (fun _ _ _ h => h) (Or.inl ⟨by rfl, ?_⟩) (by assumption) ?_; rotate_left; (focus (intro w hSw; (try dsimp only at hSw); go_simp; (try with_reducible rfl); done)); simp only [Act.put, List.getElem_toArray, List.getElem_cons_zero, List.getElem_cons_succ, List.setIfInBounds_toArray, List.set_cons_zero, List.set_cons_succ])
 (refine wpAnyH_take (i := 2) (v := ?_) rfl (by kernel_rfl) (by kernel_rfl) (by kernel_rfl) (fun _ _ _ h => h) (Or.inl ⟨by rfl, ?_⟩) (by assumption) ?_; rotate_left; (focus (intro w hSw; (try dsimp only at hSw); go_simp; (try with_reducible rfl); done)); simp only [Act.put, List.getElem_toArray, List.getElem_cons_zero, List.getElem_cons_succ, List.setIfInBounds_toArray, List.set_cons_zero, List.set_cons_succ])
 (refine wpAnyH_take (i := 3) (v := ?_) rfl (by kernel_rfl) (by kernel_rfl) (by kernel_rfl) (fun _ _ _ h => h) (Or.inl ⟨by rfl, ?_⟩) (by assumption) ?_; rotate_left; (focus (intro w hSw; (try dsimp only at hSw); go_simp; (try with_reducible rfl); done)); simp only [Act.put, List.getElem_toArray, List.getElem_cons_zero, List.getElem_cons_succ, List.setIfInBounds_toArray, List.set_cons_zero, List.set_cons_succ])
 (refine wpAnyH_take (i := 5) (v := ?_) rfl (by kernel_rfl) (by kernel_rfl) (by kernel_rfl) (fun _ _ _ h => h) (Or.inl ⟨by rfl, ?_⟩) (by assumption) ?_; rotate_left; (focus (intro w hSw; (try dsimp only at hSw); go_simp; (try with_reducible rfl); done)); simp only [Act.put, List.getElem_toArray, List.getElem_cons_zero, List.getElem_cons_succ, List.setIfInBounds_toArray, List.set_cons_zero, List.set_cons_succ])
 (refine wpAnyH_take (i := 6) (v := ?_) rfl (by kernel_rfl) (by kernel_rfl) (by kernel_rfl) (fun _ _ _ h => h) (Or.inl ⟨by rfl, ?_⟩) (by assumption) ?_; rotate_left; (focus (intro w hSw; (try dsimp only at hSw); go_simp; (try with_reducible rfl); done)); simp only [Act.put, List.getElem_toArray, List.getElem_cons_zero, List.getElem_cons_succ, List.setIfInBounds_toArray, List.set_cons_zero, List.set_cons_succ])
 (refine wpAnyH_take (i := 7) (v := ?_) rfl (by kernel_rfl) (by kernel_rfl) (by kernel_rfl) (fun _ _ _ h => h) (Or.inl ⟨by rfl, ?_⟩) (by assumption) ?_; rotate_left; (focus (intro w hSw; (try dsimp only at hSw); go_simp; (try with_reducible rfl); done)); simp only [Act.put, List.getElem_toArray, List.getElem_cons_zero, List.getElem_cons_succ, List.setIfInBounds_toArray, List.set_cons_zero, List.set_cons_succ])
 (refine wpAnyH_take (i := 8) (v := ?_) rfl (by kernel_rfl) (by kernel_rfl) (by kernel_rfl) (fun _ _ _ h => h) (Or.inl ⟨by rfl, ?_⟩) (by assumption) ?_; rotate_left; (focus (intro w hSw; (try dsimp only at hSw); go_simp; (try with_reducible rfl); done)); simp only [Act.put, List.getElem_toArray, List.getElem_cons_zero, List.getElem_cons_succ, List.setIfInBounds_toArray, List.set_cons_zero, List.set_cons_succ])
 refine wpAnyH_ready (rs := [4]) (by kernel_rfl) (by simp) ?_
 refine AllReadyH.cons rfl (fun K hK => ?_) AllReadyH.nil
 go_simp
 go_wp2_with (go_at_call 131; refine (C1.out _).mono ?_; rintro e w2 ⟨rfl, rfl⟩)
 refine hK.out _ _ ⟨A0.out.c0, A0.out.c3, B0.out.c0, B0.out.c3⟩ (fun hHeld2 => ?_)
 clear hK K
 refine wpAnyH_ready (rs := [9]) (by kernel_rfl) (by simp) ?_
 refine AllReadyH.cons rfl (fun K hK => ?_) AllReadyH.nil
 go_simp
 go_wp2_with (go_at_call 132; refine (C2.out _).mono ?_; rintro e w2 ⟨rfl, rfl⟩)
 refine hK.out _ _ ⟨A0.out.c0, A0.out.c3, B0.out.c0, B0.out.c3⟩ (fun hHeld3 => ?_)
 clear hK K
 refine wpAnyH_ready (rs := [10]) (by kernel_rfl) (by simp) ?_
 refine AllReadyH.cons rfl (fun K hK => ?_) AllReadyH.nil
 go_simp
 have A1 : Hid (Box (W.drew.alloc (.cells #[.int .i64 x, .int .i64 y] 3)) w.heap.size [.string a.1, .string a.2.1, .bool a.2.2.1, .int .i64 a.2.2.2]) := A0.out.below (((belowRefl W).drew).alloc (Nat.le_refl _) _)
 have B1 : Hid (Box (W.drew.alloc (.cells #[.int .i64 x, .int .i64 y] 3)) (w.heap.size + 1) [.string b.1, .string b.2.1, .bool b.2.2.1, .int .i64 b.2.2.2]) := B0.out.below (((belowRefl W).drew).alloc (Nat.le_refl _) _)
 have G1 : Hid (Box (W.drew.alloc (.cells #[.int .i64 x, .int .i64 y] 3)) W.heap.size [.int .i64 x, .int .i64 y]) := Box.new W.drew _ 3
 have HB1 : Hid (Below w.heap.size w (W.drew.alloc (.cells #[.int .i64 x, .int .i64 y] 3))) := HB0.out.drew.alloc HB0.out.size _
 go_wp2_with fail
 refine hK.out _ _ ⟨A1.out.c0, A1.out.c3, B1.out.c0, B1.out.c3⟩ (fun hHeld4 => ?_)
 clear hK K
 refine wpAnyH_ready (rs := [11]) (by kernel_rfl) (by simp) ?_
 refine AllReadyH.cons rfl (fun K hK => ?_) AllReadyH.nil
 go_simp
 go_wp2_with (go_at_call 130; refine (or84 x y _ _ G1.out.c0 G1.out.c1).mono ?_; rintro e w2 ⟨rfl, rfl⟩)
 refine hK.out _ _ ⟨A1.out.c0, A1.out.c3, B1.out.c0, B1.out.c3⟩ (fun hHeld5 => ?_)
 clear hK K
 (refine wpAnyH_take (i := 12) (v := ?_) rfl (by kernel_rfl) (by kernel_rfl) (by kernel_rfl) (fun _ _ _ h => h) (Or.inl ⟨by rfl, ?_⟩) (by assumption) ?_; rotate_left; (focus (intro w hSw; (try dsimp only at hSw); go_simp; (try with_reducible rfl); done)); simp only [Act.put, List.getElem_toArray, List.getElem_cons_zero, List.getElem_cons_succ, List.setIfInBounds_toArray, List.set_cons_zero, List.set_cons_succ])
 refine wpAnyH_done (by kernel_rfl) ?_ _
 go_wp2
 go_ret
 exact ⟨ret_int HC.out.symm, HB1.out⟩
end Go.Proofs.YtjeicgibddfifaaGreat
