/- How versions are compared, and which are right. -/
import Derived.Test.YtjeicgibddfifaaGreatPb01
import Derived.Test.YtjeicgibddfifaaGreatPb03
import Derived.Deep.RegionHeld
namespace Go.Proofs.YtjeicgibddfifaaGreat
open Go.RowKit
open KM
attribute [local go_sem ↓] Go.wp_at_zero Go.wp_at_succ

theorem undrew {w w' : World} (h : Below w.drew.heap.size w.drew w') : Below w.heap.size w w' := (belowRefl w).drew.trans h
theorem ret_int {a b : Int} (h : a = b) : Ending.returned (.int .i64 a) = .returned (.int .i64 b) := by rw [h]
def orI (x y : Int) : Int := if x = 0 then y else x

set_option maxRecDepth 100000 in
set_option maxHeartbeats 1000000 in
theorem or84 (x y : Int) (g : Nat) (w : World) (h0 : w.cell? ⟨g, 0, none⟩ = some (.int .i64 x)) (h1 : w.cell? ⟨g, 1, none⟩ = some (.int .i64 y)) :
  Calls Tryz.prog 130 #[.slice (some ⟨g, 0, none⟩) 2 2] w fun e w' => e = .returned (.int .i64 (orI x y)) ∧ w' = w := by
 by_cases hx : x = 0
 ·subst hx
  have HE : Hid (orI 0 y = y) := by show _ = _; unfold orI; rw [if_pos rfl]
  go_enter Tryz.func130, Tryz.ntmps130
  go_wp2
  go_loop [8] (fun t => ∃ k : Nat, k ≤ 2 ∧ t = .int .i64 k ∧ Hid (k = 2 → y = 0)) (fun t => 2 - (intOf t).toNat)
  case atStart => exact ⟨0, by omega, rfl, fun h => by omega⟩
  case round =>
   obtain ⟨k, hk, rfl, HY⟩ := hrel
   by_cases hk0 : k = 0
   ·subst hk0
    go_wp2
    go_round
    case rel => exact ⟨1, by omega, by go_num, fun h => by omega⟩
    case measure => simp [intOf]
   by_cases hk1 : k = 1
   ·subst hk1
    by_cases hy : y = 0
    ·subst hy
     go_wp2
     go_round
     case rel => exact ⟨2, by omega, by go_num, fun h => trivial⟩
     case measure => simp [intOf]
    ·have hy' : (y != 0) = true := by simpa using hy
     clear hy
     go_wp2
     go_ret
     exact ⟨ret_int HE.out.symm, rfl⟩
   ·have hk2 : k = 2 := by omega
    have HF : Hid (0 = orI 0 y) := by show _ = _; rw [HE.out, HY.out hk2]
    subst hk2
    clear hk0 hk1
    go_wp2
    go_ret
    exact ⟨ret_int HF.out, rfl⟩
 ·have HE : Hid (orI x y = x) := by show _ = _; unfold orI; rw [if_neg hx]
  have hx' : (x != 0) = true := by simpa using hx
  clear hx
  go_enter Tryz.func130, Tryz.ntmps130
  go_wp2
  go_loop [8] (fun t => t = .int .i64 0) (fun t => 2 - (intOf t).toNat)
  case atStart => rfl
  case round =>
   subst hrel
   go_wp2
   go_ret
   exact ⟨ret_int HE.out.symm, rfl⟩

def cmpV (a b : Vr) : Int := orI (Lib.compareBytes a.1.data.toList b.1.data.toList) (Lib.compareInt a.2.2.2 b.2.2.2)

set_option maxRecDepth 100000 in
set_option maxHeartbeats 1000000 in
theorem cmp55 (a b : Vr) (w : World) :
  Calls Tryz.prog 97 #[.agg #[.string a.1, .string a.2.1, .bool a.2.2.1, .int .i64 a.2.2.2], .agg #[.string b.1, .string b.2.1, .bool b.2.2.1, .int .i64 b.2.2.2]] w fun e w' => e = .returned (.int .i64 (cmpV a b)) ∧ Below w.heap.size w w' := by
 have A0 : Hid (Box ((w.alloc (.cells #[.string a.1, .string a.2.1, .bool a.2.2.1, .int .i64 a.2.2.2] 85)).alloc (.cells #[.string b.1, .string b.2.1, .bool b.2.2.1, .int .i64 b.2.2.2] 85)) w.heap.size [.string a.1, .string a.2.1, .bool a.2.2.1, .int .i64 a.2.2.2]) := (Box.new w _ 85).below ((belowRefl _).alloc (Nat.le_refl _) _)
 have B0 : Hid (Box ((w.alloc (.cells #[.string a.1, .string a.2.1, .bool a.2.2.1, .int .i64 a.2.2.2] 85)).alloc (.cells #[.string b.1, .string b.2.1, .bool b.2.2.1, .int .i64 b.2.2.2] 85)) (w.heap.size + 1) [.string b.1, .string b.2.1, .bool b.2.2.1, .int .i64 b.2.2.2]) := by
  have h := Box.new (w.alloc (.cells #[.string a.1, .string a.2.1, .bool a.2.2.1, .int .i64 a.2.2.2] 85)) [.string b.1, .string b.2.1, .bool b.2.2.1, .int .i64 b.2.2.2] 85
  rw [World.size_alloc] at h
  exact h
 have HB0 : Hid (Below w.heap.size w ((w.alloc (.cells #[.string a.1, .string a.2.1, .bool a.2.2.1, .int .i64 a.2.2.2] 85)).alloc (.cells #[.string b.1, .string b.2.1, .bool b.2.2.1, .int .i64 b.2.2.2] 85))) := ((belowRefl w).alloc (Nat.le_refl _) _).alloc (by simp) _
 have HC : Hid (cmpV a b = orI (Lib.compareBytes a.1.data.toList b.1.data.toList) (Lib.compareInt a.2.2.2 b.2.2.2)) := rfl
 have C1 : Hid (∀ w, Calls Tryz.prog 131 #[.string a.1, .string b.1] w fun e w' => e = .returned (.int .i64 (Lib.compareBytes a.1.data.toList b.1.data.toList)) ∧ w' = w) := fun w => Tryz.strings_Compare a.1 b.1 w
 have C2 : Hid (∀ w, Calls Tryz.prog 132 #[.int .i64 a.2.2.2, .int .i64 b.2.2.2] w fun e w' => e = .returned (.int .i64 (Lib.compareInt a.2.2.2 b.2.2.2)) ∧ w' = w) := fun w => Tryz.cmp_Compare_int a.2.2.2 b.2.2.2 w
 generalize Lib.compareBytes a.1.data.toList b.1.data.toList = x at *
 generalize Lib.compareInt a.2.2.2 b.2.2.2 = y at *
 go_enter Tryz.func97, Tryz.ntmps97
 go_wp2
 generalize ((w.alloc (.cells #[.string a.1, .string a.2.1, .bool a.2.2.1, .int .i64 a.2.2.2] 85)).alloc (.cells #[.string b.1, .string b.2.1, .bool b.2.2.1, .int .i64 b.2.2.2] 85)) = W at *
 refine wp_region_held_drew (S := fun w' => w'.cell? ⟨w.heap.size, 0, none⟩ = some (.string a.1) ∧ w'.cell? ⟨w.heap.size, 3, none⟩ = some (.int .i64 a.2.2.2) ∧ w'.cell? ⟨w.heap.size + 1, 0, none⟩ = some (.string b.1) ∧ w'.cell? ⟨w.heap.size + 1, 3, none⟩ = some (.int .i64 b.2.2.2)) (by kernel_rfl) ⟨A0.out.c0, A0.out.c3, B0.out.c0, B0.out.c3⟩ (fun hHeld => ?_)
 (refine tk 0 ?_ rfl (Or.inl ⟨by rfl, ?_⟩) ?_; rotate_left; (focus (intro w h; (try dsimp only at h); go_simp; (try with_reducible rfl))); simp only [Act.put, tA, tB, tD, tE, tF])
 (refine tk 1 ?_ rfl (Or.inl ⟨by rfl, ?_⟩) ?_; rotate_left; (focus (intro w h; (try dsimp only at h); go_simp; (try with_reducible rfl))); simp only [Act.put, tA, tB, tC, tD, tE, tF])
 (refine tk 2 ?_ rfl (Or.inl ⟨by rfl, ?_⟩) ?_; rotate_left; (focus (intro w h; (try dsimp only at h); go_simp; (try with_reducible rfl))); simp only [Act.put, tA, tB, tC, tD, tE, tF])
 (refine tk 3 ?_ rfl (Or.inl ⟨by rfl, ?_⟩) ?_; rotate_left; (focus (intro w h; (try dsimp only at h); go_simp; (try with_reducible rfl))); simp only [Act.put, tA, tB, tC, tD, tE, tF])
 (refine tk 5 ?_ rfl (Or.inl ⟨by rfl, ?_⟩) ?_; rotate_left; (focus (intro w h; (try dsimp only at h); go_simp; (try with_reducible rfl))); simp only [Act.put, tA, tB, tC, tD, tE, tF])
 (refine tk 6 ?_ rfl (Or.inl ⟨by rfl, ?_⟩) ?_; rotate_left; (focus (intro w h; (try dsimp only at h); go_simp; (try with_reducible rfl))); simp only [Act.put, tA, tB, tC, tD, tE, tF])
 (refine tk 7 ?_ rfl (Or.inl ⟨by rfl, ?_⟩) ?_; rotate_left; (focus (intro w h; (try dsimp only at h); go_simp; (try with_reducible rfl))); simp only [Act.put, tA, tB, tC, tD, tE, tF])
 (refine tk 8 ?_ rfl (Or.inl ⟨by rfl, ?_⟩) ?_; rotate_left; (focus (intro w h; (try dsimp only at h); go_simp; (try with_reducible rfl))); simp only [Act.put, tA, tB, tC, tD, tE, tF])
 refine wpAnyH_ready (rs := [4]) (by kernel_rfl) (by simp) ?_
 refine AllReadyH.cons rfl (fun K hK => ?_) AllReadyH.nil
 go_simp
 go_wp2_with (go_at_call 131; refine (C1.out _).mono ?_; rintro e w2 ⟨rfl, rfl⟩)
 refine hK.out _ _ ⟨A0.out.c0, A0.out.c3, B0.out.c0, B0.out.c3⟩ (fun hHeld2 => ?_)
 clear hK K
 refine wpAnyH_ready (rs := [9]) (by kernel_rfl) (by simp) ?_
 refine AllReadyH.cons rfl (fun K hK => ?_) AllReadyH.nil
 go_simp
 go_wp2_with (go_at_call 132; refine (C2.out _).mono ?_; rintro e w2 ⟨rfl, rfl⟩)
 refine hK.out _ _ ⟨A0.out.c0, A0.out.c3, B0.out.c0, B0.out.c3⟩ (fun hHeld3 => ?_)
 clear hK K
 refine wpAnyH_ready (rs := [10]) (by kernel_rfl) (by simp) ?_
 refine AllReadyH.cons rfl (fun K hK => ?_) AllReadyH.nil
 go_simp
 have A1 : Hid (Box (W.drew.alloc (.cells #[.int .i64 x, .int .i64 y] 3)) w.heap.size [.string a.1, .string a.2.1, .bool a.2.2.1, .int .i64 a.2.2.2]) := A0.out.below (((belowRefl W).drew).alloc (Nat.le_refl _) _)
 have B1 : Hid (Box (W.drew.alloc (.cells #[.int .i64 x, .int .i64 y] 3)) (w.heap.size + 1) [.string b.1, .string b.2.1, .bool b.2.2.1, .int .i64 b.2.2.2]) := B0.out.below (((belowRefl W).drew).alloc (Nat.le_refl _) _)
 have G1 : Hid (Box (W.drew.alloc (.cells #[.int .i64 x, .int .i64 y] 3)) W.heap.size [.int .i64 x, .int .i64 y]) := Box.new W.drew _ 3
 have HB1 : Hid (Below w.heap.size w (W.drew.alloc (.cells #[.int .i64 x, .int .i64 y] 3))) := HB0.out.drew.alloc HB0.out.size _
 go_wp2_with fail
 refine hK.out _ _ ⟨A1.out.c0, A1.out.c3, B1.out.c0, B1.out.c3⟩ (fun hHeld4 => ?_)
 clear hK K
 refine wpAnyH_ready (rs := [11]) (by kernel_rfl) (by simp) ?_
 refine AllReadyH.cons rfl (fun K hK => ?_) AllReadyH.nil
 go_simp
 go_wp2_with (go_at_call 130; refine (or84 x y _ _ G1.out.c0 G1.out.c1).mono ?_; rintro e w2 ⟨rfl, rfl⟩)
 refine hK.out _ _ ⟨A1.out.c0, A1.out.c3, B1.out.c0, B1.out.c3⟩ (fun hHeld5 => ?_)
 clear hK K
 (refine tk 12 ?_ rfl (Or.inl ⟨by rfl, ?_⟩) ?_; rotate_left; (focus (intro w h; (try dsimp only at h); go_simp; (try with_reducible rfl))); simp only [Act.put, tA, tB, tC, tD, tE, tF])
 refine wpAnyH_done (by kernel_rfl) ?_ _
 go_wp2
 go_ret
 exact ⟨ret_int HC.out.symm, HB1.out⟩
end Go.Proofs.YtjeicgibddfifaaGreat

namespace Go.Proofs.YtjeicgibddfifaaGreat
open Go.RowKit
open KM
attribute [local go_sem ↓] Go.wp_at_zero Go.wp_at_succ

def Good (xs : List Wt) (k : Nat) : Prop := ∀ j (h : j < xs.length), j < k → writeB xs[j] = true ∧ ∀ (_ : 0 < j), lt (xs[j - 1]'(by omega)).1 xs[j].1 = true
theorem good_all {xs : List Wt} {k : Nat} (h : Good xs k) (hk : xs.length ≤ k) (h8 : xs.length ≤ 8) : writesB xs = true := by
 unfold writesB
 simp only [Bool.and_eq_true, decide_eq_true_eq]
 exact ⟨h8, fun j hj => h j hj (by omega)⟩
theorem good_len {xs : List Wt} (h8 : ¬ xs.length ≤ 8) : writesB xs = false := by
 unfold writesB
 rw [decide_eq_false h8]; rfl
theorem good_whole {xs : List Wt} {k : Nat} (h : Good xs k) (hk : xs.length ≤ k) : decide (xs.length ≤ 8) = writesB xs := by
 by_cases h8 : xs.length ≤ 8
 ·rw [good_all h hk h8, decide_eq_true h8]
 ·rw [good_len h8, decide_eq_false h8]
theorem good_no {xs : List Wt} (k : Nat) (hk : k < xs.length) (h : ¬ (writeB xs[k] = true ∧ ∀ (_ : 0 < k), lt (xs[k - 1]'(by omega)).1 xs[k].1 = true)) : writesB xs = false := by
 cases hw : writesB xs
 ·rfl
 ·unfold writesB at hw
  simp only [Bool.and_eq_true, decide_eq_true_eq] at hw
  exact absurd (hw.2 k hk) h
theorem good_more {xs : List Wt} {k : Nat} (hg : Good xs k) (hk : k < xs.length) (h : writeB xs[k] = true ∧ ∀ (_ : 0 < k), lt (xs[k - 1]'(by omega)).1 xs[k].1 = true) : Good xs (k + 1) := fun j hj h2 => by
 by_cases e : j = k
 ·subst e; exact h
 ·exact hg j hj (by omega)

set_option maxRecDepth 100000 in
set_option maxHeartbeats 4000000 in
theorem iwrites (xs : List Wt) (a : Option Addr) (c : Nat) (hn : xs.length ≤ 100000000) (w : World) (hp : GRow encW w a xs) :
  Calls Tryz.prog 127 #[.slice a xs.length c] w fun e w' => e = .returned (.bool (writesB xs)) ∧ Below w.heap.size w w' := by
 have HP : Hid (GRow encW w a xs) := hp
 clear hp
 by_cases h8 : xs.length ≤ 8
 ·have h8' : ¬ (8 : Int) < (xs.length : Int) := by omega
  go_enter Tryz.func127, Tryz.ntmps127
  go_wp2
  go_loopw [10] (fun t wr => ∃ k : Nat, k ≤ xs.length ∧ t = .int .i64 k ∧ Hid (Good xs k) ∧ Hid (Below w.heap.size w wr)) (fun t _ => xs.length - (intOf t).toNat)
  case atStart => exact ⟨0, Nat.zero_le _, rfl, fun j hj h => by omega, belowRefl w⟩
  case round =>
   obtain ⟨k, hk, rfl, HG, HB⟩ := hrel
   by_cases hlt : k < xs.length
   ·have hlt' : (k : Int) < (xs.length : Int) := by omega
    have hk0 : (0 : Int) ≤ (k : Int) := by omega
    have HR : Hid (GRow encW wr a xs) := HP.out.below HB.out
    obtain ⟨b, off, rfl, hbl, hc⟩ := HR.out (by omega)
    have r0 := (wat hc k hlt).1
    have r1 := (wat hc k hlt).2.1
    have r2 := (wat hc k hlt).2.2
    clear hc
    have HX : Hid (Box (wr.alloc (.cells #[.string xs[k].1, .string xs[k].2.1, .bool xs[k].2.2] 47)) wr.heap.size [.string xs[k].1, .string xs[k].2.1, .bool xs[k].2.2]) := Box.new wr [.string xs[k].1, .string xs[k].2.1, .bool xs[k].2.2] 47
    have HB1 : Hid (Below w.heap.size w (wr.alloc (.cells #[.string xs[k].1, .string xs[k].2.1, .bool xs[k].2.2] 47))) := HB.out.alloc HB.out.size _
    have HR1 : Hid (GRow encW (wr.alloc (.cells #[.string xs[k].1, .string xs[k].2.1, .bool xs[k].2.2] 47)) (some ⟨b, off, none⟩) xs) := HR.out.below ((belowRefl wr).alloc (Nat.le_refl _) _)
    cases hw : writeB xs[k]
    ·have C1 : Hid (∀ w, Calls Tryz.prog 42 #[.agg #[.string xs[k].1, .string xs[k].2.1, .bool xs[k].2.2]] w fun e w' => e = .returned (.bool false) ∧ Below w.heap.size w w') := fun w => hw ▸ iwrite xs[k].1 xs[k].2.1 xs[k].2.2 w
     have HN : Hid (writesB xs = false) := good_no k hlt (fun h => by rw [hw] at h; cases h.1)
     clear hw
     go_wp2
     generalize (wr.alloc (.cells #[.string xs[k].1, .string xs[k].2.1, .bool xs[k].2.2] 47)) = W1 at *
     have c0 := HX.out.c0
     have c1 := HX.out.c1
     have c2 := HX.out.c2
     refine wp_region_held_drew (S := fun w' => w'.cell? ⟨wr.heap.size, 0, none⟩ = some (.string xs[k].1) ∧ w'.cell? ⟨wr.heap.size, 1, none⟩ = some (.string xs[k].2.1) ∧ w'.cell? ⟨wr.heap.size, 2, none⟩ = some (.bool xs[k].2.2)) (by kernel_rfl) ⟨c0, c1, c2⟩ (fun hHeld => ?_)
     (refine tk 0 ?_ rfl (Or.inl ⟨by rfl, ?_⟩) ?_; rotate_left; (focus (intro w h; (try dsimp only at h); go_simp; (try with_reducible rfl))); simp only [Act.put, tA, tB, tD, tE, tF])
     refine wpAnyH_ready (rs := [1]) (by kernel_rfl) (by simp) ?_
     refine AllReadyH.cons rfl (fun K hK => ?_) AllReadyH.nil
     go_simp
     go_wp2_with (go_at_call 42; refine (C1.out _).mono ?_; rintro e w2 ⟨rfl, hb2⟩; have Q := HX.out.below (undrew hb2); have q0 := Q.c0; have q1 := Q.c1; have q2 := Q.c2; clear Q)
     refine hK.out _ _ ⟨q0, q1, q2⟩ (fun hHeld2 => ?_)
     clear hK K
     (refine tk 2 ?_ rfl (Or.inl ⟨by rfl, ?_⟩) ?_; rotate_left; (focus (intro w h; (try dsimp only at h); go_simp; (try with_reducible rfl))); simp only [Act.put, tA, tB, tC, tD, tE, tF])
     (refine tk 3 ?_ rfl (Or.inl ⟨by rfl, ?_⟩) ?_; rotate_left; (focus (intro w h; (try dsimp only at h); go_simp; (try with_reducible rfl))); simp only [Act.put, tA, tB, tC, tD, tE, tF])
     (refine tk 4 undef rfl (Or.inr ⟨by rfl, rfl⟩) ?_; simp only [Act.put, tA, tB, tC, tD, tE, tF])
     (refine tk 5 undef rfl (Or.inr ⟨by rfl, rfl⟩) ?_; simp only [Act.put, tA, tB, tC, tD, tE, tF])
     (refine tk 6 undef rfl (Or.inr ⟨by rfl, rfl⟩) ?_; simp only [Act.put, tA, tB, tC, tD, tE, tF])
     (refine tk 7 undef rfl (Or.inr ⟨by rfl, rfl⟩) ?_; simp only [Act.put, tA, tB, tC, tD, tE, tF])
     (refine tk 8 undef rfl (Or.inr ⟨by rfl, rfl⟩) ?_; simp only [Act.put, tA, tB, tC, tD, tE, tF])
     (refine tk 9 undef rfl (Or.inr ⟨by rfl, rfl⟩) ?_; simp only [Act.put, tA, tB, tC, tD, tE, tF])
     (refine tk 10 undef rfl (Or.inr ⟨by rfl, rfl⟩) ?_; simp only [Act.put, tA, tB, tC, tD, tE, tF])
     (refine tk 11 undef rfl (Or.inr ⟨by rfl, rfl⟩) ?_; simp only [Act.put, tA, tB, tC, tD, tE, tF])
     (refine tk 12 undef rfl (Or.inr ⟨by rfl, rfl⟩) ?_; simp only [Act.put, tA, tB, tC, tD, tE, tF])
     (refine tk 13 undef rfl (Or.inr ⟨by rfl, rfl⟩) ?_; simp only [Act.put, tA, tB, tC, tD, tE, tF])
     (refine tk 14 undef rfl (Or.inr ⟨by rfl, rfl⟩) ?_; simp only [Act.put, tA, tB, tC, tD, tE, tF])
     (refine tk 15 undef rfl (Or.inr ⟨by rfl, rfl⟩) ?_; simp only [Act.put, tA, tB, tC, tD, tE, tF])
     (refine tk 16 undef rfl (Or.inr ⟨by rfl, rfl⟩) ?_; simp only [Act.put, tA, tB, tC, tD, tE, tF])
     (refine tk 17 ?_ rfl (Or.inl ⟨by rfl, ?_⟩) ?_; rotate_left; (focus (intro w h; (try dsimp only at h); go_simp; (try with_reducible rfl))); simp only [Act.put, tA, tB, tC, tD, tE, tF])
     refine wpAnyH_done (by kernel_rfl) ?_ _
     go_wp2
     go_ret
     exact ⟨ret_bool HN.out.symm, HB1.out.trans ((undrew hb2).mono HB1.out.size)⟩
    ·have C1 : Hid (∀ w, Calls Tryz.prog 42 #[.agg #[.string xs[k].1, .string xs[k].2.1, .bool xs[k].2.2]] w fun e w' => e = .returned (.bool true) ∧ Below w.heap.size w w') := fun w => hw ▸ iwrite xs[k].1 xs[k].2.1 xs[k].2.2 w
     by_cases hz : k = 0
     ·have hz' : ¬ (0 : Int) < (k : Int) := by omega
      have HG2 : Hid (Good xs (k + 1)) := good_more HG.out hlt ⟨hw, fun h => by omega⟩
      clear hw hz
      go_wp2
      generalize (wr.alloc (.cells #[.string xs[k].1, .string xs[k].2.1, .bool xs[k].2.2] 47)) = W1 at *
      have c0 := HX.out.c0
      have c1 := HX.out.c1
      have c2 := HX.out.c2
      have hzd : decide (0 < k) = false := by simp; omega
      refine wp_region_held_drew (S := fun w' => w'.cell? ⟨wr.heap.size, 0, none⟩ = some (.string xs[k].1) ∧ w'.cell? ⟨wr.heap.size, 1, none⟩ = some (.string xs[k].2.1) ∧ w'.cell? ⟨wr.heap.size, 2, none⟩ = some (.bool xs[k].2.2)) (by kernel_rfl) ⟨c0, c1, c2⟩ (fun hHeld => ?_)
      (refine tk 0 ?_ rfl (Or.inl ⟨by rfl, ?_⟩) ?_; rotate_left; (focus (intro w h; (try dsimp only at h); go_simp; (try with_reducible rfl))); simp only [Act.put, tA, tB, tD, tE, tF])
      refine wpAnyH_ready (rs := [1]) (by kernel_rfl) (by simp) ?_
      refine AllReadyH.cons rfl (fun K hK => ?_) AllReadyH.nil
      go_simp
      go_wp2_with (go_at_call 42; refine (C1.out _).mono ?_; rintro e w2 ⟨rfl, hb2⟩; have Q := HX.out.below (undrew hb2); have q0 := Q.c0; have q1 := Q.c1; have q2 := Q.c2; clear Q)
      refine hK.out _ _ ⟨q0, q1, q2⟩ (fun hHeld2 => ?_)
      clear hK K
      (refine tk 2 ?_ rfl (Or.inl ⟨by rfl, ?_⟩) ?_; rotate_left; (focus (intro w h; (try dsimp only at h); go_simp; (try with_reducible rfl))); simp only [Act.put, tA, tB, tC, tD, tE, tF])
      (refine tk 3 ?_ rfl (Or.inl ⟨by rfl, ?_⟩) ?_; rotate_left; (focus (intro w h; (try dsimp only at h); go_simp; (try with_reducible rfl))); simp only [Act.put, tA, tB, tC, tD, tE, tF])
      (refine tk 4 ?_ rfl (Or.inl ⟨by rfl, ?_⟩) ?_; rotate_left; (focus (intro w h; (try dsimp only at h); go_simp; (try with_reducible rfl))); simp only [Act.put, tA, tB, tC, tD, tE, tF])
      (refine tk 5 ?_ rfl (Or.inl ⟨by rfl, ?_⟩) ?_; rotate_left; (focus (intro w h; (try dsimp only at h); go_simp; (try with_reducible rfl))); simp only [Act.put, tA, tB, tC, tD, tE, tF])
      (refine tk 6 ?_ rfl (Or.inl ⟨by rfl, ?_⟩) ?_; rotate_left; (focus (intro w h; (try dsimp only at h); go_simp; (try with_reducible rfl))); simp only [Act.put, tA, tB, tC, tD, tE, tF])
      (refine tk 7 undef rfl (Or.inr ⟨by rfl, rfl⟩) ?_; simp only [Act.put, tA, tB, tC, tD, tE, tF])
      (refine tk 8 undef rfl (Or.inr ⟨by rfl, rfl⟩) ?_; simp only [Act.put, tA, tB, tC, tD, tE, tF])
      (refine tk 9 undef rfl (Or.inr ⟨by rfl, rfl⟩) ?_; simp only [Act.put, tA, tB, tC, tD, tE, tF])
      (refine tk 10 undef rfl (Or.inr ⟨by rfl, rfl⟩) ?_; simp only [Act.put, tA, tB, tC, tD, tE, tF])
      (refine tk 11 undef rfl (Or.inr ⟨by rfl, rfl⟩) ?_; simp only [Act.put, tA, tB, tC, tD, tE, tF])
      (refine tk 12 undef rfl (Or.inr ⟨by rfl, rfl⟩) ?_; simp only [Act.put, tA, tB, tC, tD, tE, tF])
      (refine tk 13 undef rfl (Or.inr ⟨by rfl, rfl⟩) ?_; simp only [Act.put, tA, tB, tC, tD, tE, tF])
      (refine tk 14 undef rfl (Or.inr ⟨by rfl, rfl⟩) ?_; simp only [Act.put, tA, tB, tC, tD, tE, tF])
      (refine tk 15 undef rfl (Or.inr ⟨by rfl, rfl⟩) ?_; simp only [Act.put, tA, tB, tC, tD, tE, tF])
      (refine tk 16 ?_ rfl (Or.inl ⟨by rfl, ?_⟩) ?_; rotate_left; (focus (intro w h; (try dsimp only at h); go_simp; (try with_reducible rfl))); simp only [Act.put, tA, tB, tC, tD, tE, tF])
      (refine tk 17 ?_ rfl (Or.inl ⟨by rfl, ?_⟩) ?_; rotate_left; (focus (intro w h; (try dsimp only at h); go_simp; (try with_reducible rfl))); simp only [Act.put, tA, tB, tC, tD, tE, tF])
      refine wpAnyH_done (by kernel_rfl) ?_ _
      go_wp2
      go_roundw
      case rel => exact ⟨k + 1, by omega, by go_num, HG2, HB1.out.trans ((undrew hb2).mono HB1.out.size)⟩
      case measure => simp [intOf]; omega
     ·obtain ⟨m, hm⟩ : ∃ m, m + 1 = k := ⟨k - 1, by omega⟩
      have HM : Hid (m + 1 = k) := hm
      have hml : m < xs.length := by omega
      have hz' : (0 : Int) < (k : Int) := by omega
      have e9 : IntKind.i64.wrap ((k : Int) - 1) = (m : Int) := by rw [IntKind.wrap_i64]; omega
      have e10 : (k : Int) - 1 = (m : Int) := by omega
      have hm0 : (0 : Int) ≤ (m : Int) := by omega
      have hml' : (m : Int) < (xs.length : Int) := by omega
      have EM : Hid (xs[k - 1]'(Nat.lt_of_le_of_lt (Nat.sub_le _ _) hlt) = xs[m]) := by show _ = _; congr 1; omega
      cases hl : lt xs[m].1 xs[k].1
      ·have hl' : (!Op.bytesLess xs[m].1.toList xs[k].1.toList) = true := by show (!lt xs[m].1 xs[k].1) = true; rw [hl]; rfl
       have HN : Hid (writesB xs = false) := good_no k hlt (fun h => by have := h.2 (by omega); rw [EM.out, hl] at this; cases this)
       clear hw hz hm hl
       go_wp2
       generalize (wr.alloc (.cells #[.string xs[k].1, .string xs[k].2.1, .bool xs[k].2.2] 47)) = W1 at *
       have c0 := HX.out.c0
       have c1 := HX.out.c1
       have c2 := HX.out.c2
       obtain ⟨b', off', hbo, hbl', hc'⟩ := HR1.out (by omega)
       cases hbo
       have p0 := (wat hc' m hml).1
       clear hc'
       have hzd : decide (0 < k) = true := by have := HM.out; simp; omega
       have e11 : IntKind.i64.wrap (m : Int) = (m : Int) := by rw [IntKind.wrap_i64]; omega
       refine wp_region_held_drew (S := fun w' => w'.cell? ⟨wr.heap.size, 0, none⟩ = some (.string xs[k].1) ∧ w'.cell? ⟨wr.heap.size, 1, none⟩ = some (.string xs[k].2.1) ∧ w'.cell? ⟨wr.heap.size, 2, none⟩ = some (.bool xs[k].2.2) ∧ w'.cell? ⟨b, off + m * 3, none⟩ = some (.string xs[m].1)) (by kernel_rfl) ⟨c0, c1, c2, p0⟩ (fun hHeld => ?_)
       (refine tk 0 ?_ rfl (Or.inl ⟨by rfl, ?_⟩) ?_; rotate_left; (focus (intro w h; (try dsimp only at h); go_simp; (try with_reducible rfl))); simp only [Act.put, tA, tB, tD, tE, tF])
       refine wpAnyH_ready (rs := [1]) (by kernel_rfl) (by simp) ?_
       refine AllReadyH.cons rfl (fun K hK => ?_) AllReadyH.nil
       go_simp
       go_wp2_with (go_at_call 42; refine (C1.out _).mono ?_; rintro e w2 ⟨rfl, hb2⟩; have Q := HX.out.below (undrew hb2); have q0 := Q.c0; have q1 := Q.c1; have q2 := Q.c2; clear Q; have q3 := ((undrew hb2).cell (p := ⟨b, off + m * 3, none⟩) hbl').trans p0)
       refine hK.out _ _ ⟨q0, q1, q2, q3⟩ (fun hHeld2 => ?_)
       clear hK K
       (refine tk 2 ?_ rfl (Or.inl ⟨by rfl, ?_⟩) ?_; rotate_left; (focus (intro w h; (try dsimp only at h); go_simp; (try with_reducible rfl))); simp only [Act.put, tA, tB, tC, tD, tE, tF])
       (refine tk 3 ?_ rfl (Or.inl ⟨by rfl, ?_⟩) ?_; rotate_left; (focus (intro w h; (try dsimp only at h); go_simp; (try with_reducible rfl))); simp only [Act.put, tA, tB, tC, tD, tE, tF])
       (refine tk 4 ?_ rfl (Or.inl ⟨by rfl, ?_⟩) ?_; rotate_left; (focus (intro w h; (try dsimp only at h); go_simp; (try with_reducible rfl))); simp only [Act.put, tA, tB, tC, tD, tE, tF])
       (refine tk 5 ?_ rfl (Or.inl ⟨by rfl, ?_⟩) ?_; rotate_left; (focus (intro w h; (try dsimp only at h); go_simp; (try with_reducible rfl))); simp only [Act.put, tA, tB, tC, tD, tE, tF])
       (refine tk 6 ?_ rfl (Or.inl ⟨by rfl, ?_⟩) ?_; rotate_left; (focus (intro w h; (try dsimp only at h); go_simp; (try with_reducible rfl))); simp only [Act.put, tA, tB, tC, tD, tE, tF])
       (refine tk 7 ?_ rfl (Or.inl ⟨by rfl, ?_⟩) ?_; rotate_left; (focus (intro w h; (try dsimp only at h); go_simp; (try with_reducible rfl))); simp only [Act.put, tA, tB, tC, tD, tE, tF])
       (refine tk 8 ?_ rfl (Or.inl ⟨by rfl, ?_⟩) ?_; rotate_left; (focus (intro w h; (try dsimp only at h); go_simp; (try with_reducible rfl))); simp only [Act.put, tA, tB, tC, tD, tE, tF])
       (refine tk 9 ?_ rfl (Or.inl ⟨by rfl, ?_⟩) ?_; rotate_left; (focus (intro w h; (try dsimp only at h); go_simp; (try with_reducible rfl))); simp only [Act.put, tA, tB, tC, tD, tE, tF])
       (refine tk 10 ?_ rfl (Or.inl ⟨by rfl, ?_⟩) ?_; rotate_left; (focus (intro w h; (try dsimp only at h); go_simp; (try with_reducible rfl))); simp only [Act.put, tA, tB, tC, tD, tE, tF])
       (refine tk 11 ?_ rfl (Or.inl ⟨by rfl, ?_⟩) ?_; rotate_left; (focus (intro w h; (try dsimp only at h); go_simp; (try with_reducible rfl))); simp only [Act.put, tA, tB, tC, tD, tE, tF])
       (refine tk 12 ?_ rfl (Or.inl ⟨by rfl, ?_⟩) ?_; rotate_left; (focus (intro w h; (try dsimp only at h); go_simp; (try with_reducible rfl))); simp only [Act.put, tA, tB, tC, tD, tE, tF])
       (refine tk 13 ?_ rfl (Or.inl ⟨by rfl, ?_⟩) ?_; rotate_left; (focus (intro w h; (try dsimp only at h); go_simp; (try with_reducible rfl))); simp only [Act.put, tA, tB, tC, tD, tE, tF])
       (refine tk 14 ?_ rfl (Or.inl ⟨by rfl, ?_⟩) ?_; rotate_left; (focus (intro w h; (try dsimp only at h); go_simp; (try with_reducible rfl))); simp only [Act.put, tA, tB, tC, tD, tE, tF])
       (refine tk 15 ?_ rfl (Or.inl ⟨by rfl, ?_⟩) ?_; rotate_left; (focus (intro w h; (try dsimp only at h); go_simp; (try with_reducible rfl))); simp only [Act.put, tA, tB, tC, tD, tE, tF])
       (refine tk 16 ?_ rfl (Or.inl ⟨by rfl, ?_⟩) ?_; rotate_left; (focus (intro w h; (try dsimp only at h); go_simp; (try with_reducible rfl))); simp only [Act.put, tA, tB, tC, tD, tE, tF])
       (refine tk 17 ?_ rfl (Or.inl ⟨by rfl, ?_⟩) ?_; rotate_left; (focus (intro w h; (try dsimp only at h); go_simp; (try with_reducible rfl))); simp only [Act.put, tA, tB, tC, tD, tE, tF])
       refine wpAnyH_done (by kernel_rfl) ?_ _
       go_wp2
       go_ret
       exact ⟨ret_bool HN.out.symm, HB1.out.trans ((undrew hb2).mono HB1.out.size)⟩
      ·have hl' : (!Op.bytesLess xs[m].1.toList xs[k].1.toList) = false := by show (!lt xs[m].1 xs[k].1) = false; rw [hl]; rfl
       have HG2 : Hid (Good xs (k + 1)) := good_more HG.out hlt ⟨hw, fun h => by rw [EM.out]; exact hl⟩
       clear hw hz hm hl
       go_wp2
       generalize (wr.alloc (.cells #[.string xs[k].1, .string xs[k].2.1, .bool xs[k].2.2] 47)) = W1 at *
       have c0 := HX.out.c0
       have c1 := HX.out.c1
       have c2 := HX.out.c2
       obtain ⟨b', off', hbo, hbl', hc'⟩ := HR1.out (by omega)
       cases hbo
       have p0 := (wat hc' m hml).1
       clear hc'
       have hzd : decide (0 < k) = true := by have := HM.out; simp; omega
       have e11 : IntKind.i64.wrap (m : Int) = (m : Int) := by rw [IntKind.wrap_i64]; omega
       refine wp_region_held_drew (S := fun w' => w'.cell? ⟨wr.heap.size, 0, none⟩ = some (.string xs[k].1) ∧ w'.cell? ⟨wr.heap.size, 1, none⟩ = some (.string xs[k].2.1) ∧ w'.cell? ⟨wr.heap.size, 2, none⟩ = some (.bool xs[k].2.2) ∧ w'.cell? ⟨b, off + m * 3, none⟩ = some (.string xs[m].1)) (by kernel_rfl) ⟨c0, c1, c2, p0⟩ (fun hHeld => ?_)
       (refine tk 0 ?_ rfl (Or.inl ⟨by rfl, ?_⟩) ?_; rotate_left; (focus (intro w h; (try dsimp only at h); go_simp; (try with_reducible rfl))); simp only [Act.put, tA, tB, tD, tE, tF])
       refine wpAnyH_ready (rs := [1]) (by kernel_rfl) (by simp) ?_
       refine AllReadyH.cons rfl (fun K hK => ?_) AllReadyH.nil
       go_simp
       go_wp2_with (go_at_call 42; refine (C1.out _).mono ?_; rintro e w2 ⟨rfl, hb2⟩; have Q := HX.out.below (undrew hb2); have q0 := Q.c0; have q1 := Q.c1; have q2 := Q.c2; clear Q; have q3 := ((undrew hb2).cell (p := ⟨b, off + m * 3, none⟩) hbl').trans p0)
       refine hK.out _ _ ⟨q0, q1, q2, q3⟩ (fun hHeld2 => ?_)
       clear hK K
       (refine tk 2 ?_ rfl (Or.inl ⟨by rfl, ?_⟩) ?_; rotate_left; (focus (intro w h; (try dsimp only at h); go_simp; (try with_reducible rfl))); simp only [Act.put, tA, tB, tC, tD, tE, tF])
       (refine tk 3 ?_ rfl (Or.inl ⟨by rfl, ?_⟩) ?_; rotate_left; (focus (intro w h; (try dsimp only at h); go_simp; (try with_reducible rfl))); simp only [Act.put, tA, tB, tC, tD, tE, tF])
       (refine tk 4 ?_ rfl (Or.inl ⟨by rfl, ?_⟩) ?_; rotate_left; (focus (intro w h; (try dsimp only at h); go_simp; (try with_reducible rfl))); simp only [Act.put, tA, tB, tC, tD, tE, tF])
       (refine tk 5 ?_ rfl (Or.inl ⟨by rfl, ?_⟩) ?_; rotate_left; (focus (intro w h; (try dsimp only at h); go_simp; (try with_reducible rfl))); simp only [Act.put, tA, tB, tC, tD, tE, tF])
       (refine tk 6 ?_ rfl (Or.inl ⟨by rfl, ?_⟩) ?_; rotate_left; (focus (intro w h; (try dsimp only at h); go_simp; (try with_reducible rfl))); simp only [Act.put, tA, tB, tC, tD, tE, tF])
       (refine tk 7 ?_ rfl (Or.inl ⟨by rfl, ?_⟩) ?_; rotate_left; (focus (intro w h; (try dsimp only at h); go_simp; (try with_reducible rfl))); simp only [Act.put, tA, tB, tC, tD, tE, tF])
       (refine tk 8 ?_ rfl (Or.inl ⟨by rfl, ?_⟩) ?_; rotate_left; (focus (intro w h; (try dsimp only at h); go_simp; (try with_reducible rfl))); simp only [Act.put, tA, tB, tC, tD, tE, tF])
       (refine tk 9 ?_ rfl (Or.inl ⟨by rfl, ?_⟩) ?_; rotate_left; (focus (intro w h; (try dsimp only at h); go_simp; (try with_reducible rfl))); simp only [Act.put, tA, tB, tC, tD, tE, tF])
       (refine tk 10 ?_ rfl (Or.inl ⟨by rfl, ?_⟩) ?_; rotate_left; (focus (intro w h; (try dsimp only at h); go_simp; (try with_reducible rfl))); simp only [Act.put, tA, tB, tC, tD, tE, tF])
       (refine tk 11 ?_ rfl (Or.inl ⟨by rfl, ?_⟩) ?_; rotate_left; (focus (intro w h; (try dsimp only at h); go_simp; (try with_reducible rfl))); simp only [Act.put, tA, tB, tC, tD, tE, tF])
       (refine tk 12 ?_ rfl (Or.inl ⟨by rfl, ?_⟩) ?_; rotate_left; (focus (intro w h; (try dsimp only at h); go_simp; (try with_reducible rfl))); simp only [Act.put, tA, tB, tC, tD, tE, tF])
       (refine tk 13 ?_ rfl (Or.inl ⟨by rfl, ?_⟩) ?_; rotate_left; (focus (intro w h; (try dsimp only at h); go_simp; (try with_reducible rfl))); simp only [Act.put, tA, tB, tC, tD, tE, tF])
       (refine tk 14 ?_ rfl (Or.inl ⟨by rfl, ?_⟩) ?_; rotate_left; (focus (intro w h; (try dsimp only at h); go_simp; (try with_reducible rfl))); simp only [Act.put, tA, tB, tC, tD, tE, tF])
       (refine tk 15 ?_ rfl (Or.inl ⟨by rfl, ?_⟩) ?_; rotate_left; (focus (intro w h; (try dsimp only at h); go_simp; (try with_reducible rfl))); simp only [Act.put, tA, tB, tC, tD, tE, tF])
       (refine tk 16 ?_ rfl (Or.inl ⟨by rfl, ?_⟩) ?_; rotate_left; (focus (intro w h; (try dsimp only at h); go_simp; (try with_reducible rfl))); simp only [Act.put, tA, tB, tC, tD, tE, tF])
       (refine tk 17 ?_ rfl (Or.inl ⟨by rfl, ?_⟩) ?_; rotate_left; (focus (intro w h; (try dsimp only at h); go_simp; (try with_reducible rfl))); simp only [Act.put, tA, tB, tC, tD, tE, tF])
       refine wpAnyH_done (by kernel_rfl) ?_ _
       go_wp2
       go_roundw
       case rel => exact ⟨k + 1, by omega, by go_num, HG2, HB1.out.trans ((undrew hb2).mono HB1.out.size)⟩
       case measure => simp [intOf]; omega
   ·have hlt' : ¬ (k : Int) < (xs.length : Int) := by omega
    have HT : Hid (writesB xs = true) := good_all HG.out (by omega) h8
    go_wp2
    go_ret
    exact ⟨ret_bool HT.out.symm, HB.out⟩
 ·have h8' : (8 : Int) < (xs.length : Int) := by omega
  have HN : Hid (writesB xs = false) := good_len h8
  clear h8
  go_enter Tryz.func127, Tryz.ntmps127
  go_wp2
  go_ret
  exact ⟨ret_bool HN.out.symm, belowRefl w⟩
end Go.Proofs.YtjeicgibddfifaaGreat
