/- A cell put in its place, by the program. -/
import Derived.Test.YtnmggknpllnjiaaGreatPt26
namespace Go.Proofs.YtnmggknpllnjiaaGreat
open Go.RowKit
open KM
open VM
attribute [local go_sem ↓] Go.wp_at_zero Go.wp_at_succ

set_option maxRecDepth 100000 in
set_option maxHeartbeats 1000000 in
theorem with_found (xs : List Rg) (x : Rg) (ys : List Rg) (a : Option Addr) (c n : Nat) (hx : n = xs.length) (hn : n ≤ 4000000) (hz : a = none → n = 0 ∧ c = 0) (j : Nat) (hj : j < xs.length) (he : idxN (ckeysB xs) x.1 0 = (j : Int)) (hys : xs.set j x = ys) (w : World) (hp : GRow encR w a xs) :
  Calls Tryz.prog 71 #[.agg #[.slice a n c, .func (.func 86) #[] #[]], .agg #[.string x.1, .string x.2]] w fun e w' => ∃ (a1 : Option Addr) (c1 L : Nat), e = .returned (.slice a1 L c1) ∧ L = ys.length ∧ GOwn encR 98 w' w.heap.size (.slice a1 L c1) ys ∧ Below w.heap.size w w' := by
 have HE := hide he
 have HYS := hide hys
 have hj0 : (0 : Int) ≤ (j : Int) := by omega
 clear he hys
 have HP : Hid (GRow encR w a xs) := hp
 have HX : Hid (n = xs.length) := hx
 have HZ := hide hz
 have HB0 : Hid (Below w.heap.size w ((w.alloc (.cells #[.slice a n c, .func (.func 86) #[] #[]] 137)).alloc (.cells #[.string x.1, .string x.2] 98))) := ((belowRefl w).alloc (Nat.le_refl _) _).alloc (by simp) _
 have L0 : Hid (Bx ((w.alloc (.cells #[.slice a n c, .func (.func 86) #[] #[]] 137)).alloc (.cells #[.string x.1, .string x.2] 98)) w.heap.size [.slice a n c, .func (.func 86) #[] #[]]) := (Bx.new w [.slice a n c, .func (.func 86) #[] #[]] 137).alloc _
 have X0 : Hid (Bx ((w.alloc (.cells #[.slice a n c, .func (.func 86) #[] #[]] 137)).alloc (.cells #[.string x.1, .string x.2] 98)) (w.heap.size + 1) [.string x.1, .string x.2]) := by
  have h := Bx.new (w.alloc (.cells #[.slice a n c, .func (.func 86) #[] #[]] 137)) [.string x.1, .string x.2] 98
  rw [show (w.alloc (.cells #[.slice a n c, .func (.func 86) #[] #[]] 137)).heap.size = w.heap.size + 1 by simp] at h
  exact h
 have HS0 : Hid (w.heap.size + 1 + 1 ≤ ((w.alloc (.cells #[.slice a n c, .func (.func 86) #[] #[]] 137)).alloc (.cells #[.string x.1, .string x.2] 98)).heap.size) := by show _ ≤ _; simp
 clear hx hp hz
 go_enter Tryz.func71, Tryz.ntmps71
 go_upto_region 1 with fail
 generalize ((w.alloc (.cells #[.slice a n c, .func (.func 86) #[] #[]] 137)).alloc (.cells #[.string x.1, .string x.2] 98)) = w0 at *
 have l0 := L0.out.c0
 go_wp2_with fail
 refine (rclone51 xs a c n HX.out (by omega) HZ.out _ (HP.out.below HB0.out)).mono ?_
 rintro e w1 ⟨a1, c1, L, rfl, hL, ho, hb1⟩
 have HB1 : Hid (Below w.heap.size w w1) := HB0.out.trans (hb1.mono HB0.out.size)
 have L1 := hide (L0.out.below hb1)
 have X1 := hide (X0.out.below hb1)
 have HLL : Hid (L = xs.length) := hL
 have O1 : Hid (GOwn encR 98 w1 (w.heap.size + 1 + 1) (.slice a1 L c1) xs) := GOwn.mono ho HS0.out
 clear hb1 l0 L0 X0 HB0 hL ho HS0
 have l1 := L1.out.c1
 have x0 := X1.out.c0
 have x1 := X1.out.c1
 go_wp2_with fail
 refine (key48 x _).mono ?_
 rintro e w2 ⟨rfl, hb2⟩
 have HB2 : Hid (Below w.heap.size w w2) := HB1.out.trans (hb2.mono HB1.out.size)
 have L2 := hide (L1.out.below hb2)
 have X2 := hide (X1.out.below hb2)
 have O2 := hide (O1.out.below hb2)
 clear hb2 l1 x0 x1 L1 X1 HB1 O1
 have HB3 : Hid (Below w.heap.size w (w2.alloc (.cells #[.string x.1] 9))) := HB2.out.alloc HB2.out.size _
 have L3 : Hid (Bx (w2.alloc (.cells #[.string x.1] 9)) w.heap.size [.slice a n c, .func (.func 86) #[] #[]]) := L2.out.alloc _
 have X3 : Hid (Bx (w2.alloc (.cells #[.string x.1] 9)) (w.heap.size + 1) [.string x.1, .string x.2]) := X2.out.alloc _
 have K3 : Hid (Bx (w2.alloc (.cells #[.string x.1] 9)) w2.heap.size [.string x.1]) := Bx.new w2 [.string x.1] 9
 have O3 := hide (O2.out.alloc (.cells #[.string x.1] 9))
 have HAw : Hid (∀ g, (Value.slice a1 L c1).ownBlock = some g → g < w2.heap.size) := fun g h => (World.ownsRow.lt O2.out g h).2
 go_upto_region 3 with fail
 clear HB2 L2 X2 O2
 generalize (w2.alloc (.cells #[.string x.1] 9)) = w3 at *
 have l0 := L3.out.c0
 have l1 := L3.out.c1
 have k0 := K3.out.c0
 go_wp2_with fail
 refine (place52 xs a c n x.1 HX.out (by omega) _ (HP.out.below HB3.out)).mono ?_
 rintro e w4 ⟨rfl, hb4⟩
 have HB4 : Hid (Below w.heap.size w w4) := HB3.out.trans (hb4.mono HB3.out.size)
 have L4 := hide (L3.out.below hb4)
 have X4 := hide (X3.out.below hb4)
 have K4 := hide (K3.out.below hb4)
 have O4 := hide (O3.out.below hb4)
 clear hb4 l0 l1 k0 L3 X3 K3 HB3 O3
 rw [HE.out]
 have hLL := HLL.out
 subst hLL
 have hjl : (j : Int) < (xs.length : Int) := by omega
 obtain ⟨g, cap, hgv, hgb, hgl⟩ := World.ownsRow.form O4.out (by omega)
 simp only [Value.slice.injEq] at hgv
 obtain ⟨rfl, -, rfl⟩ := hgv
 have x0 := X4.out.c0
 have x1 := X4.out.c1
 have hlen := O4.out.1
 have hsz : encR.size = 2 := rfl
 rw [hsz] at hlen
 have q0 : w4.cell? ⟨g, j * 2, none⟩ = some ((encR.cells xs)[j * 2]'(by omega)) := by
  rw [World.ownsRow.cellAt O4.out (j * 2) (by rw [hsz]; omega)]; simp
 have q1 : w4.cell? ⟨g, j * 2 + 1, none⟩ = some ((encR.cells xs)[j * 2 + 1]'(by omega)) := by
  rw [World.ownsRow.cellAt O4.out (j * 2 + 1) (by rw [hsz]; omega)]; simp
 have g0 := World.ownsRow.frozenAt O4.out (j * 2)
 have g1 := World.ownsRow.frozenAt O4.out (j * 2 + 1)
 have hst := (World.ownsRow.stored (World.ownsRow.stored O4.out (j * 2) (.string x.1)).1 (j * 2 + 1) (.string x.2)).1
 rw [cells_set2 xs j hj x] at hst
 have O5 : Hid (GOwn encR 98 ((w4.setCell ⟨g, j * 2, none⟩ (.string x.1)).setCell ⟨g, j * 2 + 1, none⟩ (.string x.2)) w.heap.size (.slice (some ⟨g, 0, none⟩) xs.length c1) ys) := by
  show GOwn _ _ _ _ _ _
  rw [← HYS.out]
  refine GOwn.mono (base := w.heap.size + 1 + 1) ?_ (by omega)
  unfold GOwn
  rw [List.length_set]
  exact hst
 have HB5 : Hid (Below w.heap.size w ((w4.setCell ⟨g, j * 2, none⟩ (.string x.1)).setCell ⟨g, j * 2 + 1, none⟩ (.string x.2))) := (HB4.out.setCell (by show w.heap.size ≤ g; omega) _).setCell (by show w.heap.size ≤ g; omega) _
 have HYL : Hid (xs.length = ys.length) := by show _ = _; rw [← HYS.out, List.length_set]
 clear hst
 go_wp2
 go_ret
 exact ⟨some ⟨g, 0, none⟩, c1, xs.length, rfl, HYL.out, O5.out, HB5.out⟩
set_option maxRecDepth 100000 in
set_option maxHeartbeats 1000000 in
theorem with_in (xs : List Rg) (x : Rg) (ys : List Rg) (a : Option Addr) (c n : Nat) (hx : n = xs.length) (hn : n ≤ 4000000) (hz : a = none → n = 0 ∧ c = 0) (he : idxN (ckeysB xs) x.1 0 = -1) (j : Nat) (hj : j < xs.length) (hi : idxG xs x.1 0 = (j : Int)) (hys : insAt xs j x = ys) (w : World) (hp : GRow encR w a xs) :
  Calls Tryz.prog 71 #[.agg #[.slice a n c, .func (.func 86) #[] #[]], .agg #[.string x.1, .string x.2]] w fun e w' => ∃ (a1 : Option Addr) (c1 L : Nat), e = .returned (.slice a1 L c1) ∧ L = ys.length ∧ GOwn encR 98 w' w.heap.size (.slice a1 L c1) ys ∧ Below w.heap.size w w' := by
 have HE := hide he
 have HYS := hide hys
 clear he hys
 have HI := hide hi
 have hj0 : (0 : Int) ≤ (j : Int) := by omega
 clear hi
 have HP : Hid (GRow encR w a xs) := hp
 have HX : Hid (n = xs.length) := hx
 have HZ := hide hz
 have HB0 : Hid (Below w.heap.size w ((w.alloc (.cells #[.slice a n c, .func (.func 86) #[] #[]] 137)).alloc (.cells #[.string x.1, .string x.2] 98))) := ((belowRefl w).alloc (Nat.le_refl _) _).alloc (by simp) _
 have L0 : Hid (Bx ((w.alloc (.cells #[.slice a n c, .func (.func 86) #[] #[]] 137)).alloc (.cells #[.string x.1, .string x.2] 98)) w.heap.size [.slice a n c, .func (.func 86) #[] #[]]) := (Bx.new w [.slice a n c, .func (.func 86) #[] #[]] 137).alloc _
 have X0 : Hid (Bx ((w.alloc (.cells #[.slice a n c, .func (.func 86) #[] #[]] 137)).alloc (.cells #[.string x.1, .string x.2] 98)) (w.heap.size + 1) [.string x.1, .string x.2]) := by
  have h := Bx.new (w.alloc (.cells #[.slice a n c, .func (.func 86) #[] #[]] 137)) [.string x.1, .string x.2] 98
  rw [show (w.alloc (.cells #[.slice a n c, .func (.func 86) #[] #[]] 137)).heap.size = w.heap.size + 1 by simp] at h
  exact h
 have HS0 : Hid (w.heap.size + 1 + 1 ≤ ((w.alloc (.cells #[.slice a n c, .func (.func 86) #[] #[]] 137)).alloc (.cells #[.string x.1, .string x.2] 98)).heap.size) := by show _ ≤ _; simp
 clear hx hp hz
 go_enter Tryz.func71, Tryz.ntmps71
 go_upto_region 1 with fail
 generalize ((w.alloc (.cells #[.slice a n c, .func (.func 86) #[] #[]] 137)).alloc (.cells #[.string x.1, .string x.2] 98)) = w0 at *
 have l0 := L0.out.c0
 go_wp2_with fail
 refine (rclone51 xs a c n HX.out (by omega) HZ.out _ (HP.out.below HB0.out)).mono ?_
 rintro e w1 ⟨a1, c1, L, rfl, hL, ho, hb1⟩
 have HB1 : Hid (Below w.heap.size w w1) := HB0.out.trans (hb1.mono HB0.out.size)
 have L1 := hide (L0.out.below hb1)
 have X1 := hide (X0.out.below hb1)
 have HLL : Hid (L = xs.length) := hL
 have O1 : Hid (GOwn encR 98 w1 (w.heap.size + 1 + 1) (.slice a1 L c1) xs) := GOwn.mono ho HS0.out
 clear hb1 l0 L0 X0 HB0 hL ho HS0
 have l1 := L1.out.c1
 have x0 := X1.out.c0
 have x1 := X1.out.c1
 go_wp2_with fail
 refine (key48 x _).mono ?_
 rintro e w2 ⟨rfl, hb2⟩
 have HB2 : Hid (Below w.heap.size w w2) := HB1.out.trans (hb2.mono HB1.out.size)
 have L2 := hide (L1.out.below hb2)
 have X2 := hide (X1.out.below hb2)
 have O2 := hide (O1.out.below hb2)
 clear hb2 l1 x0 x1 L1 X1 HB1 O1
 have HB3 : Hid (Below w.heap.size w (w2.alloc (.cells #[.string x.1] 9))) := HB2.out.alloc HB2.out.size _
 have L3 : Hid (Bx (w2.alloc (.cells #[.string x.1] 9)) w.heap.size [.slice a n c, .func (.func 86) #[] #[]]) := L2.out.alloc _
 have X3 : Hid (Bx (w2.alloc (.cells #[.string x.1] 9)) (w.heap.size + 1) [.string x.1, .string x.2]) := X2.out.alloc _
 have K3 : Hid (Bx (w2.alloc (.cells #[.string x.1] 9)) w2.heap.size [.string x.1]) := Bx.new w2 [.string x.1] 9
 have O3 := hide (O2.out.alloc (.cells #[.string x.1] 9))
 have HAw : Hid (∀ g, (Value.slice a1 L c1).ownBlock = some g → g < w2.heap.size) := fun g h => (World.ownsRow.lt O2.out g h).2
 go_upto_region 3 with fail
 clear HB2 L2 X2 O2
 generalize (w2.alloc (.cells #[.string x.1] 9)) = w3 at *
 have l0 := L3.out.c0
 have l1 := L3.out.c1
 have k0 := K3.out.c0
 go_wp2_with fail
 refine (place52 xs a c n x.1 HX.out (by omega) _ (HP.out.below HB3.out)).mono ?_
 rintro e w4 ⟨rfl, hb4⟩
 have HB4 : Hid (Below w.heap.size w w4) := HB3.out.trans (hb4.mono HB3.out.size)
 have L4 := hide (L3.out.below hb4)
 have X4 := hide (X3.out.below hb4)
 have K4 := hide (K3.out.below hb4)
 have O4 := hide (O3.out.below hb4)
 clear hb4 l0 l1 k0 L3 X3 K3 HB3 O3
 rw [HE.out]
 have l0 := L4.out.c0
 have k0 := K4.out.c0
 have hr4 : Hid (GRow encR w4 a1 xs) := by have h := O4.out; rw [HLL.out] at h; exact h.grow
 go_wp2_with fail
 refine (idxF53 xs a1 c1 L x.1 (.slice a n c) w.heap.size w2.heap.size HLL.out (by have := HLL.out; have := HX.out; omega) _ hr4.out L4.out K4.out).mono ?_
 rintro e w5 ⟨rfl, hb5⟩
 have HB5 : Hid (Below w.heap.size w w5) := HB4.out.trans (hb5.mono HB4.out.size)
 have X5 := hide (X4.out.below hb5)
 have O5 := hide (O4.out.below hb5)
 have HAl : Hid (w2.heap.size ≤ w5.heap.size) := Nat.le_trans (Nat.le_of_lt K4.out.lt) hb5.size
 clear hb5 l0 k0 L4 X4 K4 HB4 O4 hr4
 rw [HI.out]
 have x0 := X5.out.c0
 have x1 := X5.out.c1
 have V6 : Hid (OneC (w5.alloc (.cells #[.string x.1, .string x.2] 98)) w5.heap.size x) := heap_alloc_new w5 _
 have hne : a1 ≠ some ⟨w5.heap.size, 0, none⟩ := fun e => by
  have h1 := HAw.out w5.heap.size (by rw [e]; rfl)
  have h2 := HAl.out
  omega
 have O6 := hide (O5.out.alloc (.cells #[.string x.1, .string x.2] 98))
 have HB6 : Hid (Below w.heap.size w (w5.alloc (.cells #[.string x.1, .string x.2] 98))) := HB5.out.alloc HB5.out.size _
 obtain ⟨LL, hLL⟩ : ∃ LL, LL = xs.length := ⟨_, rfl⟩
 have HLE : Hid (L = xs.length) := HLL.out
 have HC : Hid (∀ v, v = .slice a1 L c1 → Calls Tryz.prog 93 #[v, .int .i64 (j : Int), .slice (some ⟨w5.heap.size, 0, none⟩) 1 1] (w5.alloc (.cells #[.string x.1, .string x.2] 98)) fun e w' => ∃ a1 c1, e = .returned (.slice a1 (insAt xs j x).length c1) ∧ GOwn encR 98 w' (w.heap.size + 1 + 1) (.slice a1 (insAt xs j x).length c1) (insAt xs j x) ∧ Below (w.heap.size + 1 + 1) (w5.alloc (.cells #[.string x.1, .string x.2] 98)) w') := fun v hv => by
  rw [hv, HLE.out]
  exact insC xs x a1 c1 w5.heap.size (w.heap.size + 1 + 1) j (by have := HX.out; omega) (by first | exact Nat.le_refl _ | exact Nat.le_of_lt hj) _ (by have h := O6.out; rw [HLE.out] at h; exact h) (by have := HB5.out.size; have := X5.out.lt; simp; omega) V6.out hne
 go_wp2_with fail
 refine (HC.out _ rfl).mono ?_
 rintro e w7 ⟨a7, c7, rfl, ho7, hb7⟩
 have HB7 : Hid (Below w.heap.size w w7) := HB6.out.trans (hb7.mono (by omega))
 rw [HYS.out] at ho7 ⊢
 have O7 : Hid (GOwn encR 98 w7 w.heap.size (.slice a7 ys.length c7) ys) := GOwn.mono ho7 (by omega)
 obtain ⟨M, hM⟩ : ∃ M, M = ys.length := ⟨_, rfl⟩
 rw [← hM] at O7 ⊢
 have HM : Hid (M = ys.length) := hM
 clear hM ho7 hb7 hLL
 go_wp2
 go_ret
 exact ⟨a7, c7, M, rfl, HM.out, O7.out, HB7.out⟩
set_option maxRecDepth 100000 in
set_option maxHeartbeats 1000000 in
theorem with_end (xs : List Rg) (x : Rg) (ys : List Rg) (a : Option Addr) (c n : Nat) (hx : n = xs.length) (hn : n ≤ 4000000) (hz : a = none → n = 0 ∧ c = 0) (he : idxN (ckeysB xs) x.1 0 = -1) (hi : idxG xs x.1 0 = -1) (hys : insAt xs xs.length x = ys) (w : World) (hp : GRow encR w a xs) :
  Calls Tryz.prog 71 #[.agg #[.slice a n c, .func (.func 86) #[] #[]], .agg #[.string x.1, .string x.2]] w fun e w' => ∃ (a1 : Option Addr) (c1 L : Nat), e = .returned (.slice a1 L c1) ∧ L = ys.length ∧ GOwn encR 98 w' w.heap.size (.slice a1 L c1) ys ∧ Below w.heap.size w w' := by
 have HE := hide he
 have HYS := hide hys
 clear he hys
 have HI := hide hi
 clear hi
 have HP : Hid (GRow encR w a xs) := hp
 have HX : Hid (n = xs.length) := hx
 have HZ := hide hz
 have HB0 : Hid (Below w.heap.size w ((w.alloc (.cells #[.slice a n c, .func (.func 86) #[] #[]] 137)).alloc (.cells #[.string x.1, .string x.2] 98))) := ((belowRefl w).alloc (Nat.le_refl _) _).alloc (by simp) _
 have L0 : Hid (Bx ((w.alloc (.cells #[.slice a n c, .func (.func 86) #[] #[]] 137)).alloc (.cells #[.string x.1, .string x.2] 98)) w.heap.size [.slice a n c, .func (.func 86) #[] #[]]) := (Bx.new w [.slice a n c, .func (.func 86) #[] #[]] 137).alloc _
 have X0 : Hid (Bx ((w.alloc (.cells #[.slice a n c, .func (.func 86) #[] #[]] 137)).alloc (.cells #[.string x.1, .string x.2] 98)) (w.heap.size + 1) [.string x.1, .string x.2]) := by
  have h := Bx.new (w.alloc (.cells #[.slice a n c, .func (.func 86) #[] #[]] 137)) [.string x.1, .string x.2] 98
  rw [show (w.alloc (.cells #[.slice a n c, .func (.func 86) #[] #[]] 137)).heap.size = w.heap.size + 1 by simp] at h
  exact h
 have HS0 : Hid (w.heap.size + 1 + 1 ≤ ((w.alloc (.cells #[.slice a n c, .func (.func 86) #[] #[]] 137)).alloc (.cells #[.string x.1, .string x.2] 98)).heap.size) := by show _ ≤ _; simp
 clear hx hp hz
 go_enter Tryz.func71, Tryz.ntmps71
 go_upto_region 1 with fail
 generalize ((w.alloc (.cells #[.slice a n c, .func (.func 86) #[] #[]] 137)).alloc (.cells #[.string x.1, .string x.2] 98)) = w0 at *
 have l0 := L0.out.c0
 go_wp2_with fail
 refine (rclone51 xs a c n HX.out (by omega) HZ.out _ (HP.out.below HB0.out)).mono ?_
 rintro e w1 ⟨a1, c1, L, rfl, hL, ho, hb1⟩
 have HB1 : Hid (Below w.heap.size w w1) := HB0.out.trans (hb1.mono HB0.out.size)
 have L1 := hide (L0.out.below hb1)
 have X1 := hide (X0.out.below hb1)
 have HLL : Hid (L = xs.length) := hL
 have O1 : Hid (GOwn encR 98 w1 (w.heap.size + 1 + 1) (.slice a1 L c1) xs) := GOwn.mono ho HS0.out
 clear hb1 l0 L0 X0 HB0 hL ho HS0
 have l1 := L1.out.c1
 have x0 := X1.out.c0
 have x1 := X1.out.c1
 go_wp2_with fail
 refine (key48 x _).mono ?_
 rintro e w2 ⟨rfl, hb2⟩
 have HB2 : Hid (Below w.heap.size w w2) := HB1.out.trans (hb2.mono HB1.out.size)
 have L2 := hide (L1.out.below hb2)
 have X2 := hide (X1.out.below hb2)
 have O2 := hide (O1.out.below hb2)
 clear hb2 l1 x0 x1 L1 X1 HB1 O1
 have HB3 : Hid (Below w.heap.size w (w2.alloc (.cells #[.string x.1] 9))) := HB2.out.alloc HB2.out.size _
 have L3 : Hid (Bx (w2.alloc (.cells #[.string x.1] 9)) w.heap.size [.slice a n c, .func (.func 86) #[] #[]]) := L2.out.alloc _
 have X3 : Hid (Bx (w2.alloc (.cells #[.string x.1] 9)) (w.heap.size + 1) [.string x.1, .string x.2]) := X2.out.alloc _
 have K3 : Hid (Bx (w2.alloc (.cells #[.string x.1] 9)) w2.heap.size [.string x.1]) := Bx.new w2 [.string x.1] 9
 have O3 := hide (O2.out.alloc (.cells #[.string x.1] 9))
 have HAw : Hid (∀ g, (Value.slice a1 L c1).ownBlock = some g → g < w2.heap.size) := fun g h => (World.ownsRow.lt O2.out g h).2
 go_upto_region 3 with fail
 clear HB2 L2 X2 O2
 generalize (w2.alloc (.cells #[.string x.1] 9)) = w3 at *
 have l0 := L3.out.c0
 have l1 := L3.out.c1
 have k0 := K3.out.c0
 go_wp2_with fail
 refine (place52 xs a c n x.1 HX.out (by omega) _ (HP.out.below HB3.out)).mono ?_
 rintro e w4 ⟨rfl, hb4⟩
 have HB4 : Hid (Below w.heap.size w w4) := HB3.out.trans (hb4.mono HB3.out.size)
 have L4 := hide (L3.out.below hb4)
 have X4 := hide (X3.out.below hb4)
 have K4 := hide (K3.out.below hb4)
 have O4 := hide (O3.out.below hb4)
 clear hb4 l0 l1 k0 L3 X3 K3 HB3 O3
 rw [HE.out]
 have l0 := L4.out.c0
 have k0 := K4.out.c0
 have hr4 : Hid (GRow encR w4 a1 xs) := by have h := O4.out; rw [HLL.out] at h; exact h.grow
 go_wp2_with fail
 refine (idxF53 xs a1 c1 L x.1 (.slice a n c) w.heap.size w2.heap.size HLL.out (by have := HLL.out; have := HX.out; omega) _ hr4.out L4.out K4.out).mono ?_
 rintro e w5 ⟨rfl, hb5⟩
 have HB5 : Hid (Below w.heap.size w w5) := HB4.out.trans (hb5.mono HB4.out.size)
 have X5 := hide (X4.out.below hb5)
 have O5 := hide (O4.out.below hb5)
 have HAl : Hid (w2.heap.size ≤ w5.heap.size) := Nat.le_trans (Nat.le_of_lt K4.out.lt) hb5.size
 clear hb5 l0 k0 L4 X4 K4 HB4 O4 hr4
 rw [HI.out]
 have x0 := X5.out.c0
 have x1 := X5.out.c1
 have V6 : Hid (OneC (w5.alloc (.cells #[.string x.1, .string x.2] 98)) w5.heap.size x) := heap_alloc_new w5 _
 have hne : a1 ≠ some ⟨w5.heap.size, 0, none⟩ := fun e => by
  have h1 := HAw.out w5.heap.size (by rw [e]; rfl)
  have h2 := HAl.out
  omega
 have O6 := hide (O5.out.alloc (.cells #[.string x.1, .string x.2] 98))
 have HB6 : Hid (Below w.heap.size w (w5.alloc (.cells #[.string x.1, .string x.2] 98))) := HB5.out.alloc HB5.out.size _
 obtain ⟨LL, hLL⟩ : ∃ LL, LL = xs.length := ⟨_, rfl⟩
 have HLE : Hid (L = xs.length) := HLL.out
 have HC : Hid (∀ v, v = .slice a1 L c1 → Calls Tryz.prog 93 #[v, .int .i64 (L : Int), .slice (some ⟨w5.heap.size, 0, none⟩) 1 1] (w5.alloc (.cells #[.string x.1, .string x.2] 98)) fun e w' => ∃ a1 c1, e = .returned (.slice a1 (insAt xs xs.length x).length c1) ∧ GOwn encR 98 w' (w.heap.size + 1 + 1) (.slice a1 (insAt xs xs.length x).length c1) (insAt xs xs.length x) ∧ Below (w.heap.size + 1 + 1) (w5.alloc (.cells #[.string x.1, .string x.2] 98)) w') := fun v hv => by
  rw [hv, HLE.out]
  exact insC xs x a1 c1 w5.heap.size (w.heap.size + 1 + 1) xs.length (by have := HX.out; omega) (by first | exact Nat.le_refl _ | exact Nat.le_of_lt hj) _ (by have h := O6.out; rw [HLE.out] at h; exact h) (by have := HB5.out.size; have := X5.out.lt; simp; omega) V6.out hne
 go_wp2_with fail
 refine (HC.out _ rfl).mono ?_
 rintro e w7 ⟨a7, c7, rfl, ho7, hb7⟩
 have HB7 : Hid (Below w.heap.size w w7) := HB6.out.trans (hb7.mono (by omega))
 rw [HYS.out] at ho7 ⊢
 have O7 : Hid (GOwn encR 98 w7 w.heap.size (.slice a7 ys.length c7) ys) := GOwn.mono ho7 (by omega)
 obtain ⟨M, hM⟩ : ∃ M, M = ys.length := ⟨_, rfl⟩
 rw [← hM] at O7 ⊢
 have HM : Hid (M = ys.length) := hM
 clear hM ho7 hb7 hLL
 go_wp2
 go_ret
 exact ⟨a7, c7, M, rfl, HM.out, O7.out, HB7.out⟩
theorem iwith (xs : List Rg) (x : Wt) (hg : x.2.2 = false) (a : Option Addr) (c n : Nat) (hx : n = xs.length) (hn : n ≤ 4000000) (hz : a = none → n = 0 ∧ c = 0) (hasc : AscC xs) (w : World) (hp : GRow encR w a xs) :
  Calls Tryz.prog 71 #[.agg #[.slice a n c, .func (.func 86) #[] #[]], .agg #[.string x.1, .string x.2.1]] w fun e w' => ∃ (a1 : Option Addr) (c1 L : Nat), e = .returned (.slice a1 L c1) ∧ L = (putC xs x).length ∧ GOwn encR 98 w' w.heap.size (.slice a1 L c1) (putC xs x) ∧ Below w.heap.size w w' := by
 rcases idxN_spec (ckeysB xs) x.1 0 with ⟨j, hj, he, hs⟩ | ⟨he, hno⟩
 ·rw [ckeysB_len] at hj
  rw [Nat.zero_add] at he
  exact with_found xs (x.1, x.2.1) _ a c n hx hn hz j hj he (put_set hasc x hg hj hs) w hp
 ·rcases idxG_spec xs x.1 0 with ⟨j, hj, hi, h1, h2⟩ | ⟨hi, h1⟩
  ·rw [Nat.zero_add] at hi
   exact with_in xs (x.1, x.2.1) _ a c n hx hn hz he j hj hi (put_ins_first hasc x hg hno hj h1 h2) w hp
  ·exact with_end xs (x.1, x.2.1) _ a c n hx hn hz he hi (put_ins_end hasc x hg hno h1) w hp
end Go.Proofs.YtnmggknpllnjiaaGreat
