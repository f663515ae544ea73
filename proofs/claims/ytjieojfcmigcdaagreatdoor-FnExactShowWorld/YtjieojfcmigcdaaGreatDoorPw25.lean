/- An engine: its copy. -/
import Derived.Test.YtjieojfcmigcdaaGreatDoorPw20
import Derived.Deep.RegionHeld3
import Derived.Deep.Cut
import Derived.Deep.CutRange
namespace Go.Proofs.YtjieojfcmigcdaaGreatDoor
open Go.RowKit
open KM
attribute [local go_sem ↓] Go.wp_at_zero Go.wp_at_succ

set_option maxRecDepth 100000 in
set_option maxHeartbeats 4000000 in
theorem toE (e : En) (hf : EnFit e) (w : World) (hp : EnRows w e) :
  Calls Tryz.prog 22 #[.agg #[.slice e.b.va e.b.vs.length e.b.vc, .slice e.b.pa e.b.ps.length e.b.pc, .slice e.b.qa e.b.qs.length e.b.qc, .int .i64 e.b.cs, .int .i64 e.b.nx, .slice e.oa e.os.length e.oc]] w fun ex w' => ∃ c : En, ex = .returned (.agg #[.slice c.b.va c.b.vs.length c.b.vc, .slice c.b.pa c.b.ps.length c.b.pc, .slice c.b.qa c.b.qs.length c.b.qc, .int .i64 c.b.cs, .int .i64 c.b.nx, .slice c.oa c.os.length c.oc]) ∧ EnSame e c ∧ EnLie w' w.heap.size w'.heap.size c ∧ Below w.heap.size w w' := by
 have HP : Hid (EnRows w e) := hp
 have HF : Hid (EnFit e) := hf
 clear hp hf
 have BA0 : Hid (Bx (((w.alloc (.cells #[.slice e.b.va e.b.vs.length e.b.vc, .slice e.b.pa e.b.ps.length e.b.pc, .slice e.b.qa e.b.qs.length e.b.qc, .int .i64 e.b.cs, .int .i64 e.b.nx, .slice e.oa e.os.length e.oc] 27)).alloc (.cells #[.slice none 0 0, .slice none 0 0, .slice none 0 0, .int .i64 0, .int .i64 0, .slice none 0 0] 41)).alloc (.cells #[.slice none 0 0, .slice none 0 0, .slice none 0 0, .int .i64 0, .int .i64 0, .slice none 0 0] 41)) w.heap.size [.slice e.b.va e.b.vs.length e.b.vc, .slice e.b.pa e.b.ps.length e.b.pc, .slice e.b.qa e.b.qs.length e.b.qc, .int .i64 e.b.cs, .int .i64 e.b.nx, .slice e.oa e.os.length e.oc]) := ((Bx.new w [.slice e.b.va e.b.vs.length e.b.vc, .slice e.b.pa e.b.ps.length e.b.pc, .slice e.b.qa e.b.qs.length e.b.qc, .int .i64 e.b.cs, .int .i64 e.b.nx, .slice e.oa e.os.length e.oc] 27).alloc _).alloc _
 have BR0 : Hid (Bx (((w.alloc (.cells #[.slice e.b.va e.b.vs.length e.b.vc, .slice e.b.pa e.b.ps.length e.b.pc, .slice e.b.qa e.b.qs.length e.b.qc, .int .i64 e.b.cs, .int .i64 e.b.nx, .slice e.oa e.os.length e.oc] 27)).alloc (.cells #[.slice none 0 0, .slice none 0 0, .slice none 0 0, .int .i64 0, .int .i64 0, .slice none 0 0] 41)).alloc (.cells #[.slice none 0 0, .slice none 0 0, .slice none 0 0, .int .i64 0, .int .i64 0, .slice none 0 0] 41)) (w.heap.size + 1) [.slice none 0 0, .slice none 0 0, .slice none 0 0, .int .i64 0, .int .i64 0, .slice none 0 0]) := by
  have h := (Bx.new (w.alloc (.cells #[.slice e.b.va e.b.vs.length e.b.vc, .slice e.b.pa e.b.ps.length e.b.pc, .slice e.b.qa e.b.qs.length e.b.qc, .int .i64 e.b.cs, .int .i64 e.b.nx, .slice e.oa e.os.length e.oc] 27)) [.slice none 0 0, .slice none 0 0, .slice none 0 0, .int .i64 0, .int .i64 0, .slice none 0 0] 41).alloc (.cells #[.slice none 0 0, .slice none 0 0, .slice none 0 0, .int .i64 0, .int .i64 0, .slice none 0 0] 41)
  rw [World.size_alloc] at h
  exact h
 have BO0 : Hid (Bx (((w.alloc (.cells #[.slice e.b.va e.b.vs.length e.b.vc, .slice e.b.pa e.b.ps.length e.b.pc, .slice e.b.qa e.b.qs.length e.b.qc, .int .i64 e.b.cs, .int .i64 e.b.nx, .slice e.oa e.os.length e.oc] 27)).alloc (.cells #[.slice none 0 0, .slice none 0 0, .slice none 0 0, .int .i64 0, .int .i64 0, .slice none 0 0] 41)).alloc (.cells #[.slice none 0 0, .slice none 0 0, .slice none 0 0, .int .i64 0, .int .i64 0, .slice none 0 0] 41)) (w.heap.size + 1 + 1) [.slice none 0 0, .slice none 0 0, .slice none 0 0, .int .i64 0, .int .i64 0, .slice none 0 0]) := by
  have h := Bx.new ((w.alloc (.cells #[.slice e.b.va e.b.vs.length e.b.vc, .slice e.b.pa e.b.ps.length e.b.pc, .slice e.b.qa e.b.qs.length e.b.qc, .int .i64 e.b.cs, .int .i64 e.b.nx, .slice e.oa e.os.length e.oc] 27)).alloc (.cells #[.slice none 0 0, .slice none 0 0, .slice none 0 0, .int .i64 0, .int .i64 0, .slice none 0 0] 41)) [.slice none 0 0, .slice none 0 0, .slice none 0 0, .int .i64 0, .int .i64 0, .slice none 0 0] 41
  rw [World.size_alloc, World.size_alloc] at h
  exact h
 have HB0 : Hid (Below w.heap.size w (((w.alloc (.cells #[.slice e.b.va e.b.vs.length e.b.vc, .slice e.b.pa e.b.ps.length e.b.pc, .slice e.b.qa e.b.qs.length e.b.qc, .int .i64 e.b.cs, .int .i64 e.b.nx, .slice e.oa e.os.length e.oc] 27)).alloc (.cells #[.slice none 0 0, .slice none 0 0, .slice none 0 0, .int .i64 0, .int .i64 0, .slice none 0 0] 41)).alloc (.cells #[.slice none 0 0, .slice none 0 0, .slice none 0 0, .int .i64 0, .int .i64 0, .slice none 0 0] 41))) := (((belowRefl w).alloc (Nat.le_refl _) _).alloc (by simp) _).alloc (by simp; omega) _
 have S0 : Hid ((((w.alloc (.cells #[.slice e.b.va e.b.vs.length e.b.vc, .slice e.b.pa e.b.ps.length e.b.pc, .slice e.b.qa e.b.qs.length e.b.qc, .int .i64 e.b.cs, .int .i64 e.b.nx, .slice e.oa e.os.length e.oc] 27)).alloc (.cells #[.slice none 0 0, .slice none 0 0, .slice none 0 0, .int .i64 0, .int .i64 0, .slice none 0 0] 41)).alloc (.cells #[.slice none 0 0, .slice none 0 0, .slice none 0 0, .int .i64 0, .int .i64 0, .slice none 0 0] 41)).heap.size = w.heap.size + 1 + 1 + 1) := by show _ = _; simp
 have HSZ : Hid (w.heap.size + 1 + 1 + 1 ≤ (((w.alloc (.cells #[.slice e.b.va e.b.vs.length e.b.vc, .slice e.b.pa e.b.ps.length e.b.pc, .slice e.b.qa e.b.qs.length e.b.qc, .int .i64 e.b.cs, .int .i64 e.b.nx, .slice e.oa e.os.length e.oc] 27)).alloc (.cells #[.slice none 0 0, .slice none 0 0, .slice none 0 0, .int .i64 0, .int .i64 0, .slice none 0 0] 41)).alloc (.cells #[.slice none 0 0, .slice none 0 0, .slice none 0 0, .int .i64 0, .int .i64 0, .slice none 0 0] 41)).heap.size) := by show _ ≤ _; rw [S0.out]; exact Nat.le_refl _
 have CB : Hid (∀ W : World, Below w.heap.size w W → Calls Tryz.prog 44 #[.agg #[.slice e.b.va e.b.vs.length e.b.vc, .slice e.b.pa e.b.ps.length e.b.pc, .slice e.b.qa e.b.qs.length e.b.qc, .int .i64 e.b.cs, .int .i64 e.b.nx]] W fun ex w' => ∃ c : Bb, ex = .returned (.agg #[.slice c.va c.vs.length c.vc, .slice c.pa c.ps.length c.pc, .slice c.qa c.qs.length c.qc, .int .i64 c.cs, .int .i64 c.nx]) ∧ BSame e.b c ∧ BLie w' W.heap.size w'.heap.size c ∧ Below W.heap.size W w') := fun W h => toB e.b HF.out.b W (HP.out.b.below h)
 have CO : Hid (∀ W : World, Below w.heap.size w W → Calls Tryz.prog 31 #[.slice e.oa e.os.length e.oc] W fun ex w' => ∃ (ys : List Ta) (a1 : Option Addr) (c1 : Nat), ex = .returned (.slice a1 e.os.length c1) ∧ txs ys = txs e.os ∧ ys.length = e.os.length ∧ LLie w' W.heap.size w'.heap.size (.slice a1 ys.length c1) ys ∧ Below W.heap.size W w') := fun W h => toL2 e.os e.oa e.oc (Nat.le_trans HF.out.ol (by omega)) HF.out.o W (HP.out.o.below h)
 clear HP HF S0
 go_enter Tryz.func22, Tryz.ntmps22
 go_upto_region 2 with fail
 generalize (((w.alloc (.cells #[.slice e.b.va e.b.vs.length e.b.vc, .slice e.b.pa e.b.ps.length e.b.pc, .slice e.b.qa e.b.qs.length e.b.qc, .int .i64 e.b.cs, .int .i64 e.b.nx, .slice e.oa e.os.length e.oc] 27)).alloc (.cells #[.slice none 0 0, .slice none 0 0, .slice none 0 0, .int .i64 0, .int .i64 0, .slice none 0 0] 41)).alloc (.cells #[.slice none 0 0, .slice none 0 0, .slice none 0 0, .int .i64 0, .int .i64 0, .slice none 0 0] 41)) = w0 at *
 have x0 := BA0.out.c0
 have fx0 := BA0.out.fz 0
 have x1 := BA0.out.c1
 have fx1 := BA0.out.fz 1
 have x2 := BA0.out.c2
 have fx2 := BA0.out.fz 2
 have x3 := BA0.out.c3
 have fx3 := BA0.out.fz 3
 have x4 := BA0.out.c4
 have fx4 := BA0.out.fz 4
 go_wp2_with fail
 refine (CB.out _ HB0.out).mono ?_
 rintro ex w1 ⟨c, rfl, hsm, ho, hb⟩
 have BA1 : Hid (Bx w1 w.heap.size [.slice e.b.va e.b.vs.length e.b.vc, .slice e.b.pa e.b.ps.length e.b.pc, .slice e.b.qa e.b.qs.length e.b.qc, .int .i64 e.b.cs, .int .i64 e.b.nx, .slice e.oa e.os.length e.oc]) := BA0.out.below hb
 have BR1 : Hid (Bx w1 (w.heap.size + 1) [.slice none 0 0, .slice none 0 0, .slice none 0 0, .int .i64 0, .int .i64 0, .slice none 0 0]) := BR0.out.below hb
 have BO1 : Hid (Bx w1 (w.heap.size + 1 + 1) [.slice none 0 0, .slice none 0 0, .slice none 0 0, .int .i64 0, .int .i64 0, .slice none 0 0]) := BO0.out.below hb
 have HB1 : Hid (Below w.heap.size w w1) := HB0.out.trans (hb.mono HB0.out.size)
 have Y1 : Hid (w0.heap.size ≤ w1.heap.size) := hb.size
 have R1 : Hid (BLie w1 w0.heap.size w1.heap.size c) := ho
 have SM := hide hsm
 clear ho hb hsm BA0 BR0 BO0 HB0
 clear x0 fx0 x1 fx1 x2 fx2 x3 fx3 x4 fx4
 have o0 := BO1.out.c0
 have fo0 := BO1.out.fz 0
 have o1 := BO1.out.c1
 have fo1 := BO1.out.fz 1
 have o2 := BO1.out.c2
 have fo2 := BO1.out.fz 2
 have o3 := BO1.out.c3
 have fo3 := BO1.out.fz 3
 have o4 := BO1.out.c4
 have fo4 := BO1.out.fz 4
 go_upto_region 3 with fail
 clear o0 fo0 o1 fo1 o2 fo2 o3 fo3 o4 fo4
 replace BA1 : Hid (Bx (((((w1.setCell ⟨w.heap.size + 1 + 1, 0, none⟩ (.slice c.va c.vs.length c.vc)).setCell ⟨w.heap.size + 1 + 1, 1, none⟩ (.slice c.pa c.ps.length c.pc)).setCell ⟨w.heap.size + 1 + 1, 2, none⟩ (.slice c.qa c.qs.length c.qc)).setCell ⟨w.heap.size + 1 + 1, 3, none⟩ (.int .i64 c.cs)).setCell ⟨w.heap.size + 1 + 1, 4, none⟩ (.int .i64 c.nx)) w.heap.size [.slice e.b.va e.b.vs.length e.b.vc, .slice e.b.pa e.b.ps.length e.b.pc, .slice e.b.qa e.b.qs.length e.b.qc, .int .i64 e.b.cs, .int .i64 e.b.nx, .slice e.oa e.os.length e.oc]) := ((((BA1.out.setO (p := ⟨w.heap.size + 1 + 1, 0, none⟩) (by show w.heap.size + 1 + 1 ≠ w.heap.size; omega) _).setO (p := ⟨w.heap.size + 1 + 1, 1, none⟩) (by show w.heap.size + 1 + 1 ≠ w.heap.size; omega) _).setO (p := ⟨w.heap.size + 1 + 1, 2, none⟩) (by show w.heap.size + 1 + 1 ≠ w.heap.size; omega) _).setO (p := ⟨w.heap.size + 1 + 1, 3, none⟩) (by show w.heap.size + 1 + 1 ≠ w.heap.size; omega) _).setO (p := ⟨w.heap.size + 1 + 1, 4, none⟩) (by show w.heap.size + 1 + 1 ≠ w.heap.size; omega) _
 replace BR1 : Hid (Bx (((((w1.setCell ⟨w.heap.size + 1 + 1, 0, none⟩ (.slice c.va c.vs.length c.vc)).setCell ⟨w.heap.size + 1 + 1, 1, none⟩ (.slice c.pa c.ps.length c.pc)).setCell ⟨w.heap.size + 1 + 1, 2, none⟩ (.slice c.qa c.qs.length c.qc)).setCell ⟨w.heap.size + 1 + 1, 3, none⟩ (.int .i64 c.cs)).setCell ⟨w.heap.size + 1 + 1, 4, none⟩ (.int .i64 c.nx)) (w.heap.size + 1) [.slice none 0 0, .slice none 0 0, .slice none 0 0, .int .i64 0, .int .i64 0, .slice none 0 0]) := ((((BR1.out.setO (p := ⟨w.heap.size + 1 + 1, 0, none⟩) (by show w.heap.size + 1 + 1 ≠ w.heap.size + 1; omega) _).setO (p := ⟨w.heap.size + 1 + 1, 1, none⟩) (by show w.heap.size + 1 + 1 ≠ w.heap.size + 1; omega) _).setO (p := ⟨w.heap.size + 1 + 1, 2, none⟩) (by show w.heap.size + 1 + 1 ≠ w.heap.size + 1; omega) _).setO (p := ⟨w.heap.size + 1 + 1, 3, none⟩) (by show w.heap.size + 1 + 1 ≠ w.heap.size + 1; omega) _).setO (p := ⟨w.heap.size + 1 + 1, 4, none⟩) (by show w.heap.size + 1 + 1 ≠ w.heap.size + 1; omega) _
 replace BO1 : Hid (Bx (((((w1.setCell ⟨w.heap.size + 1 + 1, 0, none⟩ (.slice c.va c.vs.length c.vc)).setCell ⟨w.heap.size + 1 + 1, 1, none⟩ (.slice c.pa c.ps.length c.pc)).setCell ⟨w.heap.size + 1 + 1, 2, none⟩ (.slice c.qa c.qs.length c.qc)).setCell ⟨w.heap.size + 1 + 1, 3, none⟩ (.int .i64 c.cs)).setCell ⟨w.heap.size + 1 + 1, 4, none⟩ (.int .i64 c.nx)) (w.heap.size + 1 + 1) [.slice c.va c.vs.length c.vc, .slice c.pa c.ps.length c.pc, .slice c.qa c.qs.length c.qc, .int .i64 c.cs, .int .i64 c.nx, .slice none 0 0]) := ((((BO1.out.set 0 _).set 1 _).set 2 _).set 3 _).set 4 _
 replace HB1 : Hid (Below w.heap.size w (((((w1.setCell ⟨w.heap.size + 1 + 1, 0, none⟩ (.slice c.va c.vs.length c.vc)).setCell ⟨w.heap.size + 1 + 1, 1, none⟩ (.slice c.pa c.ps.length c.pc)).setCell ⟨w.heap.size + 1 + 1, 2, none⟩ (.slice c.qa c.qs.length c.qc)).setCell ⟨w.heap.size + 1 + 1, 3, none⟩ (.int .i64 c.cs)).setCell ⟨w.heap.size + 1 + 1, 4, none⟩ (.int .i64 c.nx))) := ((((HB1.out.setCell (p := ⟨w.heap.size + 1 + 1, 0, none⟩) (by show _ ≤ _ + 1 + 1; omega) _).setCell (p := ⟨w.heap.size + 1 + 1, 1, none⟩) (by show _ ≤ _ + 1 + 1; omega) _).setCell (p := ⟨w.heap.size + 1 + 1, 2, none⟩) (by show _ ≤ _ + 1 + 1; omega) _).setCell (p := ⟨w.heap.size + 1 + 1, 3, none⟩) (by show _ ≤ _ + 1 + 1; omega) _).setCell (p := ⟨w.heap.size + 1 + 1, 4, none⟩) (by show _ ≤ _ + 1 + 1; omega) _
 replace R1 : Hid (BLie (((((w1.setCell ⟨w.heap.size + 1 + 1, 0, none⟩ (.slice c.va c.vs.length c.vc)).setCell ⟨w.heap.size + 1 + 1, 1, none⟩ (.slice c.pa c.ps.length c.pc)).setCell ⟨w.heap.size + 1 + 1, 2, none⟩ (.slice c.qa c.qs.length c.qc)).setCell ⟨w.heap.size + 1 + 1, 3, none⟩ (.int .i64 c.cs)).setCell ⟨w.heap.size + 1 + 1, 4, none⟩ (.int .i64 c.nx)) w0.heap.size w1.heap.size c) := ((((R1.out.set (a := ⟨w.heap.size + 1 + 1, 0, none⟩) (by have := HSZ.out; show w.heap.size + 1 + 1 < _; omega) _).set (a := ⟨w.heap.size + 1 + 1, 1, none⟩) (by have := HSZ.out; show w.heap.size + 1 + 1 < _; omega) _).set (a := ⟨w.heap.size + 1 + 1, 2, none⟩) (by have := HSZ.out; show w.heap.size + 1 + 1 < _; omega) _).set (a := ⟨w.heap.size + 1 + 1, 3, none⟩) (by have := HSZ.out; show w.heap.size + 1 + 1 < _; omega) _).set (a := ⟨w.heap.size + 1 + 1, 4, none⟩) (by have := HSZ.out; show w.heap.size + 1 + 1 < _; omega) _
 have YGv1 : Hid (w1.heap.size ≤ (((((w1.setCell ⟨w.heap.size + 1 + 1, 0, none⟩ (.slice c.va c.vs.length c.vc)).setCell ⟨w.heap.size + 1 + 1, 1, none⟩ (.slice c.pa c.ps.length c.pc)).setCell ⟨w.heap.size + 1 + 1, 2, none⟩ (.slice c.qa c.qs.length c.qc)).setCell ⟨w.heap.size + 1 + 1, 3, none⟩ (.int .i64 c.cs)).setCell ⟨w.heap.size + 1 + 1, 4, none⟩ (.int .i64 c.nx)).heap.size) := by show _ ≤ _; simp [World.setCell]
 generalize (((((w1.setCell ⟨w.heap.size + 1 + 1, 0, none⟩ (.slice c.va c.vs.length c.vc)).setCell ⟨w.heap.size + 1 + 1, 1, none⟩ (.slice c.pa c.ps.length c.pc)).setCell ⟨w.heap.size + 1 + 1, 2, none⟩ (.slice c.qa c.qs.length c.qc)).setCell ⟨w.heap.size + 1 + 1, 3, none⟩ (.int .i64 c.cs)).setCell ⟨w.heap.size + 1 + 1, 4, none⟩ (.int .i64 c.nx)) = v1 at *
 have LZ1 : Hid (w.heap.size + 1 + 1 + 1 ≤ v1.heap.size) := by show _ ≤ _; have := HSZ.out; have := Y1.out; have := YGv1.out; omega
 have x5 := BA1.out.c5
 have fx5 := BA1.out.fz 5
 go_wp2_with fail
 refine (CO.out _ HB1.out).mono ?_
 rintro ex w2 ⟨ys, oa1, oc1, rfl, ht, hl, ho, hb⟩
 have BA2 : Hid (Bx w2 w.heap.size [.slice e.b.va e.b.vs.length e.b.vc, .slice e.b.pa e.b.ps.length e.b.pc, .slice e.b.qa e.b.qs.length e.b.qc, .int .i64 e.b.cs, .int .i64 e.b.nx, .slice e.oa e.os.length e.oc]) := BA1.out.below hb
 have BR2 : Hid (Bx w2 (w.heap.size + 1) [.slice none 0 0, .slice none 0 0, .slice none 0 0, .int .i64 0, .int .i64 0, .slice none 0 0]) := BR1.out.below hb
 have BO2 : Hid (Bx w2 (w.heap.size + 1 + 1) [.slice c.va c.vs.length c.vc, .slice c.pa c.ps.length c.pc, .slice c.qa c.qs.length c.qc, .int .i64 c.cs, .int .i64 c.nx, .slice none 0 0]) := BO1.out.below hb
 have HB2 : Hid (Below w.heap.size w w2) := HB1.out.trans (hb.mono HB1.out.size)
 have Y2 : Hid (v1.heap.size ≤ w2.heap.size) := hb.size
 replace R1 : Hid (BLie w2 w0.heap.size w1.heap.size c) := R1.out.below hb
 have R2 : Hid (LLie w2 v1.heap.size w2.heap.size (.slice oa1 ys.length oc1) ys) := ho
 have HT := hide ht
 have HL := hide hl
 clear ho hb ht hl BA1 BR1 BO1 HB1
 clear x5 fx5
 have o5 := BO2.out.c5
 have fo5 := BO2.out.fz 5
 go_upto_region 4 with fail
 clear o5 fo5
 replace BA2 : Hid (Bx (w2.setCell ⟨w.heap.size + 1 + 1, 5, none⟩ (.slice oa1 e.os.length oc1)) w.heap.size [.slice e.b.va e.b.vs.length e.b.vc, .slice e.b.pa e.b.ps.length e.b.pc, .slice e.b.qa e.b.qs.length e.b.qc, .int .i64 e.b.cs, .int .i64 e.b.nx, .slice e.oa e.os.length e.oc]) := BA2.out.setO (p := ⟨w.heap.size + 1 + 1, 5, none⟩) (by show w.heap.size + 1 + 1 ≠ w.heap.size; omega) _
 replace BR2 : Hid (Bx (w2.setCell ⟨w.heap.size + 1 + 1, 5, none⟩ (.slice oa1 e.os.length oc1)) (w.heap.size + 1) [.slice none 0 0, .slice none 0 0, .slice none 0 0, .int .i64 0, .int .i64 0, .slice none 0 0]) := BR2.out.setO (p := ⟨w.heap.size + 1 + 1, 5, none⟩) (by show w.heap.size + 1 + 1 ≠ w.heap.size + 1; omega) _
 replace BO2 : Hid (Bx (w2.setCell ⟨w.heap.size + 1 + 1, 5, none⟩ (.slice oa1 e.os.length oc1)) (w.heap.size + 1 + 1) [.slice c.va c.vs.length c.vc, .slice c.pa c.ps.length c.pc, .slice c.qa c.qs.length c.qc, .int .i64 c.cs, .int .i64 c.nx, .slice oa1 e.os.length oc1]) := BO2.out.set 5 _
 replace HB2 : Hid (Below w.heap.size w (w2.setCell ⟨w.heap.size + 1 + 1, 5, none⟩ (.slice oa1 e.os.length oc1))) := HB2.out.setCell (p := ⟨w.heap.size + 1 + 1, 5, none⟩) (by show _ ≤ _ + 1 + 1; omega) _
 replace R1 : Hid (BLie (w2.setCell ⟨w.heap.size + 1 + 1, 5, none⟩ (.slice oa1 e.os.length oc1)) w0.heap.size w1.heap.size c) := R1.out.set (a := ⟨w.heap.size + 1 + 1, 5, none⟩) (by have := HSZ.out; show w.heap.size + 1 + 1 < _; omega) _
 replace R2 : Hid (LLie (w2.setCell ⟨w.heap.size + 1 + 1, 5, none⟩ (.slice oa1 e.os.length oc1)) v1.heap.size w2.heap.size (.slice oa1 ys.length oc1) ys) := R2.out.set (a := ⟨w.heap.size + 1 + 1, 5, none⟩) (by have := LZ1.out; show w.heap.size + 1 + 1 < _; omega) _
 have YGv2 : Hid (w2.heap.size ≤ (w2.setCell ⟨w.heap.size + 1 + 1, 5, none⟩ (.slice oa1 e.os.length oc1)).heap.size) := by show _ ≤ _; simp [World.setCell]
 generalize (w2.setCell ⟨w.heap.size + 1 + 1, 5, none⟩ (.slice oa1 e.os.length oc1)) = v2 at *
 have HE : Hid (EnLie v2 (w.heap.size + 1 + 1 + 1) v2.heap.size ⟨c, ys, oa1, oc1⟩) := ⟨v1.heap.size, LZ1.out, by have := Y2.out; have := YGv2.out; omega, R1.out.mono HSZ.out (by have := YGv1.out; omega), R2.out.mono (Nat.le_refl _) YGv2.out⟩
 have HSM : Hid (EnSame e ⟨c, ys, oa1, oc1⟩) := ⟨SM.out, HT.out⟩
 clear R1 R2 SM HT
 have o0 := BO2.out.c0
 have fo0 := BO2.out.fz 0
 have o1 := BO2.out.c1
 have fo1 := BO2.out.fz 1
 have o2 := BO2.out.c2
 have fo2 := BO2.out.fz 2
 have o3 := BO2.out.c3
 have fo3 := BO2.out.fz 3
 have o4 := BO2.out.c4
 have fo4 := BO2.out.fz 4
 have o5 := BO2.out.c5
 have fo5 := BO2.out.fz 5
 have q0 := BR2.out.c0
 have fq0 := BR2.out.fz 0
 have q1 := BR2.out.c1
 have fq1 := BR2.out.fz 1
 have q2 := BR2.out.c2
 have fq2 := BR2.out.fz 2
 have q3 := BR2.out.c3
 have fq3 := BR2.out.fz 3
 have q4 := BR2.out.c4
 have fq4 := BR2.out.fz 4
 have q5 := BR2.out.c5
 have fq5 := BR2.out.fz 5
 go_wp2
 refine bodyPost_ret (v := .agg #[.slice c.va c.vs.length c.vc, .slice c.pa c.ps.length c.pc, .slice c.qa c.qs.length c.qc, .int .i64 c.cs, .int .i64 c.nx, .slice oa1 e.os.length oc1]) (by simp [results, Tryz.results22, go_sem, q0, q1, q2, q3, q4, q5]) rfl ⟨⟨c, ys, oa1, oc1⟩, by rw [← HL.out], HSM.out, ?_, ?_⟩
 ·exact (((((((HE.out.set (a := ⟨w.heap.size + 1, 0, none⟩) (by show _ + 1 < _; omega) _).set (a := ⟨w.heap.size + 1, 1, none⟩) (by show _ + 1 < _; omega) _).set (a := ⟨w.heap.size + 1, 2, none⟩) (by show _ + 1 < _; omega) _).set (a := ⟨w.heap.size + 1, 3, none⟩) (by show _ + 1 < _; omega) _).set (a := ⟨w.heap.size + 1, 4, none⟩) (by show _ + 1 < _; omega) _).set (a := ⟨w.heap.size + 1, 5, none⟩) (by show _ + 1 < _; omega) _).mono (by omega) (by simp [World.setCell]))
 ·exact (((((HB2.out.setCell (p := ⟨w.heap.size + 1, 0, none⟩) (by show _ ≤ _ + 1; omega) _).setCell (p := ⟨w.heap.size + 1, 1, none⟩) (by show _ ≤ _ + 1; omega) _).setCell (p := ⟨w.heap.size + 1, 2, none⟩) (by show _ ≤ _ + 1; omega) _).setCell (p := ⟨w.heap.size + 1, 3, none⟩) (by show _ ≤ _ + 1; omega) _).setCell (p := ⟨w.heap.size + 1, 4, none⟩) (by show _ ≤ _ + 1; omega) _).setCell (p := ⟨w.heap.size + 1, 5, none⟩) (by show _ ≤ _ + 1; omega) _

end Go.Proofs.YtjieojfcmigcdaaGreatDoor
