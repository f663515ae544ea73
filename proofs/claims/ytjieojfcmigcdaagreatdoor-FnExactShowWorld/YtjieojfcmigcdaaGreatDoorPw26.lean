/- A store: its copy. -/
import Derived.Test.YtjieojfcmigcdaaGreatDoorPw22
import Derived.Test.YtjieojfcmigcdaaGreatDoorPw25
import Derived.Deep.RegionHeld3
import Derived.Deep.Cut
import Derived.Deep.CutRange
namespace Go.Proofs.YtjieojfcmigcdaaGreatDoor
open Go.RowKit
open KM
attribute [local go_sem ↓] Go.wp_at_zero Go.wp_at_succ

set_option maxRecDepth 100000 in
set_option maxHeartbeats 4000000 in
theorem toS (s : St) (hf : StFit s) (w : World) (hp : StRows w s) :
  Calls Tryz.prog 7 #[.agg #[.slice s.e.b.va s.e.b.vs.length s.e.b.vc, .slice s.e.b.pa s.e.b.ps.length s.e.b.pc, .slice s.e.b.qa s.e.b.qs.length s.e.b.qc, .int .i64 s.e.b.cs, .int .i64 s.e.b.nx, .slice s.e.oa s.e.os.length s.e.oc, .slice s.d.sa s.d.ss.length s.d.sc, .slice s.d.pa s.d.ps.length s.d.pc]] w fun ex w' => ∃ c : St, ex = .returned (.agg #[.slice c.e.b.va c.e.b.vs.length c.e.b.vc, .slice c.e.b.pa c.e.b.ps.length c.e.b.pc, .slice c.e.b.qa c.e.b.qs.length c.e.b.qc, .int .i64 c.e.b.cs, .int .i64 c.e.b.nx, .slice c.e.oa c.e.os.length c.e.oc, .slice c.d.sa c.d.ss.length c.d.sc, .slice c.d.pa c.d.ps.length c.d.pc]) ∧ StSame s c ∧ StLie w' w.heap.size w'.heap.size c ∧ Below w.heap.size w w' := by
 have HP : Hid (StRows w s) := hp
 have HF : Hid (StFit s) := hf
 clear hp hf
 have BA0 : Hid (Bx (((w.alloc (.cells #[.slice s.e.b.va s.e.b.vs.length s.e.b.vc, .slice s.e.b.pa s.e.b.ps.length s.e.b.pc, .slice s.e.b.qa s.e.b.qs.length s.e.b.qc, .int .i64 s.e.b.cs, .int .i64 s.e.b.nx, .slice s.e.oa s.e.os.length s.e.oc, .slice s.d.sa s.d.ss.length s.d.sc, .slice s.d.pa s.d.ps.length s.d.pc] 33)).alloc (.cells #[.slice none 0 0, .slice none 0 0, .slice none 0 0, .int .i64 0, .int .i64 0, .slice none 0 0, .slice none 0 0, .slice none 0 0] 46)).alloc (.cells #[.slice none 0 0, .slice none 0 0, .slice none 0 0, .int .i64 0, .int .i64 0, .slice none 0 0, .slice none 0 0, .slice none 0 0] 46)) w.heap.size [.slice s.e.b.va s.e.b.vs.length s.e.b.vc, .slice s.e.b.pa s.e.b.ps.length s.e.b.pc, .slice s.e.b.qa s.e.b.qs.length s.e.b.qc, .int .i64 s.e.b.cs, .int .i64 s.e.b.nx, .slice s.e.oa s.e.os.length s.e.oc, .slice s.d.sa s.d.ss.length s.d.sc, .slice s.d.pa s.d.ps.length s.d.pc]) := ((Bx.new w [.slice s.e.b.va s.e.b.vs.length s.e.b.vc, .slice s.e.b.pa s.e.b.ps.length s.e.b.pc, .slice s.e.b.qa s.e.b.qs.length s.e.b.qc, .int .i64 s.e.b.cs, .int .i64 s.e.b.nx, .slice s.e.oa s.e.os.length s.e.oc, .slice s.d.sa s.d.ss.length s.d.sc, .slice s.d.pa s.d.ps.length s.d.pc] 33).alloc _).alloc _
 have BR0 : Hid (Bx (((w.alloc (.cells #[.slice s.e.b.va s.e.b.vs.length s.e.b.vc, .slice s.e.b.pa s.e.b.ps.length s.e.b.pc, .slice s.e.b.qa s.e.b.qs.length s.e.b.qc, .int .i64 s.e.b.cs, .int .i64 s.e.b.nx, .slice s.e.oa s.e.os.length s.e.oc, .slice s.d.sa s.d.ss.length s.d.sc, .slice s.d.pa s.d.ps.length s.d.pc] 33)).alloc (.cells #[.slice none 0 0, .slice none 0 0, .slice none 0 0, .int .i64 0, .int .i64 0, .slice none 0 0, .slice none 0 0, .slice none 0 0] 46)).alloc (.cells #[.slice none 0 0, .slice none 0 0, .slice none 0 0, .int .i64 0, .int .i64 0, .slice none 0 0, .slice none 0 0, .slice none 0 0] 46)) (w.heap.size + 1) [.slice none 0 0, .slice none 0 0, .slice none 0 0, .int .i64 0, .int .i64 0, .slice none 0 0, .slice none 0 0, .slice none 0 0]) := by
  have h := (Bx.new (w.alloc (.cells #[.slice s.e.b.va s.e.b.vs.length s.e.b.vc, .slice s.e.b.pa s.e.b.ps.length s.e.b.pc, .slice s.e.b.qa s.e.b.qs.length s.e.b.qc, .int .i64 s.e.b.cs, .int .i64 s.e.b.nx, .slice s.e.oa s.e.os.length s.e.oc, .slice s.d.sa s.d.ss.length s.d.sc, .slice s.d.pa s.d.ps.length s.d.pc] 33)) [.slice none 0 0, .slice none 0 0, .slice none 0 0, .int .i64 0, .int .i64 0, .slice none 0 0, .slice none 0 0, .slice none 0 0] 46).alloc (.cells #[.slice none 0 0, .slice none 0 0, .slice none 0 0, .int .i64 0, .int .i64 0, .slice none 0 0, .slice none 0 0, .slice none 0 0] 46)
  rw [World.size_alloc] at h
  exact h
 have BO0 : Hid (Bx (((w.alloc (.cells #[.slice s.e.b.va s.e.b.vs.length s.e.b.vc, .slice s.e.b.pa s.e.b.ps.length s.e.b.pc, .slice s.e.b.qa s.e.b.qs.length s.e.b.qc, .int .i64 s.e.b.cs, .int .i64 s.e.b.nx, .slice s.e.oa s.e.os.length s.e.oc, .slice s.d.sa s.d.ss.length s.d.sc, .slice s.d.pa s.d.ps.length s.d.pc] 33)).alloc (.cells #[.slice none 0 0, .slice none 0 0, .slice none 0 0, .int .i64 0, .int .i64 0, .slice none 0 0, .slice none 0 0, .slice none 0 0] 46)).alloc (.cells #[.slice none 0 0, .slice none 0 0, .slice none 0 0, .int .i64 0, .int .i64 0, .slice none 0 0, .slice none 0 0, .slice none 0 0] 46)) (w.heap.size + 1 + 1) [.slice none 0 0, .slice none 0 0, .slice none 0 0, .int .i64 0, .int .i64 0, .slice none 0 0, .slice none 0 0, .slice none 0 0]) := by
  have h := Bx.new ((w.alloc (.cells #[.slice s.e.b.va s.e.b.vs.length s.e.b.vc, .slice s.e.b.pa s.e.b.ps.length s.e.b.pc, .slice s.e.b.qa s.e.b.qs.length s.e.b.qc, .int .i64 s.e.b.cs, .int .i64 s.e.b.nx, .slice s.e.oa s.e.os.length s.e.oc, .slice s.d.sa s.d.ss.length s.d.sc, .slice s.d.pa s.d.ps.length s.d.pc] 33)).alloc (.cells #[.slice none 0 0, .slice none 0 0, .slice none 0 0, .int .i64 0, .int .i64 0, .slice none 0 0, .slice none 0 0, .slice none 0 0] 46)) [.slice none 0 0, .slice none 0 0, .slice none 0 0, .int .i64 0, .int .i64 0, .slice none 0 0, .slice none 0 0, .slice none 0 0] 46
  rw [World.size_alloc, World.size_alloc] at h
  exact h
 have HB0 : Hid (Below w.heap.size w (((w.alloc (.cells #[.slice s.e.b.va s.e.b.vs.length s.e.b.vc, .slice s.e.b.pa s.e.b.ps.length s.e.b.pc, .slice s.e.b.qa s.e.b.qs.length s.e.b.qc, .int .i64 s.e.b.cs, .int .i64 s.e.b.nx, .slice s.e.oa s.e.os.length s.e.oc, .slice s.d.sa s.d.ss.length s.d.sc, .slice s.d.pa s.d.ps.length s.d.pc] 33)).alloc (.cells #[.slice none 0 0, .slice none 0 0, .slice none 0 0, .int .i64 0, .int .i64 0, .slice none 0 0, .slice none 0 0, .slice none 0 0] 46)).alloc (.cells #[.slice none 0 0, .slice none 0 0, .slice none 0 0, .int .i64 0, .int .i64 0, .slice none 0 0, .slice none 0 0, .slice none 0 0] 46))) := (((belowRefl w).alloc (Nat.le_refl _) _).alloc (by simp) _).alloc (by simp; omega) _
 have S0 : Hid ((((w.alloc (.cells #[.slice s.e.b.va s.e.b.vs.length s.e.b.vc, .slice s.e.b.pa s.e.b.ps.length s.e.b.pc, .slice s.e.b.qa s.e.b.qs.length s.e.b.qc, .int .i64 s.e.b.cs, .int .i64 s.e.b.nx, .slice s.e.oa s.e.os.length s.e.oc, .slice s.d.sa s.d.ss.length s.d.sc, .slice s.d.pa s.d.ps.length s.d.pc] 33)).alloc (.cells #[.slice none 0 0, .slice none 0 0, .slice none 0 0, .int .i64 0, .int .i64 0, .slice none 0 0, .slice none 0 0, .slice none 0 0] 46)).alloc (.cells #[.slice none 0 0, .slice none 0 0, .slice none 0 0, .int .i64 0, .int .i64 0, .slice none 0 0, .slice none 0 0, .slice none 0 0] 46)).heap.size = w.heap.size + 1 + 1 + 1) := by show _ = _; simp
 have HSZ : Hid (w.heap.size + 1 + 1 + 1 ≤ (((w.alloc (.cells #[.slice s.e.b.va s.e.b.vs.length s.e.b.vc, .slice s.e.b.pa s.e.b.ps.length s.e.b.pc, .slice s.e.b.qa s.e.b.qs.length s.e.b.qc, .int .i64 s.e.b.cs, .int .i64 s.e.b.nx, .slice s.e.oa s.e.os.length s.e.oc, .slice s.d.sa s.d.ss.length s.d.sc, .slice s.d.pa s.d.ps.length s.d.pc] 33)).alloc (.cells #[.slice none 0 0, .slice none 0 0, .slice none 0 0, .int .i64 0, .int .i64 0, .slice none 0 0, .slice none 0 0, .slice none 0 0] 46)).alloc (.cells #[.slice none 0 0, .slice none 0 0, .slice none 0 0, .int .i64 0, .int .i64 0, .slice none 0 0, .slice none 0 0, .slice none 0 0] 46)).heap.size) := by show _ ≤ _; rw [S0.out]; exact Nat.le_refl _
 have CB : Hid (∀ W : World, Below w.heap.size w W → Calls Tryz.prog 22 #[.agg #[.slice s.e.b.va s.e.b.vs.length s.e.b.vc, .slice s.e.b.pa s.e.b.ps.length s.e.b.pc, .slice s.e.b.qa s.e.b.qs.length s.e.b.qc, .int .i64 s.e.b.cs, .int .i64 s.e.b.nx, .slice s.e.oa s.e.os.length s.e.oc]] W fun ex w' => ∃ c : En, ex = .returned (.agg #[.slice c.b.va c.b.vs.length c.b.vc, .slice c.b.pa c.b.ps.length c.b.pc, .slice c.b.qa c.b.qs.length c.b.qc, .int .i64 c.b.cs, .int .i64 c.b.nx, .slice c.oa c.os.length c.oc]) ∧ EnSame s.e c ∧ EnLie w' W.heap.size w'.heap.size c ∧ Below W.heap.size W w') := fun W h => toE s.e HF.out.e W (HP.out.e.below h)
 have CO : Hid (∀ W : World, Below w.heap.size w W → Calls Tryz.prog 23 #[.agg #[.slice s.d.sa s.d.ss.length s.d.sc, .slice s.d.pa s.d.ps.length s.d.pc]] W fun ex w' => ∃ b1 d1 b2 d2, ex = .returned (.agg #[.slice b1 s.d.ss.length d1, .slice b2 s.d.ps.length d2]) ∧ DLie w' W.heap.size w'.heap.size ⟨s.d.ss, s.d.ps, b1, d1, b2, d2⟩ ∧ Below W.heap.size W w') := fun W h => by
  refine (to44 s.d.ss s.d.ps s.d.sa s.d.pa s.d.sc s.d.pc (Nat.le_trans HF.out.d.1 (by omega)) (Nat.le_trans HF.out.d.2.1 (by omega)) W (HP.out.d.s.below h) (HP.out.d.p.below h)).mono ?_
  rintro ex w' ⟨b1, d1, b2, d2, he, ho, hb⟩
  exact ⟨b1, d1, b2, d2, he, DLie.of ho, hb⟩
 clear HP HF S0
 go_enter Tryz.func7, Tryz.ntmps7
 go_upto_region 2 with fail
 generalize (((w.alloc (.cells #[.slice s.e.b.va s.e.b.vs.length s.e.b.vc, .slice s.e.b.pa s.e.b.ps.length s.e.b.pc, .slice s.e.b.qa s.e.b.qs.length s.e.b.qc, .int .i64 s.e.b.cs, .int .i64 s.e.b.nx, .slice s.e.oa s.e.os.length s.e.oc, .slice s.d.sa s.d.ss.length s.d.sc, .slice s.d.pa s.d.ps.length s.d.pc] 33)).alloc (.cells #[.slice none 0 0, .slice none 0 0, .slice none 0 0, .int .i64 0, .int .i64 0, .slice none 0 0, .slice none 0 0, .slice none 0 0] 46)).alloc (.cells #[.slice none 0 0, .slice none 0 0, .slice none 0 0, .int .i64 0, .int .i64 0, .slice none 0 0, .slice none 0 0, .slice none 0 0] 46)) = w0 at *
 have x0 := BA0.out.c0
 have fx0 := BA0.out.fz 0
 have x1 := BA0.out.c1
 have fx1 := BA0.out.fz 1
 have x2 := BA0.out.c2
 have fx2 := BA0.out.fz 2
 have x3 := BA0.out.c3
 have fx3 := BA0.out.fz 3
 have x4 := BA0.out.c4
 have fx4 := BA0.out.fz 4
 have x5 := BA0.out.c5
 have fx5 := BA0.out.fz 5
 go_wp2_with fail
 refine (CB.out _ HB0.out).mono ?_
 rintro ex w1 ⟨c, rfl, hsm, ho, hb⟩
 have BA1 : Hid (Bx w1 w.heap.size [.slice s.e.b.va s.e.b.vs.length s.e.b.vc, .slice s.e.b.pa s.e.b.ps.length s.e.b.pc, .slice s.e.b.qa s.e.b.qs.length s.e.b.qc, .int .i64 s.e.b.cs, .int .i64 s.e.b.nx, .slice s.e.oa s.e.os.length s.e.oc, .slice s.d.sa s.d.ss.length s.d.sc, .slice s.d.pa s.d.ps.length s.d.pc]) := BA0.out.below hb
 have BR1 : Hid (Bx w1 (w.heap.size + 1) [.slice none 0 0, .slice none 0 0, .slice none 0 0, .int .i64 0, .int .i64 0, .slice none 0 0, .slice none 0 0, .slice none 0 0]) := BR0.out.below hb
 have BO1 : Hid (Bx w1 (w.heap.size + 1 + 1) [.slice none 0 0, .slice none 0 0, .slice none 0 0, .int .i64 0, .int .i64 0, .slice none 0 0, .slice none 0 0, .slice none 0 0]) := BO0.out.below hb
 have HB1 : Hid (Below w.heap.size w w1) := HB0.out.trans (hb.mono HB0.out.size)
 have Y1 : Hid (w0.heap.size ≤ w1.heap.size) := hb.size
 have R1 : Hid (EnLie w1 w0.heap.size w1.heap.size c) := ho
 have SM := hide hsm
 clear ho hb hsm BA0 BR0 BO0 HB0
 clear x0 fx0 x1 fx1 x2 fx2 x3 fx3 x4 fx4 x5 fx5
 have o0 := BO1.out.c0
 have fo0 := BO1.out.fz 0
 have o1 := BO1.out.c1
 have fo1 := BO1.out.fz 1
 have o2 := BO1.out.c2
 have fo2 := BO1.out.fz 2
 have o3 := BO1.out.c3
 have fo3 := BO1.out.fz 3
 have o4 := BO1.out.c4
 have fo4 := BO1.out.fz 4
 have o5 := BO1.out.c5
 have fo5 := BO1.out.fz 5
 go_upto_region 3 with fail
 clear o0 fo0 o1 fo1 o2 fo2 o3 fo3 o4 fo4 o5 fo5
 replace BA1 : Hid (Bx ((((((w1.setCell ⟨w.heap.size + 1 + 1, 0, none⟩ (.slice c.b.va c.b.vs.length c.b.vc)).setCell ⟨w.heap.size + 1 + 1, 1, none⟩ (.slice c.b.pa c.b.ps.length c.b.pc)).setCell ⟨w.heap.size + 1 + 1, 2, none⟩ (.slice c.b.qa c.b.qs.length c.b.qc)).setCell ⟨w.heap.size + 1 + 1, 3, none⟩ (.int .i64 c.b.cs)).setCell ⟨w.heap.size + 1 + 1, 4, none⟩ (.int .i64 c.b.nx)).setCell ⟨w.heap.size + 1 + 1, 5, none⟩ (.slice c.oa c.os.length c.oc)) w.heap.size [.slice s.e.b.va s.e.b.vs.length s.e.b.vc, .slice s.e.b.pa s.e.b.ps.length s.e.b.pc, .slice s.e.b.qa s.e.b.qs.length s.e.b.qc, .int .i64 s.e.b.cs, .int .i64 s.e.b.nx, .slice s.e.oa s.e.os.length s.e.oc, .slice s.d.sa s.d.ss.length s.d.sc, .slice s.d.pa s.d.ps.length s.d.pc]) := (((((BA1.out.setO (p := ⟨w.heap.size + 1 + 1, 0, none⟩) (by show w.heap.size + 1 + 1 ≠ w.heap.size; omega) _).setO (p := ⟨w.heap.size + 1 + 1, 1, none⟩) (by show w.heap.size + 1 + 1 ≠ w.heap.size; omega) _).setO (p := ⟨w.heap.size + 1 + 1, 2, none⟩) (by show w.heap.size + 1 + 1 ≠ w.heap.size; omega) _).setO (p := ⟨w.heap.size + 1 + 1, 3, none⟩) (by show w.heap.size + 1 + 1 ≠ w.heap.size; omega) _).setO (p := ⟨w.heap.size + 1 + 1, 4, none⟩) (by show w.heap.size + 1 + 1 ≠ w.heap.size; omega) _).setO (p := ⟨w.heap.size + 1 + 1, 5, none⟩) (by show w.heap.size + 1 + 1 ≠ w.heap.size; omega) _
 replace BR1 : Hid (Bx ((((((w1.setCell ⟨w.heap.size + 1 + 1, 0, none⟩ (.slice c.b.va c.b.vs.length c.b.vc)).setCell ⟨w.heap.size + 1 + 1, 1, none⟩ (.slice c.b.pa c.b.ps.length c.b.pc)).setCell ⟨w.heap.size + 1 + 1, 2, none⟩ (.slice c.b.qa c.b.qs.length c.b.qc)).setCell ⟨w.heap.size + 1 + 1, 3, none⟩ (.int .i64 c.b.cs)).setCell ⟨w.heap.size + 1 + 1, 4, none⟩ (.int .i64 c.b.nx)).setCell ⟨w.heap.size + 1 + 1, 5, none⟩ (.slice c.oa c.os.length c.oc)) (w.heap.size + 1) [.slice none 0 0, .slice none 0 0, .slice none 0 0, .int .i64 0, .int .i64 0, .slice none 0 0, .slice none 0 0, .slice none 0 0]) := (((((BR1.out.setO (p := ⟨w.heap.size + 1 + 1, 0, none⟩) (by show w.heap.size + 1 + 1 ≠ w.heap.size + 1; omega) _).setO (p := ⟨w.heap.size + 1 + 1, 1, none⟩) (by show w.heap.size + 1 + 1 ≠ w.heap.size + 1; omega) _).setO (p := ⟨w.heap.size + 1 + 1, 2, none⟩) (by show w.heap.size + 1 + 1 ≠ w.heap.size + 1; omega) _).setO (p := ⟨w.heap.size + 1 + 1, 3, none⟩) (by show w.heap.size + 1 + 1 ≠ w.heap.size + 1; omega) _).setO (p := ⟨w.heap.size + 1 + 1, 4, none⟩) (by show w.heap.size + 1 + 1 ≠ w.heap.size + 1; omega) _).setO (p := ⟨w.heap.size + 1 + 1, 5, none⟩) (by show w.heap.size + 1 + 1 ≠ w.heap.size + 1; omega) _
 replace BO1 : Hid (Bx ((((((w1.setCell ⟨w.heap.size + 1 + 1, 0, none⟩ (.slice c.b.va c.b.vs.length c.b.vc)).setCell ⟨w.heap.size + 1 + 1, 1, none⟩ (.slice c.b.pa c.b.ps.length c.b.pc)).setCell ⟨w.heap.size + 1 + 1, 2, none⟩ (.slice c.b.qa c.b.qs.length c.b.qc)).setCell ⟨w.heap.size + 1 + 1, 3, none⟩ (.int .i64 c.b.cs)).setCell ⟨w.heap.size + 1 + 1, 4, none⟩ (.int .i64 c.b.nx)).setCell ⟨w.heap.size + 1 + 1, 5, none⟩ (.slice c.oa c.os.length c.oc)) (w.heap.size + 1 + 1) [.slice c.b.va c.b.vs.length c.b.vc, .slice c.b.pa c.b.ps.length c.b.pc, .slice c.b.qa c.b.qs.length c.b.qc, .int .i64 c.b.cs, .int .i64 c.b.nx, .slice c.oa c.os.length c.oc, .slice none 0 0, .slice none 0 0]) := (((((BO1.out.set 0 _).set 1 _).set 2 _).set 3 _).set 4 _).set 5 _
 replace HB1 : Hid (Below w.heap.size w ((((((w1.setCell ⟨w.heap.size + 1 + 1, 0, none⟩ (.slice c.b.va c.b.vs.length c.b.vc)).setCell ⟨w.heap.size + 1 + 1, 1, none⟩ (.slice c.b.pa c.b.ps.length c.b.pc)).setCell ⟨w.heap.size + 1 + 1, 2, none⟩ (.slice c.b.qa c.b.qs.length c.b.qc)).setCell ⟨w.heap.size + 1 + 1, 3, none⟩ (.int .i64 c.b.cs)).setCell ⟨w.heap.size + 1 + 1, 4, none⟩ (.int .i64 c.b.nx)).setCell ⟨w.heap.size + 1 + 1, 5, none⟩ (.slice c.oa c.os.length c.oc))) := (((((HB1.out.setCell (p := ⟨w.heap.size + 1 + 1, 0, none⟩) (by show _ ≤ _ + 1 + 1; omega) _).setCell (p := ⟨w.heap.size + 1 + 1, 1, none⟩) (by show _ ≤ _ + 1 + 1; omega) _).setCell (p := ⟨w.heap.size + 1 + 1, 2, none⟩) (by show _ ≤ _ + 1 + 1; omega) _).setCell (p := ⟨w.heap.size + 1 + 1, 3, none⟩) (by show _ ≤ _ + 1 + 1; omega) _).setCell (p := ⟨w.heap.size + 1 + 1, 4, none⟩) (by show _ ≤ _ + 1 + 1; omega) _).setCell (p := ⟨w.heap.size + 1 + 1, 5, none⟩) (by show _ ≤ _ + 1 + 1; omega) _
 replace R1 : Hid (EnLie ((((((w1.setCell ⟨w.heap.size + 1 + 1, 0, none⟩ (.slice c.b.va c.b.vs.length c.b.vc)).setCell ⟨w.heap.size + 1 + 1, 1, none⟩ (.slice c.b.pa c.b.ps.length c.b.pc)).setCell ⟨w.heap.size + 1 + 1, 2, none⟩ (.slice c.b.qa c.b.qs.length c.b.qc)).setCell ⟨w.heap.size + 1 + 1, 3, none⟩ (.int .i64 c.b.cs)).setCell ⟨w.heap.size + 1 + 1, 4, none⟩ (.int .i64 c.b.nx)).setCell ⟨w.heap.size + 1 + 1, 5, none⟩ (.slice c.oa c.os.length c.oc)) w0.heap.size w1.heap.size c) := (((((R1.out.set (a := ⟨w.heap.size + 1 + 1, 0, none⟩) (by have := HSZ.out; show w.heap.size + 1 + 1 < _; omega) _).set (a := ⟨w.heap.size + 1 + 1, 1, none⟩) (by have := HSZ.out; show w.heap.size + 1 + 1 < _; omega) _).set (a := ⟨w.heap.size + 1 + 1, 2, none⟩) (by have := HSZ.out; show w.heap.size + 1 + 1 < _; omega) _).set (a := ⟨w.heap.size + 1 + 1, 3, none⟩) (by have := HSZ.out; show w.heap.size + 1 + 1 < _; omega) _).set (a := ⟨w.heap.size + 1 + 1, 4, none⟩) (by have := HSZ.out; show w.heap.size + 1 + 1 < _; omega) _).set (a := ⟨w.heap.size + 1 + 1, 5, none⟩) (by have := HSZ.out; show w.heap.size + 1 + 1 < _; omega) _
 have YGv1 : Hid (w1.heap.size ≤ ((((((w1.setCell ⟨w.heap.size + 1 + 1, 0, none⟩ (.slice c.b.va c.b.vs.length c.b.vc)).setCell ⟨w.heap.size + 1 + 1, 1, none⟩ (.slice c.b.pa c.b.ps.length c.b.pc)).setCell ⟨w.heap.size + 1 + 1, 2, none⟩ (.slice c.b.qa c.b.qs.length c.b.qc)).setCell ⟨w.heap.size + 1 + 1, 3, none⟩ (.int .i64 c.b.cs)).setCell ⟨w.heap.size + 1 + 1, 4, none⟩ (.int .i64 c.b.nx)).setCell ⟨w.heap.size + 1 + 1, 5, none⟩ (.slice c.oa c.os.length c.oc)).heap.size) := by show _ ≤ _; simp [World.setCell]
 generalize ((((((w1.setCell ⟨w.heap.size + 1 + 1, 0, none⟩ (.slice c.b.va c.b.vs.length c.b.vc)).setCell ⟨w.heap.size + 1 + 1, 1, none⟩ (.slice c.b.pa c.b.ps.length c.b.pc)).setCell ⟨w.heap.size + 1 + 1, 2, none⟩ (.slice c.b.qa c.b.qs.length c.b.qc)).setCell ⟨w.heap.size + 1 + 1, 3, none⟩ (.int .i64 c.b.cs)).setCell ⟨w.heap.size + 1 + 1, 4, none⟩ (.int .i64 c.b.nx)).setCell ⟨w.heap.size + 1 + 1, 5, none⟩ (.slice c.oa c.os.length c.oc)) = v1 at *
 have LZ1 : Hid (w.heap.size + 1 + 1 + 1 ≤ v1.heap.size) := by show _ ≤ _; have := HSZ.out; have := Y1.out; have := YGv1.out; omega
 have x6 := BA1.out.c6
 have fx6 := BA1.out.fz 6
 have x7 := BA1.out.c7
 have fx7 := BA1.out.fz 7
 go_wp2_with fail
 refine (CO.out _ HB1.out).mono ?_
 rintro ex w2 ⟨b1, d1, b2, d2, rfl, ho, hb⟩
 have BA2 : Hid (Bx w2 w.heap.size [.slice s.e.b.va s.e.b.vs.length s.e.b.vc, .slice s.e.b.pa s.e.b.ps.length s.e.b.pc, .slice s.e.b.qa s.e.b.qs.length s.e.b.qc, .int .i64 s.e.b.cs, .int .i64 s.e.b.nx, .slice s.e.oa s.e.os.length s.e.oc, .slice s.d.sa s.d.ss.length s.d.sc, .slice s.d.pa s.d.ps.length s.d.pc]) := BA1.out.below hb
 have BR2 : Hid (Bx w2 (w.heap.size + 1) [.slice none 0 0, .slice none 0 0, .slice none 0 0, .int .i64 0, .int .i64 0, .slice none 0 0, .slice none 0 0, .slice none 0 0]) := BR1.out.below hb
 have BO2 : Hid (Bx w2 (w.heap.size + 1 + 1) [.slice c.b.va c.b.vs.length c.b.vc, .slice c.b.pa c.b.ps.length c.b.pc, .slice c.b.qa c.b.qs.length c.b.qc, .int .i64 c.b.cs, .int .i64 c.b.nx, .slice c.oa c.os.length c.oc, .slice none 0 0, .slice none 0 0]) := BO1.out.below hb
 have HB2 : Hid (Below w.heap.size w w2) := HB1.out.trans (hb.mono HB1.out.size)
 have Y2 : Hid (v1.heap.size ≤ w2.heap.size) := hb.size
 replace R1 : Hid (EnLie w2 w0.heap.size w1.heap.size c) := R1.out.below hb
 have R2 : Hid (DLie w2 v1.heap.size w2.heap.size ⟨s.d.ss, s.d.ps, b1, d1, b2, d2⟩) := ho
 clear ho hb BA1 BR1 BO1 HB1
 clear x6 fx6 x7 fx7
 have o6 := BO2.out.c6
 have fo6 := BO2.out.fz 6
 have o7 := BO2.out.c7
 have fo7 := BO2.out.fz 7
 go_upto_region 4 with fail
 clear o6 fo6 o7 fo7
 replace BA2 : Hid (Bx ((w2.setCell ⟨w.heap.size + 1 + 1, 6, none⟩ (.slice b1 s.d.ss.length d1)).setCell ⟨w.heap.size + 1 + 1, 7, none⟩ (.slice b2 s.d.ps.length d2)) w.heap.size [.slice s.e.b.va s.e.b.vs.length s.e.b.vc, .slice s.e.b.pa s.e.b.ps.length s.e.b.pc, .slice s.e.b.qa s.e.b.qs.length s.e.b.qc, .int .i64 s.e.b.cs, .int .i64 s.e.b.nx, .slice s.e.oa s.e.os.length s.e.oc, .slice s.d.sa s.d.ss.length s.d.sc, .slice s.d.pa s.d.ps.length s.d.pc]) := (BA2.out.setO (p := ⟨w.heap.size + 1 + 1, 6, none⟩) (by show w.heap.size + 1 + 1 ≠ w.heap.size; omega) _).setO (p := ⟨w.heap.size + 1 + 1, 7, none⟩) (by show w.heap.size + 1 + 1 ≠ w.heap.size; omega) _
 replace BR2 : Hid (Bx ((w2.setCell ⟨w.heap.size + 1 + 1, 6, none⟩ (.slice b1 s.d.ss.length d1)).setCell ⟨w.heap.size + 1 + 1, 7, none⟩ (.slice b2 s.d.ps.length d2)) (w.heap.size + 1) [.slice none 0 0, .slice none 0 0, .slice none 0 0, .int .i64 0, .int .i64 0, .slice none 0 0, .slice none 0 0, .slice none 0 0]) := (BR2.out.setO (p := ⟨w.heap.size + 1 + 1, 6, none⟩) (by show w.heap.size + 1 + 1 ≠ w.heap.size + 1; omega) _).setO (p := ⟨w.heap.size + 1 + 1, 7, none⟩) (by show w.heap.size + 1 + 1 ≠ w.heap.size + 1; omega) _
 replace BO2 : Hid (Bx ((w2.setCell ⟨w.heap.size + 1 + 1, 6, none⟩ (.slice b1 s.d.ss.length d1)).setCell ⟨w.heap.size + 1 + 1, 7, none⟩ (.slice b2 s.d.ps.length d2)) (w.heap.size + 1 + 1) [.slice c.b.va c.b.vs.length c.b.vc, .slice c.b.pa c.b.ps.length c.b.pc, .slice c.b.qa c.b.qs.length c.b.qc, .int .i64 c.b.cs, .int .i64 c.b.nx, .slice c.oa c.os.length c.oc, .slice b1 s.d.ss.length d1, .slice b2 s.d.ps.length d2]) := (BO2.out.set 6 _).set 7 _
 replace HB2 : Hid (Below w.heap.size w ((w2.setCell ⟨w.heap.size + 1 + 1, 6, none⟩ (.slice b1 s.d.ss.length d1)).setCell ⟨w.heap.size + 1 + 1, 7, none⟩ (.slice b2 s.d.ps.length d2))) := (HB2.out.setCell (p := ⟨w.heap.size + 1 + 1, 6, none⟩) (by show _ ≤ _ + 1 + 1; omega) _).setCell (p := ⟨w.heap.size + 1 + 1, 7, none⟩) (by show _ ≤ _ + 1 + 1; omega) _
 replace R1 : Hid (EnLie ((w2.setCell ⟨w.heap.size + 1 + 1, 6, none⟩ (.slice b1 s.d.ss.length d1)).setCell ⟨w.heap.size + 1 + 1, 7, none⟩ (.slice b2 s.d.ps.length d2)) w0.heap.size w1.heap.size c) := (R1.out.set (a := ⟨w.heap.size + 1 + 1, 6, none⟩) (by have := HSZ.out; show w.heap.size + 1 + 1 < _; omega) _).set (a := ⟨w.heap.size + 1 + 1, 7, none⟩) (by have := HSZ.out; show w.heap.size + 1 + 1 < _; omega) _
 replace R2 : Hid (DLie ((w2.setCell ⟨w.heap.size + 1 + 1, 6, none⟩ (.slice b1 s.d.ss.length d1)).setCell ⟨w.heap.size + 1 + 1, 7, none⟩ (.slice b2 s.d.ps.length d2)) v1.heap.size w2.heap.size ⟨s.d.ss, s.d.ps, b1, d1, b2, d2⟩) := (R2.out.set (a := ⟨w.heap.size + 1 + 1, 6, none⟩) (by have := LZ1.out; show w.heap.size + 1 + 1 < _; omega) _).set (a := ⟨w.heap.size + 1 + 1, 7, none⟩) (by have := LZ1.out; show w.heap.size + 1 + 1 < _; omega) _
 have YGv2 : Hid (w2.heap.size ≤ ((w2.setCell ⟨w.heap.size + 1 + 1, 6, none⟩ (.slice b1 s.d.ss.length d1)).setCell ⟨w.heap.size + 1 + 1, 7, none⟩ (.slice b2 s.d.ps.length d2)).heap.size) := by show _ ≤ _; simp [World.setCell]
 generalize ((w2.setCell ⟨w.heap.size + 1 + 1, 6, none⟩ (.slice b1 s.d.ss.length d1)).setCell ⟨w.heap.size + 1 + 1, 7, none⟩ (.slice b2 s.d.ps.length d2)) = v2 at *
 have HE : Hid (StLie v2 (w.heap.size + 1 + 1 + 1) v2.heap.size ⟨c, ⟨s.d.ss, s.d.ps, b1, d1, b2, d2⟩⟩) := ⟨v1.heap.size, LZ1.out, by have := Y2.out; have := YGv2.out; omega, R1.out.mono HSZ.out (by have := YGv1.out; omega), R2.out.mono (Nat.le_refl _) YGv2.out⟩
 have HSM : Hid (StSame s ⟨c, ⟨s.d.ss, s.d.ps, b1, d1, b2, d2⟩⟩) := ⟨SM.out, ⟨rfl, rfl⟩⟩
 clear R1 R2 SM
 have o0 := BO2.out.c0
 have fo0 := BO2.out.fz 0
 have o1 := BO2.out.c1
 have fo1 := BO2.out.fz 1
 have o2 := BO2.out.c2
 have fo2 := BO2.out.fz 2
 have o3 := BO2.out.c3
 have fo3 := BO2.out.fz 3
 have o4 := BO2.out.c4
 have fo4 := BO2.out.fz 4
 have o5 := BO2.out.c5
 have fo5 := BO2.out.fz 5
 have o6 := BO2.out.c6
 have fo6 := BO2.out.fz 6
 have o7 := BO2.out.c7
 have fo7 := BO2.out.fz 7
 have q0 := BR2.out.c0
 have fq0 := BR2.out.fz 0
 have q1 := BR2.out.c1
 have fq1 := BR2.out.fz 1
 have q2 := BR2.out.c2
 have fq2 := BR2.out.fz 2
 have q3 := BR2.out.c3
 have fq3 := BR2.out.fz 3
 have q4 := BR2.out.c4
 have fq4 := BR2.out.fz 4
 have q5 := BR2.out.c5
 have fq5 := BR2.out.fz 5
 have q6 := BR2.out.c6
 have fq6 := BR2.out.fz 6
 have q7 := BR2.out.c7
 have fq7 := BR2.out.fz 7
 go_wp2
 refine bodyPost_ret (v := .agg #[.slice c.b.va c.b.vs.length c.b.vc, .slice c.b.pa c.b.ps.length c.b.pc, .slice c.b.qa c.b.qs.length c.b.qc, .int .i64 c.b.cs, .int .i64 c.b.nx, .slice c.oa c.os.length c.oc, .slice b1 s.d.ss.length d1, .slice b2 s.d.ps.length d2]) (by simp [results, Tryz.results7, go_sem, q0, q1, q2, q3, q4, q5, q6, q7]) rfl ⟨⟨c, ⟨s.d.ss, s.d.ps, b1, d1, b2, d2⟩⟩, rfl, HSM.out, ?_, ?_⟩
 ·exact (((((((((HE.out.set (a := ⟨w.heap.size + 1, 0, none⟩) (by show _ + 1 < _; omega) _).set (a := ⟨w.heap.size + 1, 1, none⟩) (by show _ + 1 < _; omega) _).set (a := ⟨w.heap.size + 1, 2, none⟩) (by show _ + 1 < _; omega) _).set (a := ⟨w.heap.size + 1, 3, none⟩) (by show _ + 1 < _; omega) _).set (a := ⟨w.heap.size + 1, 4, none⟩) (by show _ + 1 < _; omega) _).set (a := ⟨w.heap.size + 1, 5, none⟩) (by show _ + 1 < _; omega) _).set (a := ⟨w.heap.size + 1, 6, none⟩) (by show _ + 1 < _; omega) _).set (a := ⟨w.heap.size + 1, 7, none⟩) (by show _ + 1 < _; omega) _).mono (by omega) (by simp [World.setCell]))
 ·exact (((((((HB2.out.setCell (p := ⟨w.heap.size + 1, 0, none⟩) (by show _ ≤ _ + 1; omega) _).setCell (p := ⟨w.heap.size + 1, 1, none⟩) (by show _ ≤ _ + 1; omega) _).setCell (p := ⟨w.heap.size + 1, 2, none⟩) (by show _ ≤ _ + 1; omega) _).setCell (p := ⟨w.heap.size + 1, 3, none⟩) (by show _ ≤ _ + 1; omega) _).setCell (p := ⟨w.heap.size + 1, 4, none⟩) (by show _ ≤ _ + 1; omega) _).setCell (p := ⟨w.heap.size + 1, 5, none⟩) (by show _ ≤ _ + 1; omega) _).setCell (p := ⟨w.heap.size + 1, 6, none⟩) (by show _ ≤ _ + 1; omega) _).setCell (p := ⟨w.heap.size + 1, 7, none⟩) (by show _ ≤ _ + 1; omega) _

end Go.Proofs.YtjieojfcmigcdaaGreatDoor
