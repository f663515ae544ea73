/- Begin, by the document. -/
import Derived.Test.YtjeicgibddfifaaGreatPb28
import Derived.Test.YtjeicgibddfifaaGreatPb31
import Derived.Test.YtjeicgibddfifaaGreatPb25
import Derived.Deep.RegionHeld3
import Derived.Deep.Cut
import Derived.Deep.CutRange
namespace Go.Proofs.YtjeicgibddfifaaGreat
open Go.RowKit
open KM
attribute [local go_sem ↓] Go.wp_at_zero Go.wp_at_succ

set_option maxRecDepth 100000 in
set_option maxHeartbeats 8000000 in
theorem sbegin (e : En) (lo hi : Nat) (hf : EnFit e) (w : World) (hp : EnLie w lo hi e) :
  Calls Tryz.prog 11 #[.agg #[.slice e.b.va e.b.vs.length e.b.vc, .slice e.b.pa e.b.ps.length e.b.pc, .slice e.b.qa e.b.qs.length e.b.qc, .int .i64 e.b.cs, .int .i64 e.b.nx, .slice e.oa e.os.length e.oc]] w fun ex w' => ∃ d : En, ex = .returned (.tuple #[.agg #[.slice d.b.va d.b.vs.length d.b.vc, .slice d.b.pa d.b.ps.length d.b.pc, .slice d.b.qa d.b.qs.length d.b.qc, .int .i64 d.b.cs, .int .i64 d.b.nx, .slice d.oa d.os.length d.oc], .int .i64 (bgI e), .int .i64 (bgC e)]) ∧ EnSame (bgE e) d ∧ EnLie w' w.heap.size w'.heap.size d ∧ Below w.heap.size w w' := by
 have BA0 : Hid (Bx ((w.alloc (.cells #[.slice e.b.va e.b.vs.length e.b.vc, .slice e.b.pa e.b.ps.length e.b.pc, .slice e.b.qa e.b.qs.length e.b.qc, .int .i64 e.b.cs, .int .i64 e.b.nx, .slice e.oa e.os.length e.oc] 35)).alloc (.cells #[.slice none 0 0, .slice none 0 0, .slice none 0 0, .int .i64 0, .int .i64 0, .slice none 0 0] 35)) w.heap.size [.slice e.b.va e.b.vs.length e.b.vc, .slice e.b.pa e.b.ps.length e.b.pc, .slice e.b.qa e.b.qs.length e.b.qc, .int .i64 e.b.cs, .int .i64 e.b.nx, .slice e.oa e.os.length e.oc]) := (Bx.new w [.slice e.b.va e.b.vs.length e.b.vc, .slice e.b.pa e.b.ps.length e.b.pc, .slice e.b.qa e.b.qs.length e.b.qc, .int .i64 e.b.cs, .int .i64 e.b.nx, .slice e.oa e.os.length e.oc] 35).alloc _
 have BR0 : Hid (Bx ((w.alloc (.cells #[.slice e.b.va e.b.vs.length e.b.vc, .slice e.b.pa e.b.ps.length e.b.pc, .slice e.b.qa e.b.qs.length e.b.qc, .int .i64 e.b.cs, .int .i64 e.b.nx, .slice e.oa e.os.length e.oc] 35)).alloc (.cells #[.slice none 0 0, .slice none 0 0, .slice none 0 0, .int .i64 0, .int .i64 0, .slice none 0 0] 35)) (w.heap.size + 1) [.slice none 0 0, .slice none 0 0, .slice none 0 0, .int .i64 0, .int .i64 0, .slice none 0 0]) := by
  have h := Bx.new (w.alloc (.cells #[.slice e.b.va e.b.vs.length e.b.vc, .slice e.b.pa e.b.ps.length e.b.pc, .slice e.b.qa e.b.qs.length e.b.qc, .int .i64 e.b.cs, .int .i64 e.b.nx, .slice e.oa e.os.length e.oc] 35)) [.slice none 0 0, .slice none 0 0, .slice none 0 0, .int .i64 0, .int .i64 0, .slice none 0 0] 35
  rw [World.size_alloc] at h
  exact h
 have HB0 : Hid (Below w.heap.size w ((w.alloc (.cells #[.slice e.b.va e.b.vs.length e.b.vc, .slice e.b.pa e.b.ps.length e.b.pc, .slice e.b.qa e.b.qs.length e.b.qc, .int .i64 e.b.cs, .int .i64 e.b.nx, .slice e.oa e.os.length e.oc] 35)).alloc (.cells #[.slice none 0 0, .slice none 0 0, .slice none 0 0, .int .i64 0, .int .i64 0, .slice none 0 0] 35))) := ((belowRefl w).alloc (Nat.le_refl _) _).alloc (by simp) _
 have Y0 : Hid (w.heap.size + 1 + 1 ≤ ((w.alloc (.cells #[.slice e.b.va e.b.vs.length e.b.vc, .slice e.b.pa e.b.ps.length e.b.pc, .slice e.b.qa e.b.qs.length e.b.qc, .int .i64 e.b.cs, .int .i64 e.b.nx, .slice e.oa e.os.length e.oc] 35)).alloc (.cells #[.slice none 0 0, .slice none 0 0, .slice none 0 0, .int .i64 0, .int .i64 0, .slice none 0 0] 35)).heap.size) := by show _ ≤ _; simp
 have HP : Hid (EnLie w lo hi e) := hp
 have HF : Hid (EnFit e) := hf
 have hln0 : e.os.length ≤ 1048576 := hf.ol
 clear hp hf
 have CC : Hid (∀ W : World, Below w.heap.size w W → Calls Tryz.prog 29 #[.agg #[.slice e.b.va e.b.vs.length e.b.vc, .slice e.b.pa e.b.ps.length e.b.pc, .slice e.b.qa e.b.qs.length e.b.qc, .int .i64 e.b.cs, .int .i64 e.b.nx, .slice e.oa e.os.length e.oc]] W fun ex w' => ∃ c : En, ex = .returned (.agg #[.slice c.b.va c.b.vs.length c.b.vc, .slice c.b.pa c.b.ps.length c.b.pc, .slice c.b.qa c.b.qs.length c.b.qc, .int .i64 c.b.cs, .int .i64 c.b.nx, .slice c.oa c.os.length c.oc]) ∧ EnSame e c ∧ EnLie w' W.heap.size w'.heap.size c ∧ Below W.heap.size W w') := fun W h => scopyE e lo hi HF.out W (HP.out.below h)
 have CE : Hid (∀ W : World, Below w.heap.size w W → Calls Tryz.prog 7 #[.agg #[.slice e.b.va e.b.vs.length e.b.vc, .slice e.b.pa e.b.ps.length e.b.pc, .slice e.b.qa e.b.qs.length e.b.qc, .int .i64 e.b.cs, .int .i64 e.b.nx, .slice e.oa e.os.length e.oc]] W fun ex w' => ex = .returned (.bool (seB e)) ∧ Below W.heap.size W w') := fun W h => seok e HF.out W (HP.out.rows.below h)
 obtain ⟨rs, hrs⟩ : ∃ rs, rs = seB e := ⟨_, rfl⟩
 rw [← hrs] at CE
 have HRS := hide hrs
 clear hrs
 go_enter Tryz.func11, Tryz.ntmps11
 go_upto_region 1 with fail
 generalize ((w.alloc (.cells #[.slice e.b.va e.b.vs.length e.b.vc, .slice e.b.pa e.b.ps.length e.b.pc, .slice e.b.qa e.b.qs.length e.b.qc, .int .i64 e.b.cs, .int .i64 e.b.nx, .slice e.oa e.os.length e.oc] 35)).alloc (.cells #[.slice none 0 0, .slice none 0 0, .slice none 0 0, .int .i64 0, .int .i64 0, .slice none 0 0] 35)) = w0 at *
 have x0 := BA0.out.c0
 have x1 := BA0.out.c1
 have x2 := BA0.out.c2
 have x3 := BA0.out.c3
 have x4 := BA0.out.c4
 have x5 := BA0.out.c5
 go_wp2_with fail
 refine (CC.out _ HB0.out).mono ?_
 rintro ex w1 ⟨c, rfl, hsm, hl, hb⟩
 have HB1 : Hid (Below w.heap.size w w1) := HB0.out.trans (hb.mono HB0.out.size)
 have BA1 : Hid (Bx w1 w.heap.size [.slice e.b.va e.b.vs.length e.b.vc, .slice e.b.pa e.b.ps.length e.b.pc, .slice e.b.qa e.b.qs.length e.b.qc, .int .i64 e.b.cs, .int .i64 e.b.nx, .slice e.oa e.os.length e.oc]) := BA0.out.below hb
 have BR1 : Hid (Bx w1 (w.heap.size + 1) [.slice none 0 0, .slice none 0 0, .slice none 0 0, .int .i64 0, .int .i64 0, .slice none 0 0]) := BR0.out.below hb
 have Y1 : Hid (w0.heap.size ≤ w1.heap.size) := hb.size
 obtain ⟨m, hlx⟩ := hl.lx
 have SM := hide hsm
 have LX1 := hide hlx
 clear hb hl hlx hsm BA0 BR0 HB0
 clear x0 x1 x2 x3 x4 x5
 have hba : Below w1.heap.size w1 (w1.alloc (.cells #[.slice c.b.va c.b.vs.length c.b.vc, .slice c.b.pa c.b.ps.length c.b.pc, .slice c.b.qa c.b.qs.length c.b.qc, .int .i64 c.b.cs, .int .i64 c.b.nx, .slice c.oa c.os.length c.oc] 35)) := (belowRefl w1).alloc (Nat.le_refl _) _
 replace HB1 : Hid (Below w.heap.size w (w1.alloc (.cells #[.slice c.b.va c.b.vs.length c.b.vc, .slice c.b.pa c.b.ps.length c.b.pc, .slice c.b.qa c.b.qs.length c.b.qc, .int .i64 c.b.cs, .int .i64 c.b.nx, .slice c.oa c.os.length c.oc] 35))) := HB1.out.trans (hba.mono HB1.out.size)
 replace BA1 : Hid (Bx (w1.alloc (.cells #[.slice c.b.va c.b.vs.length c.b.vc, .slice c.b.pa c.b.ps.length c.b.pc, .slice c.b.qa c.b.qs.length c.b.qc, .int .i64 c.b.cs, .int .i64 c.b.nx, .slice c.oa c.os.length c.oc] 35)) w.heap.size [.slice e.b.va e.b.vs.length e.b.vc, .slice e.b.pa e.b.ps.length e.b.pc, .slice e.b.qa e.b.qs.length e.b.qc, .int .i64 e.b.cs, .int .i64 e.b.nx, .slice e.oa e.os.length e.oc]) := BA1.out.below hba
 replace BR1 : Hid (Bx (w1.alloc (.cells #[.slice c.b.va c.b.vs.length c.b.vc, .slice c.b.pa c.b.ps.length c.b.pc, .slice c.b.qa c.b.qs.length c.b.qc, .int .i64 c.b.cs, .int .i64 c.b.nx, .slice c.oa c.os.length c.oc] 35)) (w.heap.size + 1) [.slice none 0 0, .slice none 0 0, .slice none 0 0, .int .i64 0, .int .i64 0, .slice none 0 0]) := BR1.out.below hba
 replace LX1 : Hid (EnLx (w1.alloc (.cells #[.slice c.b.va c.b.vs.length c.b.vc, .slice c.b.pa c.b.ps.length c.b.pc, .slice c.b.qa c.b.qs.length c.b.qc, .int .i64 c.b.cs, .int .i64 c.b.nx, .slice c.oa c.os.length c.oc] 35)) w0.heap.size m w1.heap.size w1.heap.size w1.heap.size c) := LX1.out.below hba
 have BC1 : Hid (Bx (w1.alloc (.cells #[.slice c.b.va c.b.vs.length c.b.vc, .slice c.b.pa c.b.ps.length c.b.pc, .slice c.b.qa c.b.qs.length c.b.qc, .int .i64 c.b.cs, .int .i64 c.b.nx, .slice c.oa c.os.length c.oc] 35)) w1.heap.size [.slice c.b.va c.b.vs.length c.b.vc, .slice c.b.pa c.b.ps.length c.b.pc, .slice c.b.qa c.b.qs.length c.b.qc, .int .i64 c.b.cs, .int .i64 c.b.nx, .slice c.oa c.os.length c.oc]) := Bx.new w1 [.slice c.b.va c.b.vs.length c.b.vc, .slice c.b.pa c.b.ps.length c.b.pc, .slice c.b.qa c.b.qs.length c.b.qc, .int .i64 c.b.cs, .int .i64 c.b.nx, .slice c.oa c.os.length c.oc] 35
 clear hba
 go_upto_region 2 with fail
 generalize (w1.alloc (.cells #[.slice c.b.va c.b.vs.length c.b.vc, .slice c.b.pa c.b.ps.length c.b.pc, .slice c.b.qa c.b.qs.length c.b.qc, .int .i64 c.b.cs, .int .i64 c.b.nx, .slice c.oa c.os.length c.oc] 35)) = w1b at *
 obtain ⟨g, hg⟩ : ∃ g, g = w1.heap.size := ⟨_, rfl⟩
 rw [← hg] at Y1 LX1 BC1
 rw [← hg]
 clear hg
 have x0 := BA1.out.c0
 have x1 := BA1.out.c1
 have x2 := BA1.out.c2
 have x3 := BA1.out.c3
 have x4 := BA1.out.c4
 have x5 := BA1.out.c5
 go_wp2_with fail
 refine (CE.out _ HB1.out).mono ?_
 rintro ex w2 ⟨rfl, hb⟩
 have HB2 : Hid (Below w.heap.size w w2) := HB1.out.trans (hb.mono HB1.out.size)
 have BA2 : Hid (Bx w2 w.heap.size [.slice e.b.va e.b.vs.length e.b.vc, .slice e.b.pa e.b.ps.length e.b.pc, .slice e.b.qa e.b.qs.length e.b.qc, .int .i64 e.b.cs, .int .i64 e.b.nx, .slice e.oa e.os.length e.oc]) := BA1.out.below hb
 have BR2 : Hid (Bx w2 (w.heap.size + 1) [.slice none 0 0, .slice none 0 0, .slice none 0 0, .int .i64 0, .int .i64 0, .slice none 0 0]) := BR1.out.below hb
 have BC2 : Hid (Bx w2 g [.slice c.b.va c.b.vs.length c.b.vc, .slice c.b.pa c.b.ps.length c.b.pc, .slice c.b.qa c.b.qs.length c.b.qc, .int .i64 c.b.cs, .int .i64 c.b.nx, .slice c.oa c.os.length c.oc]) := BC1.out.below hb
 have LX2 : Hid (EnLx w2 w0.heap.size m g g g c) := LX1.out.below hb
 clear hb HB1 BA1 BR1 BC1 LX1
 clear x0 x1 x2 x3 x4 x5
 have hy0 := Y0.out
 have hy1 := Y1.out
 have hgl : g < w2.heap.size := BC2.out.lt
 cases rs
 ·have HNO : Hid (bgOk e = false) := by show _ = _; unfold bgOk; rw [← HRS.out]; rfl
  have hno := bg_no HNO.out
  have x0 := BC2.out.c0
  have x1 := BC2.out.c1
  have x2 := BC2.out.c2
  have x3 := BC2.out.c3
  have x4 := BC2.out.c4
  have x5 := BC2.out.c5
  have q0 := BR2.out.c0
  have fq0 := BR2.out.fz 0
  have q1 := BR2.out.c1
  have fq1 := BR2.out.fz 1
  have q2 := BR2.out.c2
  have fq2 := BR2.out.fz 2
  have q3 := BR2.out.c3
  have fq3 := BR2.out.fz 3
  have q4 := BR2.out.c4
  have fq4 := BR2.out.fz 4
  have q5 := BR2.out.c5
  have fq5 := BR2.out.fz 5
  go_wp2
  refine bodyPost_ret (v := .tuple #[.agg #[.slice c.b.va c.b.vs.length c.b.vc, .slice c.b.pa c.b.ps.length c.b.pc, .slice c.b.qa c.b.qs.length c.b.qc, .int .i64 c.b.cs, .int .i64 c.b.nx, .slice c.oa c.os.length c.oc], .int .i64 0, .int .i64 3]) (by simp [results, Tryz.results11, go_sem, q0, q1, q2, q3, q4, q5]) rfl ⟨c, by rw [hno.2.1, hno.2.2], by rw [hno.1]; exact SM.out, ?_, ?_⟩
  ·exact (((((((LX2.out.setl (a := ⟨w.heap.size + 1, 0, none⟩) (by show w.heap.size + 1 < _; omega) _).setl (a := ⟨w.heap.size + 1, 1, none⟩) (by show w.heap.size + 1 < _; omega) _).setl (a := ⟨w.heap.size + 1, 2, none⟩) (by show w.heap.size + 1 < _; omega) _).setl (a := ⟨w.heap.size + 1, 3, none⟩) (by show w.heap.size + 1 < _; omega) _).setl (a := ⟨w.heap.size + 1, 4, none⟩) (by show w.heap.size + 1 < _; omega) _).setl (a := ⟨w.heap.size + 1, 5, none⟩) (by show w.heap.size + 1 < _; omega) _).lie.mono (by omega) (by simp [World.setCell]; omega))
  ·exact (((((HB2.out.setCell (p := ⟨w.heap.size + 1, 0, none⟩) (by show _ ≤ _ + 1; omega) _).setCell (p := ⟨w.heap.size + 1, 1, none⟩) (by show _ ≤ _ + 1; omega) _).setCell (p := ⟨w.heap.size + 1, 2, none⟩) (by show _ ≤ _ + 1; omega) _).setCell (p := ⟨w.heap.size + 1, 3, none⟩) (by show _ ≤ _ + 1; omega) _).setCell (p := ⟨w.heap.size + 1, 4, none⟩) (by show _ ≤ _ + 1; omega) _).setCell (p := ⟨w.heap.size + 1, 5, none⟩) (by show _ ≤ _ + 1; omega) _
 have a5 := BA2.out.c5
 cases h4 : ((e.os.length : Int) == 4)
 rotate_left
 ·have hx : (4 : Int) ≤ (e.os.length : Int) := by have : (e.os.length : Int) = 4 := (by simpa using h4); omega
  have hxd : decide ((4 : Int) ≤ (e.os.length : Int)) = true := decide_eq_true hx
  have HNO : Hid (bgOk e = false) := by show _ = _; unfold bgOk; rw [← HRS.out, h4]; rfl
  have hno := bg_no HNO.out
  have x0 := BC2.out.c0
  have x1 := BC2.out.c1
  have x2 := BC2.out.c2
  have x3 := BC2.out.c3
  have x4 := BC2.out.c4
  have x5 := BC2.out.c5
  have q0 := BR2.out.c0
  have fq0 := BR2.out.fz 0
  have q1 := BR2.out.c1
  have fq1 := BR2.out.fz 1
  have q2 := BR2.out.c2
  have fq2 := BR2.out.fz 2
  have q3 := BR2.out.c3
  have fq3 := BR2.out.fz 3
  have q4 := BR2.out.c4
  have fq4 := BR2.out.fz 4
  have q5 := BR2.out.c5
  have fq5 := BR2.out.fz 5
  go_wp2
  refine bodyPost_ret (v := .tuple #[.agg #[.slice c.b.va c.b.vs.length c.b.vc, .slice c.b.pa c.b.ps.length c.b.pc, .slice c.b.qa c.b.qs.length c.b.qc, .int .i64 c.b.cs, .int .i64 c.b.nx, .slice c.oa c.os.length c.oc], .int .i64 0, .int .i64 3]) (by simp [results, Tryz.results11, go_sem, q0, q1, q2, q3, q4, q5]) rfl ⟨c, by rw [hno.2.1, hno.2.2], by rw [hno.1]; exact SM.out, ?_, ?_⟩
  ·exact (((((((LX2.out.setl (a := ⟨w.heap.size + 1, 0, none⟩) (by show w.heap.size + 1 < _; omega) _).setl (a := ⟨w.heap.size + 1, 1, none⟩) (by show w.heap.size + 1 < _; omega) _).setl (a := ⟨w.heap.size + 1, 2, none⟩) (by show w.heap.size + 1 < _; omega) _).setl (a := ⟨w.heap.size + 1, 3, none⟩) (by show w.heap.size + 1 < _; omega) _).setl (a := ⟨w.heap.size + 1, 4, none⟩) (by show w.heap.size + 1 < _; omega) _).setl (a := ⟨w.heap.size + 1, 5, none⟩) (by show w.heap.size + 1 < _; omega) _).lie.mono (by omega) (by simp [World.setCell]; omega))
  ·exact (((((HB2.out.setCell (p := ⟨w.heap.size + 1, 0, none⟩) (by show _ ≤ _ + 1; omega) _).setCell (p := ⟨w.heap.size + 1, 1, none⟩) (by show _ ≤ _ + 1; omega) _).setCell (p := ⟨w.heap.size + 1, 2, none⟩) (by show _ ≤ _ + 1; omega) _).setCell (p := ⟨w.heap.size + 1, 3, none⟩) (by show _ ≤ _ + 1; omega) _).setCell (p := ⟨w.heap.size + 1, 4, none⟩) (by show _ ≤ _ + 1; omega) _).setCell (p := ⟨w.heap.size + 1, 5, none⟩) (by show _ ≤ _ + 1; omega) _
 have hse : SeP e := of_decide_eq_true HRS.out.symm
 have HSe := hide hse
 clear hse
 have hx4 : ¬ (4 : Int) ≤ (e.os.length : Int) := by have h : ¬ (e.os.length : Int) = 4 := (by simpa using h4); have := HSe.out.2.1; omega
 have hx4d : decide ((4 : Int) ≤ (e.os.length : Int)) = false := decide_eq_false hx4
 have hsb : SbP e.b := of_decide_eq_true HSe.out.1
 have HSb := hide hsb
 clear hsb
 have a4 := BA2.out.c4
 cases h9 : (e.b.nx == 9999)
 rotate_left
 ·have hx9 : (9999 : Int) ≤ e.b.nx := by have : e.b.nx = 9999 := (by simpa using h9); omega
  have hx9d : decide ((9999 : Int) ≤ e.b.nx) = true := decide_eq_true hx9
  have HNO : Hid (bgOk e = false) := by show _ = _; unfold bgOk; rw [← HRS.out, h4, h9]; rfl
  have hno := bg_no HNO.out
  have x0 := BC2.out.c0
  have x1 := BC2.out.c1
  have x2 := BC2.out.c2
  have x3 := BC2.out.c3
  have x4 := BC2.out.c4
  have x5 := BC2.out.c5
  have q0 := BR2.out.c0
  have fq0 := BR2.out.fz 0
  have q1 := BR2.out.c1
  have fq1 := BR2.out.fz 1
  have q2 := BR2.out.c2
  have fq2 := BR2.out.fz 2
  have q3 := BR2.out.c3
  have fq3 := BR2.out.fz 3
  have q4 := BR2.out.c4
  have fq4 := BR2.out.fz 4
  have q5 := BR2.out.c5
  have fq5 := BR2.out.fz 5
  go_wp2
  refine bodyPost_ret (v := .tuple #[.agg #[.slice c.b.va c.b.vs.length c.b.vc, .slice c.b.pa c.b.ps.length c.b.pc, .slice c.b.qa c.b.qs.length c.b.qc, .int .i64 c.b.cs, .int .i64 c.b.nx, .slice c.oa c.os.length c.oc], .int .i64 0, .int .i64 3]) (by simp [results, Tryz.results11, go_sem, q0, q1, q2, q3, q4, q5]) rfl ⟨c, by rw [hno.2.1, hno.2.2], by rw [hno.1]; exact SM.out, ?_, ?_⟩
  ·exact (((((((LX2.out.setl (a := ⟨w.heap.size + 1, 0, none⟩) (by show w.heap.size + 1 < _; omega) _).setl (a := ⟨w.heap.size + 1, 1, none⟩) (by show w.heap.size + 1 < _; omega) _).setl (a := ⟨w.heap.size + 1, 2, none⟩) (by show w.heap.size + 1 < _; omega) _).setl (a := ⟨w.heap.size + 1, 3, none⟩) (by show w.heap.size + 1 < _; omega) _).setl (a := ⟨w.heap.size + 1, 4, none⟩) (by show w.heap.size + 1 < _; omega) _).setl (a := ⟨w.heap.size + 1, 5, none⟩) (by show w.heap.size + 1 < _; omega) _).lie.mono (by omega) (by simp [World.setCell]; omega))
  ·exact (((((HB2.out.setCell (p := ⟨w.heap.size + 1, 0, none⟩) (by show _ ≤ _ + 1; omega) _).setCell (p := ⟨w.heap.size + 1, 1, none⟩) (by show _ ≤ _ + 1; omega) _).setCell (p := ⟨w.heap.size + 1, 2, none⟩) (by show _ ≤ _ + 1; omega) _).setCell (p := ⟨w.heap.size + 1, 3, none⟩) (by show _ ≤ _ + 1; omega) _).setCell (p := ⟨w.heap.size + 1, 4, none⟩) (by show _ ≤ _ + 1; omega) _).setCell (p := ⟨w.heap.size + 1, 5, none⟩) (by show _ ≤ _ + 1; omega) _
 have hx9 : ¬ (9999 : Int) ≤ e.b.nx := by have h : ¬ e.b.nx = 9999 := (by simpa using h9); have := HSb.out.2.2.2.2.1.2; omega
 have hx9d : decide ((9999 : Int) ≤ e.b.nx) = false := decide_eq_false hx9
 have HOK : Hid (bgOk e = true) := by show _ = _; unfold bgOk; rw [← HRS.out, h4, h9]; rfl
 have hnx := HSb.out.2.2.2.2.1.1
 have ew : IntKind.i64.wrap (e.b.nx + 1) = e.b.nx + 1 := by rw [IntKind.wrap_i64]; omega
 have a3 := BA2.out.c3
 have c5 := BC2.out.c5
 have hln : c.os.length ≤ 100000000 := by rw [SM.out.ol]; omega
 have hba : Below w2.heap.size w2 (w2.alloc (.cells #[.int .i64 e.b.nx, .int .i64 1, .int .i64 e.b.cs, .int .i64 0, .slice none 0 0, .slice none 0 0, .bool false, .string ⟨#[]⟩] 56)) := (belowRefl w2).alloc (Nat.le_refl _) _
 have HBK : Hid ((w2.alloc (.cells #[.int .i64 e.b.nx, .int .i64 1, .int .i64 e.b.cs, .int .i64 0, .slice none 0 0, .slice none 0 0, .bool false, .string ⟨#[]⟩] 56)).heap[w2.heap.size]? = some (.cells (encT.enc (newTa e)).toArray 56 (0, 0))) := heap_alloc_new w2 _
 have LX3 : Hid (EnLx (w2.alloc (.cells #[.int .i64 e.b.nx, .int .i64 1, .int .i64 e.b.cs, .int .i64 0, .slice none 0 0, .slice none 0 0, .bool false, .string ⟨#[]⟩] 56)) w0.heap.size m g g g c) := LX2.out.below hba
 have BC3 : Hid (Bx (w2.alloc (.cells #[.int .i64 e.b.nx, .int .i64 1, .int .i64 e.b.cs, .int .i64 0, .slice none 0 0, .slice none 0 0, .bool false, .string ⟨#[]⟩] 56)) g [.slice c.b.va c.b.vs.length c.b.vc, .slice c.b.pa c.b.ps.length c.b.pc, .slice c.b.qa c.b.qs.length c.b.qc, .int .i64 c.b.cs, .int .i64 c.b.nx, .slice c.oa c.os.length c.oc]) := BC2.out.below hba
 have BR3 : Hid (Bx (w2.alloc (.cells #[.int .i64 e.b.nx, .int .i64 1, .int .i64 e.b.cs, .int .i64 0, .slice none 0 0, .slice none 0 0, .bool false, .string ⟨#[]⟩] 56)) (w.heap.size + 1) [.slice none 0 0, .slice none 0 0, .slice none 0 0, .int .i64 0, .int .i64 0, .slice none 0 0]) := BR2.out.below hba
 have HB3 : Hid (Below w.heap.size w (w2.alloc (.cells #[.int .i64 e.b.nx, .int .i64 1, .int .i64 e.b.cs, .int .i64 0, .slice none 0 0, .slice none 0 0, .bool false, .string ⟨#[]⟩] 56))) := HB2.out.trans (hba.mono HB2.out.size)
 have hgl3 : g < (w2.alloc (.cells #[.int .i64 e.b.nx, .int .i64 1, .int .i64 e.b.cs, .int .i64 0, .slice none 0 0, .slice none 0 0, .bool false, .string ⟨#[]⟩] 56)).heap.size := Nat.lt_of_lt_of_le hgl hba.size
 have hmg := LX2.out.mg
 have hlm := LX2.out.lm
 have hbm : m ≤ (w2.alloc (.cells #[.int .i64 e.b.nx, .int .i64 1, .int .i64 e.b.cs, .int .i64 0, .slice none 0 0, .slice none 0 0, .bool false, .string ⟨#[]⟩] 56)).heap.size := by omega
 go_wp2_with (at_builtin; refine wpAppK (E := encT) 31 56 104 _ Tryz.underlying31 Tryz.info56 rfl (by omega) rfl _ _ rfl (base := m) (v := .slice c.oa c.os.length c.oc) (xs := c.os) (newTa e) tone rfl LX3.out.o.own rfl HBK.out hln hbm ?_)
 intro g2 c2 w4 ho hg hg2 hlt2
 have BC4 : Hid (Bx w4 g [.slice c.b.va c.b.vs.length c.b.vc, .slice c.b.pa c.b.ps.length c.b.pc, .slice c.b.qa c.b.qs.length c.b.qc, .int .i64 c.b.cs, .int .i64 c.b.nx, .slice c.oa c.os.length c.oc]) := bx_marked BC3.out hg (fun e9 => by have := LX3.out.o.up _ e9; omega)
 have BR4 : Hid (Bx w4 (w.heap.size + 1) [.slice none 0 0, .slice none 0 0, .slice none 0 0, .int .i64 0, .int .i64 0, .slice none 0 0]) := bx_marked BR3.out hg (fun e9 => by have := LX3.out.o.lo _ e9; omega)
 have hb4 : Below w.heap.size (w2.alloc (.cells #[.int .i64 e.b.nx, .int .i64 1, .int .i64 e.b.cs, .int .i64 0, .slice none 0 0, .slice none 0 0, .bool false, .string ⟨#[]⟩] 56)) w4 := (Zn.ofGrown (lo := m) (hi := g) hg (fun b e9 => LX3.out.o.lo b e9)).below (by omega) (by omega)
 have HB4 : Hid (Below w.heap.size w w4) := HB3.out.trans hb4
 have hg2' : (Value.slice c.oa c.os.length c.oc).ownBlock = some g2 ∨ g2 = (w2.alloc (.cells #[.int .i64 e.b.nx, .int .i64 1, .int .i64 e.b.cs, .int .i64 0, .slice none 0 0, .slice none 0 0, .bool false, .string ⟨#[]⟩] 56)).heap.size := by rw [World.size_alloc]; exact hg2
 have LX4 := hide (lx_more (y := newTa e) LX3.out hgl3 ⟨rfl, rfl, rfl, rfl, rfl, rfl⟩ (e.b.nx + 1) hg hg2' ho)
 have YS4 : Hid (w2.heap.size ≤ w4.heap.size) := Nat.le_trans hba.size hg.size
 clear ho hg hg2 hg2' hb4 hba HBK LX3 BC3 BR3 HB3 hgl3 LX2 BC2 BR2 HB2 a3 a4 a5 c5
 have l5 := BC4.out.c5
 have k5 := BC4.out.fz 5
 have l4 := BC4.out.c4
 have k4 := BC4.out.fz 4
 go_upto_region 7 with fail
 clear l5 k5 l4 k4
 have BC5 := hide ((BC4.out.set 5 (.slice (some ⟨g2, 0, none⟩) (c.os.length + 1) c2)).set 4 (.int .i64 (e.b.nx + 1)))
 have BR5 := hide ((BR4.out.setO (p := ⟨g, 5, none⟩) (by show g ≠ w.heap.size + 1; omega) (.slice (some ⟨g2, 0, none⟩) (c.os.length + 1) c2)).setO (p := ⟨g, 4, none⟩) (by show g ≠ w.heap.size + 1; omega) (.int .i64 (e.b.nx + 1)))
 have LX5 := hide ((LX4.out.setg 5 (.slice (some ⟨g2, 0, none⟩) (c.os.length + 1) c2)).setg 4 (.int .i64 (e.b.nx + 1)))
 have HB5 := hide ((HB4.out.setCell (p := ⟨g, 5, none⟩) (by show _ ≤ g; omega) (.slice (some ⟨g2, 0, none⟩) (c.os.length + 1) c2)).setCell (p := ⟨g, 4, none⟩) (by show _ ≤ g; omega) (.int .i64 (e.b.nx + 1)))
 have YS5 : Hid (w4.heap.size ≤ ((w4.setCell ⟨g, 5, none⟩ (.slice (some ⟨g2, 0, none⟩) (c.os.length + 1) c2)).setCell ⟨g, 4, none⟩ (.int .i64 (e.b.nx + 1))).heap.size) := by show _ ≤ _; simp [World.setCell]
 clear BC4 BR4 LX4 HB4
 generalize ((w4.setCell ⟨g, 5, none⟩ (.slice (some ⟨g2, 0, none⟩) (c.os.length + 1) c2)).setCell ⟨g, 4, none⟩ (.int .i64 (e.b.nx + 1))) = w5 at *
 have hyes := bg_yes HOK.out
 have hl1 : (c.os ++ [newTa e]).length = c.os.length + 1 := by simp
 have hsm : EnSame (bgE e) ⟨⟨c.b.vs, c.b.ps, c.b.qs, c.b.cs, e.b.nx + 1, c.b.va, c.b.vc, c.b.pa, c.b.pc, c.b.qa, c.b.qc⟩, c.os ++ [newTa e], some ⟨g2, 0, none⟩, c2⟩ := by
  rw [hyes.1]
  refine ⟨⟨SM.out.b.v, SM.out.b.p, SM.out.b.q, SM.out.b.cs, rfl⟩, ?_⟩
  show txs (c.os ++ [newTa e]) = txs (e.os ++ [newTa e])
  have h := SM.out.o
  simp only [txs, List.map_append] at h ⊢
  rw [h]
 have HSM := hide hsm
 have HL1 := hide hl1
 have HYE := hide hyes
 have ys4 := YS4.out
 have ys5 := YS5.out
 clear hsm hl1 hyes
 have x0 := BC5.out.c0
 have x1 := BC5.out.c1
 have x2 := BC5.out.c2
 have x3 := BC5.out.c3
 have x4 := BC5.out.c4
 have x5 := BC5.out.c5
 have q0 := BR5.out.c0
 have fq0 := BR5.out.fz 0
 have q1 := BR5.out.c1
 have fq1 := BR5.out.fz 1
 have q2 := BR5.out.c2
 have fq2 := BR5.out.fz 2
 have q3 := BR5.out.c3
 have fq3 := BR5.out.fz 3
 have q4 := BR5.out.c4
 have fq4 := BR5.out.fz 4
 have q5 := BR5.out.c5
 have fq5 := BR5.out.fz 5
 go_wp2
 refine bodyPost_ret (v := .tuple #[.agg #[.slice c.b.va c.b.vs.length c.b.vc, .slice c.b.pa c.b.ps.length c.b.pc, .slice c.b.qa c.b.qs.length c.b.qc, .int .i64 c.b.cs, .int .i64 (e.b.nx + 1), .slice (some ⟨g2, 0, none⟩) (c.os.length + 1) c2], .int .i64 e.b.nx, .int .i64 0]) (by simp [results, Tryz.results11, go_sem, q0, q1, q2, q3, q4, q5]) rfl ⟨⟨⟨c.b.vs, c.b.ps, c.b.qs, c.b.cs, e.b.nx + 1, c.b.va, c.b.vc, c.b.pa, c.b.pc, c.b.qa, c.b.qc⟩, c.os ++ [newTa e], some ⟨g2, 0, none⟩, c2⟩, by rw [HYE.out.2.1, HYE.out.2.2, HL1.out], HSM.out, ?_, ?_⟩
 ·exact (((((((LX5.out.setl (a := ⟨w.heap.size + 1, 0, none⟩) (by show w.heap.size + 1 < _; omega) _).setl (a := ⟨w.heap.size + 1, 1, none⟩) (by show w.heap.size + 1 < _; omega) _).setl (a := ⟨w.heap.size + 1, 2, none⟩) (by show w.heap.size + 1 < _; omega) _).setl (a := ⟨w.heap.size + 1, 3, none⟩) (by show w.heap.size + 1 < _; omega) _).setl (a := ⟨w.heap.size + 1, 4, none⟩) (by show w.heap.size + 1 < _; omega) _).setl (a := ⟨w.heap.size + 1, 5, none⟩) (by show w.heap.size + 1 < _; omega) _).lie.mono (by omega) (by simp [World.setCell]; omega))
 ·exact (((((HB5.out.setCell (p := ⟨w.heap.size + 1, 0, none⟩) (by show _ ≤ _ + 1; omega) _).setCell (p := ⟨w.heap.size + 1, 1, none⟩) (by show _ ≤ _ + 1; omega) _).setCell (p := ⟨w.heap.size + 1, 2, none⟩) (by show _ ≤ _ + 1; omega) _).setCell (p := ⟨w.heap.size + 1, 3, none⟩) (by show _ ≤ _ + 1; omega) _).setCell (p := ⟨w.heap.size + 1, 4, none⟩) (by show _ ≤ _ + 1; omega) _).setCell (p := ⟨w.heap.size + 1, 5, none⟩) (by show _ ≤ _ + 1; omega) _

end Go.Proofs.YtjeicgibddfifaaGreat
