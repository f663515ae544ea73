/- PutKey of the program. -/
import Derived.Test.YtjeicgibddfifaaGreatPc29
import Derived.Test.YtjeicgibddfifaaGreatPc21
import Derived.Deep.RegionHeld3
import Derived.Deep.Cut
import Derived.Deep.CutRange
import Derived.Laws.EntriesVeiled
import Derived.Test.YtjeicgibddfifaaGreatPc15
import Derived.Test.YtjeicgibddfifaaGreatPc07
namespace Go.Proofs.YtjeicgibddfifaaGreat
open Go.RowKit
open KM
attribute [local go_sem ↓] Go.wp_at_zero Go.wp_at_succ

set_option maxRecDepth 100000 in
set_option maxHeartbeats 8000000 in
theorem iputk (e : En) (hf : EnFit e) (i : Int) (x : Wt) (hx : x.1.size ≤ 1048576 ∧ x.2.1.size ≤ 1048576) (w : World) (hp : EnRows w e) :
  Calls Tryz.prog 18 #[.agg #[.slice e.b.va e.b.vs.length e.b.vc, .slice e.b.pa e.b.ps.length e.b.pc, .slice e.b.qa e.b.qs.length e.b.qc, .int .i64 e.b.cs, .int .i64 e.b.nx, .slice e.oa e.os.length e.oc], .int .i64 i, .agg #[.string x.1, .string x.2.1, .bool x.2.2]] w fun ex w' => ∃ d : En, ex = .returned (.tuple #[.agg #[.slice d.b.va d.b.vs.length d.b.vc, .slice d.b.pa d.b.ps.length d.b.pc, .slice d.b.qa d.b.qs.length d.b.qc, .int .i64 d.b.cs, .int .i64 d.b.nx, .slice d.oa d.os.length d.oc], .int .i64 (pkCode e i x)]) ∧ EnSame (pkE e i x) d ∧ EnLq w' w.heap.size w'.heap.size d ∧ Below w.heap.size w w' := by
 have BA0 : Hid (Bx (((w.alloc (.cells #[.slice e.b.va e.b.vs.length e.b.vc, .slice e.b.pa e.b.ps.length e.b.pc, .slice e.b.qa e.b.qs.length e.b.qc, .int .i64 e.b.cs, .int .i64 e.b.nx, .slice e.oa e.os.length e.oc] 35)).alloc (.cells #[.string x.1, .string x.2.1, .bool x.2.2] 47)).alloc (.cells #[.slice none 0 0, .slice none 0 0, .slice none 0 0, .int .i64 0, .int .i64 0, .slice none 0 0] 35)) w.heap.size [.slice e.b.va e.b.vs.length e.b.vc, .slice e.b.pa e.b.ps.length e.b.pc, .slice e.b.qa e.b.qs.length e.b.qc, .int .i64 e.b.cs, .int .i64 e.b.nx, .slice e.oa e.os.length e.oc]) := ((Bx.new w [.slice e.b.va e.b.vs.length e.b.vc, .slice e.b.pa e.b.ps.length e.b.pc, .slice e.b.qa e.b.qs.length e.b.qc, .int .i64 e.b.cs, .int .i64 e.b.nx, .slice e.oa e.os.length e.oc] 35).alloc _).alloc _
 have BX0 : Hid (Bx (((w.alloc (.cells #[.slice e.b.va e.b.vs.length e.b.vc, .slice e.b.pa e.b.ps.length e.b.pc, .slice e.b.qa e.b.qs.length e.b.qc, .int .i64 e.b.cs, .int .i64 e.b.nx, .slice e.oa e.os.length e.oc] 35)).alloc (.cells #[.string x.1, .string x.2.1, .bool x.2.2] 47)).alloc (.cells #[.slice none 0 0, .slice none 0 0, .slice none 0 0, .int .i64 0, .int .i64 0, .slice none 0 0] 35)) (w.heap.size + 1) [.string x.1, .string x.2.1, .bool x.2.2]) := by
  have h := (Bx.new (w.alloc (.cells #[.slice e.b.va e.b.vs.length e.b.vc, .slice e.b.pa e.b.ps.length e.b.pc, .slice e.b.qa e.b.qs.length e.b.qc, .int .i64 e.b.cs, .int .i64 e.b.nx, .slice e.oa e.os.length e.oc] 35)) [.string x.1, .string x.2.1, .bool x.2.2] 47).alloc (.cells #[.slice none 0 0, .slice none 0 0, .slice none 0 0, .int .i64 0, .int .i64 0, .slice none 0 0] 35)
  rw [World.size_alloc] at h
  exact h
 have BR0 : Hid (Bx (((w.alloc (.cells #[.slice e.b.va e.b.vs.length e.b.vc, .slice e.b.pa e.b.ps.length e.b.pc, .slice e.b.qa e.b.qs.length e.b.qc, .int .i64 e.b.cs, .int .i64 e.b.nx, .slice e.oa e.os.length e.oc] 35)).alloc (.cells #[.string x.1, .string x.2.1, .bool x.2.2] 47)).alloc (.cells #[.slice none 0 0, .slice none 0 0, .slice none 0 0, .int .i64 0, .int .i64 0, .slice none 0 0] 35)) (w.heap.size + 1 + 1) [.slice none 0 0, .slice none 0 0, .slice none 0 0, .int .i64 0, .int .i64 0, .slice none 0 0]) := by
  have h := Bx.new ((w.alloc (.cells #[.slice e.b.va e.b.vs.length e.b.vc, .slice e.b.pa e.b.ps.length e.b.pc, .slice e.b.qa e.b.qs.length e.b.qc, .int .i64 e.b.cs, .int .i64 e.b.nx, .slice e.oa e.os.length e.oc] 35)).alloc (.cells #[.string x.1, .string x.2.1, .bool x.2.2] 47)) [.slice none 0 0, .slice none 0 0, .slice none 0 0, .int .i64 0, .int .i64 0, .slice none 0 0] 35
  rw [World.size_alloc, World.size_alloc] at h
  exact h
 have HB0 : Hid (Below w.heap.size w (((w.alloc (.cells #[.slice e.b.va e.b.vs.length e.b.vc, .slice e.b.pa e.b.ps.length e.b.pc, .slice e.b.qa e.b.qs.length e.b.qc, .int .i64 e.b.cs, .int .i64 e.b.nx, .slice e.oa e.os.length e.oc] 35)).alloc (.cells #[.string x.1, .string x.2.1, .bool x.2.2] 47)).alloc (.cells #[.slice none 0 0, .slice none 0 0, .slice none 0 0, .int .i64 0, .int .i64 0, .slice none 0 0] 35))) := (((belowRefl w).alloc (Nat.le_refl _) _).alloc (by simp) _).alloc (by simp; omega) _
 have Y0 : Hid (w.heap.size + 1 + 1 + 1 ≤ (((w.alloc (.cells #[.slice e.b.va e.b.vs.length e.b.vc, .slice e.b.pa e.b.ps.length e.b.pc, .slice e.b.qa e.b.qs.length e.b.qc, .int .i64 e.b.cs, .int .i64 e.b.nx, .slice e.oa e.os.length e.oc] 35)).alloc (.cells #[.string x.1, .string x.2.1, .bool x.2.2] 47)).alloc (.cells #[.slice none 0 0, .slice none 0 0, .slice none 0 0, .int .i64 0, .int .i64 0, .slice none 0 0] 35)).heap.size) := by show _ ≤ _; simp
 have HP : Hid (EnRows w e) := hp
 have HF : Hid (EnFit e) := hf
 clear hp hf
 go_enter Tryz.func18, Tryz.ntmps18
 go_upto_region 1 with fail
 generalize (((w.alloc (.cells #[.slice e.b.va e.b.vs.length e.b.vc, .slice e.b.pa e.b.ps.length e.b.pc, .slice e.b.qa e.b.qs.length e.b.qc, .int .i64 e.b.cs, .int .i64 e.b.nx, .slice e.oa e.os.length e.oc] 35)).alloc (.cells #[.string x.1, .string x.2.1, .bool x.2.2] 47)).alloc (.cells #[.slice none 0 0, .slice none 0 0, .slice none 0 0, .int .i64 0, .int .i64 0, .slice none 0 0] 35)) = w0 at *
 have CH := hide (ihold e HF.out w0 (HP.out.below HB0.out))
 have x0 := BA0.out.c0
 have x1 := BA0.out.c1
 have x2 := BA0.out.c2
 have x3 := BA0.out.c3
 have x4 := BA0.out.c4
 have x5 := BA0.out.c5
 go_wp2_with fail
 refine CH.out.mono ?_
 rintro ex w1 ⟨c, g, rfl, hsm, hl, hgl, hbg, hb⟩
 have HB1 : Hid (Below w.heap.size w w1) := HB0.out.trans (hb.mono HB0.out.size)
 have BR1 : Hid (Bx w1 (w.heap.size + 1 + 1) [.slice none 0 0, .slice none 0 0, .slice none 0 0, .int .i64 0, .int .i64 0, .slice none 0 0]) := BR0.out.below hb
 have BX1 : Hid (Bx w1 (w.heap.size + 1) [.string x.1, .string x.2.1, .bool x.2.2]) := BX0.out.below hb
 obtain ⟨m, hlx⟩ := hl.lx
 have hy0 := Y0.out
 have hxb : w.heap.size + 1 < w0.heap.size := by omega
 have HGW : Hid (g < w1.heap.size) := hbg.lt
 have hlm : w0.heap.size ≤ m := hlx.lm
 have CC : Hid (Calls Tryz.prog 40 #[.pointer (some ⟨g, 0, none⟩), .int .i64 i, .func (.func 41) #[] #[.pointer (some ⟨w.heap.size + 1, 0, none⟩)]] w1 fun ex w' => ∃ (d : En) (p q : Nat), ex = .returned (.tuple #[.agg #[.slice d.b.va d.b.vs.length d.b.vc, .slice d.b.pa d.b.ps.length d.b.pc, .slice d.b.qa d.b.qs.length d.b.qc, .int .i64 d.b.cs, .int .i64 d.b.nx, .slice d.oa d.os.length d.oc], .int .i64 (pkCode e i x)]) ∧ EnSame (pkE e i x) d ∧ EnQ w' w0.heap.size m g p q d ∧ q ≤ w'.heap.size ∧ w1.heap.size ≤ p ∧ Zn m (g + 1) w1 w') := by
  refine (ichopP c (hsm.fit HF.out) i x hx w0.heap.size m g (w.heap.size + 1) hxb w1 hbg BX1.out hlx).mono ?_
  rintro ex w' ⟨d, p, q, h1, h2, h3, h4, h5, h6⟩
  have h := pk_same hsm i x
  refine ⟨d, p, q, by rw [h1, h.1], h.2.trans h2, h3, h4, h5, h6⟩
 clear hb hl hlx hsm hbg BA0 BR0 BX0 HB0 CH
 clear x0 x1 x2 x3 x4 x5
 go_wp2_with fail
 refine CC.out.mono ?_
 rintro ex w2 ⟨d, p, q, rfl, hsm, hq, hqs, hpp, hz⟩
 have BR2 : Hid (Bx w2 (w.heap.size + 1 + 1) [.slice none 0 0, .slice none 0 0, .slice none 0 0, .int .i64 0, .int .i64 0, .slice none 0 0]) := BR1.out.zn hz (Or.inl (by omega))
 have HB2 : Hid (Below w.heap.size w w2) := HB1.out.trans (hz.below (by omega) HB1.out.size)
 have HQ2 := hide hq
 have HQS := hide hqs
 have hrb : w.heap.size + 1 + 1 < w0.heap.size := by omega
 have hwr : w.heap.size ≤ w.heap.size + 1 + 1 := by omega
 have SM := hide hsm
 clear hsm hq hqs hpp hz BR1 BX1 HB1 CC
 have q0 := BR2.out.c0
 have fq0 := BR2.out.fz 0
 have q1 := BR2.out.c1
 have fq1 := BR2.out.fz 1
 have q2 := BR2.out.c2
 have fq2 := BR2.out.fz 2
 have q3 := BR2.out.c3
 have fq3 := BR2.out.fz 3
 have q4 := BR2.out.c4
 have fq4 := BR2.out.fz 4
 have q5 := BR2.out.c5
 have fq5 := BR2.out.fz 5
 go_wp2
 have BR3 : Hid (Bx ((((((w2.setCell ⟨w.heap.size + 1 + 1, 0, none⟩ (.slice d.b.va d.b.vs.length d.b.vc)).setCell ⟨w.heap.size + 1 + 1, 1, none⟩ (.slice d.b.pa d.b.ps.length d.b.pc)).setCell ⟨w.heap.size + 1 + 1, 2, none⟩ (.slice d.b.qa d.b.qs.length d.b.qc)).setCell ⟨w.heap.size + 1 + 1, 3, none⟩ (.int .i64 d.b.cs)).setCell ⟨w.heap.size + 1 + 1, 4, none⟩ (.int .i64 d.b.nx)).setCell ⟨w.heap.size + 1 + 1, 5, none⟩ (.slice d.oa d.os.length d.oc)) (w.heap.size + 1 + 1) [.slice d.b.va d.b.vs.length d.b.vc, .slice d.b.pa d.b.ps.length d.b.pc, .slice d.b.qa d.b.qs.length d.b.qc, .int .i64 d.b.cs, .int .i64 d.b.nx, .slice d.oa d.os.length d.oc]) := (((((BR2.out.set 0 _).set 1 _).set 2 _).set 3 _).set 4 _).set 5 _
 have HQ3 : Hid (EnQ ((((((w2.setCell ⟨w.heap.size + 1 + 1, 0, none⟩ (.slice d.b.va d.b.vs.length d.b.vc)).setCell ⟨w.heap.size + 1 + 1, 1, none⟩ (.slice d.b.pa d.b.ps.length d.b.pc)).setCell ⟨w.heap.size + 1 + 1, 2, none⟩ (.slice d.b.qa d.b.qs.length d.b.qc)).setCell ⟨w.heap.size + 1 + 1, 3, none⟩ (.int .i64 d.b.cs)).setCell ⟨w.heap.size + 1 + 1, 4, none⟩ (.int .i64 d.b.nx)).setCell ⟨w.heap.size + 1 + 1, 5, none⟩ (.slice d.oa d.os.length d.oc)) w0.heap.size m g p q d) := (((((HQ2.out.setr (a := ⟨w.heap.size + 1 + 1, 0, none⟩) (Or.inl hrb) _).setr (a := ⟨w.heap.size + 1 + 1, 1, none⟩) (Or.inl hrb) _).setr (a := ⟨w.heap.size + 1 + 1, 2, none⟩) (Or.inl hrb) _).setr (a := ⟨w.heap.size + 1 + 1, 3, none⟩) (Or.inl hrb) _).setr (a := ⟨w.heap.size + 1 + 1, 4, none⟩) (Or.inl hrb) _).setr (a := ⟨w.heap.size + 1 + 1, 5, none⟩) (Or.inl hrb) _
 have HQS3 : Hid (q ≤ ((((((w2.setCell ⟨w.heap.size + 1 + 1, 0, none⟩ (.slice d.b.va d.b.vs.length d.b.vc)).setCell ⟨w.heap.size + 1 + 1, 1, none⟩ (.slice d.b.pa d.b.ps.length d.b.pc)).setCell ⟨w.heap.size + 1 + 1, 2, none⟩ (.slice d.b.qa d.b.qs.length d.b.qc)).setCell ⟨w.heap.size + 1 + 1, 3, none⟩ (.int .i64 d.b.cs)).setCell ⟨w.heap.size + 1 + 1, 4, none⟩ (.int .i64 d.b.nx)).setCell ⟨w.heap.size + 1 + 1, 5, none⟩ (.slice d.oa d.os.length d.oc)).heap.size) := le_set (le_set (le_set (le_set (le_set (le_set HQS.out _ _) _ _) _ _) _ _) _ _) _ _
 have HB3 : Hid (Below w.heap.size w ((((((w2.setCell ⟨w.heap.size + 1 + 1, 0, none⟩ (.slice d.b.va d.b.vs.length d.b.vc)).setCell ⟨w.heap.size + 1 + 1, 1, none⟩ (.slice d.b.pa d.b.ps.length d.b.pc)).setCell ⟨w.heap.size + 1 + 1, 2, none⟩ (.slice d.b.qa d.b.qs.length d.b.qc)).setCell ⟨w.heap.size + 1 + 1, 3, none⟩ (.int .i64 d.b.cs)).setCell ⟨w.heap.size + 1 + 1, 4, none⟩ (.int .i64 d.b.nx)).setCell ⟨w.heap.size + 1 + 1, 5, none⟩ (.slice d.oa d.os.length d.oc))) := (((((HB2.out.setCell (p := ⟨w.heap.size + 1 + 1, 0, none⟩) hwr _).setCell (p := ⟨w.heap.size + 1 + 1, 1, none⟩) hwr _).setCell (p := ⟨w.heap.size + 1 + 1, 2, none⟩) hwr _).setCell (p := ⟨w.heap.size + 1 + 1, 3, none⟩) hwr _).setCell (p := ⟨w.heap.size + 1 + 1, 4, none⟩) hwr _).setCell (p := ⟨w.heap.size + 1 + 1, 5, none⟩) hwr _
 clear BR2 HQ2 HB2 HQS
 clear q0 fq0 q1 fq1 q2 fq2 q3 fq3 q4 fq4 q5 fq5
 generalize ((((((w2.setCell ⟨w.heap.size + 1 + 1, 0, none⟩ (.slice d.b.va d.b.vs.length d.b.vc)).setCell ⟨w.heap.size + 1 + 1, 1, none⟩ (.slice d.b.pa d.b.ps.length d.b.pc)).setCell ⟨w.heap.size + 1 + 1, 2, none⟩ (.slice d.b.qa d.b.qs.length d.b.qc)).setCell ⟨w.heap.size + 1 + 1, 3, none⟩ (.int .i64 d.b.cs)).setCell ⟨w.heap.size + 1 + 1, 4, none⟩ (.int .i64 d.b.nx)).setCell ⟨w.heap.size + 1 + 1, 5, none⟩ (.slice d.oa d.os.length d.oc)) = w3 at *
 have q0 := BR3.out.c0
 have q1 := BR3.out.c1
 have q2 := BR3.out.c2
 have q3 := BR3.out.c3
 have q4 := BR3.out.c4
 have q5 := BR3.out.c5
 refine bodyPost_ret (v := .tuple #[.agg #[.slice d.b.va d.b.vs.length d.b.vc, .slice d.b.pa d.b.ps.length d.b.pc, .slice d.b.qa d.b.qs.length d.b.qc, .int .i64 d.b.cs, .int .i64 d.b.nx, .slice d.oa d.os.length d.oc], .int .i64 (pkCode e i x)]) (by simp [results, Tryz.results18, go_sem, q0, q1, q2, q3, q4, q5]) rfl ⟨d, rfl, SM.out, HQ3.out.lq (by omega) HQS3.out, HB3.out⟩

end Go.Proofs.YtjeicgibddfifaaGreat

namespace Go.Proofs.YtjeicgibddfifaaGreat
open Go.RowKit
open KM
attribute [local go_sem ↓] Go.wp_at_zero Go.wp_at_succ

end Go.Proofs.YtjeicgibddfifaaGreat

namespace Go.Proofs.YtjeicgibddfifaaGreat
open Go.RowKit
open KM
attribute [local go_sem ↓] Go.wp_at_zero Go.wp_at_succ

end Go.Proofs.YtjeicgibddfifaaGreat
