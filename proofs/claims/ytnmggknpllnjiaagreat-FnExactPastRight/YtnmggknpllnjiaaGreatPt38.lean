/- The law FnExactPastRight, walked. -/
import Derived.Test.YtnmggknpllnjiaaGreatPt01
import Derived.Test.YtnmggknpllnjiaaGreatPt37
import Derived.Test.YtnmggknpllnjiaaGreatPt18
import Derived.Test.YtnmggknpllnjiaaGreatProg
import Derived.WalkKit
import Derived.WalkSpells
import Derived.WalkLawsBesides
import Derived.Deep.QuietTactic
import Derived.BigQuiet
import Derived.Deep.RegionHeld3
import Derived.Deep.DrawnRows
import Derived.Deep.AppendLies
import Derived.Lib.SmallJoins
import Derived.Deep.Strs
import Derived.ProofKit
import Derived.OpenShut
import Derived.ShutString
import Derived.ChangeOld
namespace Go.Proofs.YtnmggknpllnjiaaGreat
open Go.RowKit
open KM
open VM
attribute [local go_sem ↓] Go.wp_at_zero Go.wp_at_succ

theorem goodT_txs (xs ys : List Ta) (h : txs xs = txs ys) : goodT xs = goodT ys := by
 have e1 : ∀ zs : List Ta, (zs.map fun y : Ta => y.t.cs) = (txs zs).map (·.cs) := fun zs => by simp [txs]
 have e2 : ∀ zs : List Ta, doneAll zs = (txs zs).all fun t => decide (t.st = 3) := fun zs => by simp [doneAll, txs, Function.comp_def]
 unfold goodT
 rw [e1, e1, e2, e2, h]
theorem past_same {x c : Wd} (h : WdSame x c) : pastB c = pastB x := by
 unfold pastB
 rw [goodT_txs _ _ h.wp, h.wp, h.ws.e.b.v, h.ws.e.b.cs]

set_option maxRecDepth 100000 in
set_option maxHeartbeats 4000000 in
theorem law3 (x : Wd) (w : World) (hpe : WdArg w x) :
  Calls Tryz.prog 3 #[.agg #[.slice x.s.e.b.va x.s.e.b.vs.length x.s.e.b.vc, .slice x.s.e.b.pa x.s.e.b.ps.length x.s.e.b.pc, .slice x.s.e.b.qa x.s.e.b.qs.length x.s.e.b.qc, .int .i64 x.s.e.b.cs, .int .i64 x.s.e.b.nx, .slice x.s.e.oa x.s.e.os.length x.s.e.oc, .slice x.s.d.sa x.s.d.ss.length x.s.d.sc, .slice x.s.d.pa x.s.d.ps.length x.s.d.pc, .slice x.pa x.ps.length x.pc, .slice x.ca x.cs.length x.cc, .slice x.da x.ds.length x.dc]] w fun e w' => e = .returned (.bool true) ∧ Below w.heap.size w w' := by
 have HP : Hid (WdArg w x) := hpe
 clear hpe
 have BX : Hid (Bx (w.alloc (.cells #[.slice x.s.e.b.va x.s.e.b.vs.length x.s.e.b.vc, .slice x.s.e.b.pa x.s.e.b.ps.length x.s.e.b.pc, .slice x.s.e.b.qa x.s.e.b.qs.length x.s.e.b.qc, .int .i64 x.s.e.b.cs, .int .i64 x.s.e.b.nx, .slice x.s.e.oa x.s.e.os.length x.s.e.oc, .slice x.s.d.sa x.s.d.ss.length x.s.d.sc, .slice x.s.d.pa x.s.d.ps.length x.s.d.pc, .slice x.pa x.ps.length x.pc, .slice x.ca x.cs.length x.cc, .slice x.da x.ds.length x.dc] 36)) w.heap.size [.slice x.s.e.b.va x.s.e.b.vs.length x.s.e.b.vc, .slice x.s.e.b.pa x.s.e.b.ps.length x.s.e.b.pc, .slice x.s.e.b.qa x.s.e.b.qs.length x.s.e.b.qc, .int .i64 x.s.e.b.cs, .int .i64 x.s.e.b.nx, .slice x.s.e.oa x.s.e.os.length x.s.e.oc, .slice x.s.d.sa x.s.d.ss.length x.s.d.sc, .slice x.s.d.pa x.s.d.ps.length x.s.d.pc, .slice x.pa x.ps.length x.pc, .slice x.ca x.cs.length x.cc, .slice x.da x.ds.length x.dc]) := Bx.new w [.slice x.s.e.b.va x.s.e.b.vs.length x.s.e.b.vc, .slice x.s.e.b.pa x.s.e.b.ps.length x.s.e.b.pc, .slice x.s.e.b.qa x.s.e.b.qs.length x.s.e.b.qc, .int .i64 x.s.e.b.cs, .int .i64 x.s.e.b.nx, .slice x.s.e.oa x.s.e.os.length x.s.e.oc, .slice x.s.d.sa x.s.d.ss.length x.s.d.sc, .slice x.s.d.pa x.s.d.ps.length x.s.d.pc, .slice x.pa x.ps.length x.pc, .slice x.ca x.cs.length x.cc, .slice x.da x.ds.length x.dc] 36
 have HB : Hid (Below w.heap.size w (w.alloc (.cells #[.slice x.s.e.b.va x.s.e.b.vs.length x.s.e.b.vc, .slice x.s.e.b.pa x.s.e.b.ps.length x.s.e.b.pc, .slice x.s.e.b.qa x.s.e.b.qs.length x.s.e.b.qc, .int .i64 x.s.e.b.cs, .int .i64 x.s.e.b.nx, .slice x.s.e.oa x.s.e.os.length x.s.e.oc, .slice x.s.d.sa x.s.d.ss.length x.s.d.sc, .slice x.s.d.pa x.s.d.ps.length x.s.d.pc, .slice x.pa x.ps.length x.pc, .slice x.ca x.cs.length x.cc, .slice x.da x.ds.length x.dc] 36))) := (belowRefl w).alloc (Nat.le_refl _) _
 have CT := hide (fun (hf : WdFit x) (W : World) (h : Below w.heap.size w W) => toWd x hf W (HP.out.rows.below h))
 go_enter Tryz.func3, Tryz.ntmps3
 go_upto_region 2 with fail
 generalize (w.alloc (.cells #[.slice x.s.e.b.va x.s.e.b.vs.length x.s.e.b.vc, .slice x.s.e.b.pa x.s.e.b.ps.length x.s.e.b.pc, .slice x.s.e.b.qa x.s.e.b.qs.length x.s.e.b.qc, .int .i64 x.s.e.b.cs, .int .i64 x.s.e.b.nx, .slice x.s.e.oa x.s.e.os.length x.s.e.oc, .slice x.s.d.sa x.s.d.ss.length x.s.d.sc, .slice x.s.d.pa x.s.d.ps.length x.s.d.pc, .slice x.pa x.ps.length x.pc, .slice x.ca x.cs.length x.cc, .slice x.da x.ds.length x.dc] 36)) = w0 at *
 have p0 := BX.out.c0
 have p1 := BX.out.c1
 have p2 := BX.out.c2
 have p3 := BX.out.c3
 have p4 := BX.out.c4
 have p5 := BX.out.c5
 have p6 := BX.out.c6
 have p7 := BX.out.c7
 have p8 := BX.out.at11.1
 have p9 := BX.out.at11.2.1
 have p10 := BX.out.at11.2.2
 go_wp2_with fail
 refine (szWd x _ (HP.out.below HB.out)).mono ?_
 rintro e w1 ⟨hb, r, rfl, hr⟩
 have HR := hide hr
 replace HB : Hid (Below w.heap.size w w1) := HB.out.trans (hb.mono HB.out.size)
 replace BX : Hid (Bx w1 w.heap.size [.slice x.s.e.b.va x.s.e.b.vs.length x.s.e.b.vc, .slice x.s.e.b.pa x.s.e.b.ps.length x.s.e.b.pc, .slice x.s.e.b.qa x.s.e.b.qs.length x.s.e.b.qc, .int .i64 x.s.e.b.cs, .int .i64 x.s.e.b.nx, .slice x.s.e.oa x.s.e.os.length x.s.e.oc, .slice x.s.d.sa x.s.d.ss.length x.s.d.sc, .slice x.s.d.pa x.s.d.ps.length x.s.d.pc, .slice x.pa x.ps.length x.pc, .slice x.ca x.cs.length x.cc, .slice x.da x.ds.length x.dc]) := BX.out.below hb
 clear hb hr
 clear p0 p1 p2 p3 p4 p5 p6 p7 p8 p9 p10
 by_cases hn : r < 0
 ·go_wp2
  go_ret
  exact ⟨rfl, HB.out⟩
 have HF : Hid (WdFit x) := HR.out (by omega)
 have p0 := BX.out.c0
 have p1 := BX.out.c1
 have p2 := BX.out.c2
 have p3 := BX.out.c3
 have p4 := BX.out.c4
 have p5 := BX.out.c5
 have p6 := BX.out.c6
 have p7 := BX.out.c7
 have p8 := BX.out.at11.1
 have p9 := BX.out.at11.2.1
 have p10 := BX.out.at11.2.2
 go_wp2_with fail
 refine (CT.out HF.out _ HB.out).mono ?_
 rintro e w2 ⟨c, rfl, hsm, hrw, hb⟩
 have HS := hide hsm
 have RC := hide hrw
 replace HB : Hid (Below w.heap.size w w2) := HB.out.trans (hb.mono HB.out.size)
 replace BX : Hid (Bx w2 w.heap.size [.slice x.s.e.b.va x.s.e.b.vs.length x.s.e.b.vc, .slice x.s.e.b.pa x.s.e.b.ps.length x.s.e.b.pc, .slice x.s.e.b.qa x.s.e.b.qs.length x.s.e.b.qc, .int .i64 x.s.e.b.cs, .int .i64 x.s.e.b.nx, .slice x.s.e.oa x.s.e.os.length x.s.e.oc, .slice x.s.d.sa x.s.d.ss.length x.s.d.sc, .slice x.s.d.pa x.s.d.ps.length x.s.d.pc, .slice x.pa x.ps.length x.pc, .slice x.ca x.cs.length x.cc, .slice x.da x.ds.length x.dc]) := BX.out.below hb
 clear hb hsm hrw
 clear p0 p1 p2 p3 p4 p5 p6 p7 p8 p9 p10
 go_wp2_with fail
 refine (spast c (HS.out.fit HF.out) _ RC.out).mono ?_
 rintro e w3 ⟨rfl, hb⟩
 rw [past_same HS.out]
 replace HB : Hid (Below w.heap.size w w3) := HB.out.trans (hb.mono HB.out.size)
 replace BX : Hid (Bx w3 w.heap.size [.slice x.s.e.b.va x.s.e.b.vs.length x.s.e.b.vc, .slice x.s.e.b.pa x.s.e.b.ps.length x.s.e.b.pc, .slice x.s.e.b.qa x.s.e.b.qs.length x.s.e.b.qc, .int .i64 x.s.e.b.cs, .int .i64 x.s.e.b.nx, .slice x.s.e.oa x.s.e.os.length x.s.e.oc, .slice x.s.d.sa x.s.d.ss.length x.s.d.sc, .slice x.s.d.pa x.s.d.ps.length x.s.d.pc, .slice x.pa x.ps.length x.pc, .slice x.ca x.cs.length x.cc, .slice x.da x.ds.length x.dc]) := BX.out.below hb
 clear hb HS RC
 obtain ⟨r0, hr0⟩ : ∃ r0, r0 = pastB x := ⟨_, rfl⟩
 have HR0 : Hid (r0 = pastB x) := hr0
 rw [← hr0]
 clear hr0
 have p0 := BX.out.c0
 have p1 := BX.out.c1
 have p2 := BX.out.c2
 have p3 := BX.out.c3
 have p4 := BX.out.c4
 have p5 := BX.out.c5
 have p6 := BX.out.c6
 have p7 := BX.out.c7
 have p8 := BX.out.at11.1
 have p9 := BX.out.at11.2.1
 have p10 := BX.out.at11.2.2
 go_wp2_with fail
 refine (CT.out HF.out _ HB.out).mono ?_
 rintro e w4 ⟨k, rfl, hsm, hrw, hb⟩
 have HS := hide hsm
 have RK := hide hrw
 replace HB : Hid (Below w.heap.size w w4) := HB.out.trans (hb.mono HB.out.size)
 replace BX : Hid (Bx w4 w.heap.size [.slice x.s.e.b.va x.s.e.b.vs.length x.s.e.b.vc, .slice x.s.e.b.pa x.s.e.b.ps.length x.s.e.b.pc, .slice x.s.e.b.qa x.s.e.b.qs.length x.s.e.b.qc, .int .i64 x.s.e.b.cs, .int .i64 x.s.e.b.nx, .slice x.s.e.oa x.s.e.os.length x.s.e.oc, .slice x.s.d.sa x.s.d.ss.length x.s.d.sc, .slice x.s.d.pa x.s.d.ps.length x.s.d.pc, .slice x.pa x.ps.length x.pc, .slice x.ca x.cs.length x.cc, .slice x.da x.ds.length x.dc]) := BX.out.below hb
 clear hb hsm hrw
 clear p0 p1 p2 p3 p4 p5 p6 p7 p8 p9 p10
 have BK : Hid (Bx (w4.alloc (.cells #[.slice k.s.e.b.va k.s.e.b.vs.length k.s.e.b.vc, .slice k.s.e.b.pa k.s.e.b.ps.length k.s.e.b.pc, .slice k.s.e.b.qa k.s.e.b.qs.length k.s.e.b.qc, .int .i64 k.s.e.b.cs, .int .i64 k.s.e.b.nx, .slice k.s.e.oa k.s.e.os.length k.s.e.oc, .slice k.s.d.sa k.s.d.ss.length k.s.d.sc, .slice k.s.d.pa k.s.d.ps.length k.s.d.pc, .slice k.pa k.ps.length k.pc, .slice k.ca k.cs.length k.cc, .slice k.da k.ds.length k.dc] 51)) w4.heap.size [.slice k.s.e.b.va k.s.e.b.vs.length k.s.e.b.vc, .slice k.s.e.b.pa k.s.e.b.ps.length k.s.e.b.pc, .slice k.s.e.b.qa k.s.e.b.qs.length k.s.e.b.qc, .int .i64 k.s.e.b.cs, .int .i64 k.s.e.b.nx, .slice k.s.e.oa k.s.e.os.length k.s.e.oc, .slice k.s.d.sa k.s.d.ss.length k.s.d.sc, .slice k.s.d.pa k.s.d.ps.length k.s.d.pc, .slice k.pa k.ps.length k.pc, .slice k.ca k.cs.length k.cc, .slice k.da k.ds.length k.dc]) := Bx.new w4 [.slice k.s.e.b.va k.s.e.b.vs.length k.s.e.b.vc, .slice k.s.e.b.pa k.s.e.b.ps.length k.s.e.b.pc, .slice k.s.e.b.qa k.s.e.b.qs.length k.s.e.b.qc, .int .i64 k.s.e.b.cs, .int .i64 k.s.e.b.nx, .slice k.s.e.oa k.s.e.os.length k.s.e.oc, .slice k.s.d.sa k.s.d.ss.length k.s.d.sc, .slice k.s.d.pa k.s.d.ps.length k.s.d.pc, .slice k.pa k.ps.length k.pc, .slice k.ca k.cs.length k.cc, .slice k.da k.ds.length k.dc] 51
 have hba : Below w4.heap.size w4 (w4.alloc (.cells #[.slice k.s.e.b.va k.s.e.b.vs.length k.s.e.b.vc, .slice k.s.e.b.pa k.s.e.b.ps.length k.s.e.b.pc, .slice k.s.e.b.qa k.s.e.b.qs.length k.s.e.b.qc, .int .i64 k.s.e.b.cs, .int .i64 k.s.e.b.nx, .slice k.s.e.oa k.s.e.os.length k.s.e.oc, .slice k.s.d.sa k.s.d.ss.length k.s.d.sc, .slice k.s.d.pa k.s.d.ps.length k.s.d.pc, .slice k.pa k.ps.length k.pc, .slice k.ca k.cs.length k.cc, .slice k.da k.ds.length k.dc] 51)) := (belowRefl w4).alloc (Nat.le_refl _) _
 replace HB : Hid (Below w.heap.size w (w4.alloc (.cells #[.slice k.s.e.b.va k.s.e.b.vs.length k.s.e.b.vc, .slice k.s.e.b.pa k.s.e.b.ps.length k.s.e.b.pc, .slice k.s.e.b.qa k.s.e.b.qs.length k.s.e.b.qc, .int .i64 k.s.e.b.cs, .int .i64 k.s.e.b.nx, .slice k.s.e.oa k.s.e.os.length k.s.e.oc, .slice k.s.d.sa k.s.d.ss.length k.s.d.sc, .slice k.s.d.pa k.s.d.ps.length k.s.d.pc, .slice k.pa k.ps.length k.pc, .slice k.ca k.cs.length k.cc, .slice k.da k.ds.length k.dc] 51))) := HB.out.trans (hba.mono HB.out.size)
 replace BX : Hid (Bx (w4.alloc (.cells #[.slice k.s.e.b.va k.s.e.b.vs.length k.s.e.b.vc, .slice k.s.e.b.pa k.s.e.b.ps.length k.s.e.b.pc, .slice k.s.e.b.qa k.s.e.b.qs.length k.s.e.b.qc, .int .i64 k.s.e.b.cs, .int .i64 k.s.e.b.nx, .slice k.s.e.oa k.s.e.os.length k.s.e.oc, .slice k.s.d.sa k.s.d.ss.length k.s.d.sc, .slice k.s.d.pa k.s.d.ps.length k.s.d.pc, .slice k.pa k.ps.length k.pc, .slice k.ca k.cs.length k.cc, .slice k.da k.ds.length k.dc] 51)) w.heap.size [.slice x.s.e.b.va x.s.e.b.vs.length x.s.e.b.vc, .slice x.s.e.b.pa x.s.e.b.ps.length x.s.e.b.pc, .slice x.s.e.b.qa x.s.e.b.qs.length x.s.e.b.qc, .int .i64 x.s.e.b.cs, .int .i64 x.s.e.b.nx, .slice x.s.e.oa x.s.e.os.length x.s.e.oc, .slice x.s.d.sa x.s.d.ss.length x.s.d.sc, .slice x.s.d.pa x.s.d.ps.length x.s.d.pc, .slice x.pa x.ps.length x.pc, .slice x.ca x.cs.length x.cc, .slice x.da x.ds.length x.dc]) := BX.out.below hba
 replace RK : Hid (WdRows (w4.alloc (.cells #[.slice k.s.e.b.va k.s.e.b.vs.length k.s.e.b.vc, .slice k.s.e.b.pa k.s.e.b.ps.length k.s.e.b.pc, .slice k.s.e.b.qa k.s.e.b.qs.length k.s.e.b.qc, .int .i64 k.s.e.b.cs, .int .i64 k.s.e.b.nx, .slice k.s.e.oa k.s.e.os.length k.s.e.oc, .slice k.s.d.sa k.s.d.ss.length k.s.d.sc, .slice k.s.d.pa k.s.d.ps.length k.s.d.pc, .slice k.pa k.ps.length k.pc, .slice k.ca k.cs.length k.cc, .slice k.da k.ds.length k.dc] 51)) k) := RK.out.below hba
 clear hba
 go_upto_region 7 with fail
 generalize (w4.alloc (.cells #[.slice k.s.e.b.va k.s.e.b.vs.length k.s.e.b.vc, .slice k.s.e.b.pa k.s.e.b.ps.length k.s.e.b.pc, .slice k.s.e.b.qa k.s.e.b.qs.length k.s.e.b.qc, .int .i64 k.s.e.b.cs, .int .i64 k.s.e.b.nx, .slice k.s.e.oa k.s.e.os.length k.s.e.oc, .slice k.s.d.sa k.s.d.ss.length k.s.d.sc, .slice k.s.d.pa k.s.d.ps.length k.s.d.pc, .slice k.pa k.ps.length k.pc, .slice k.ca k.cs.length k.cc, .slice k.da k.ds.length k.dc] 51)) = w5 at *
 have q0 := BK.out.c0
 have q1 := BK.out.c1
 have q2 := BK.out.c2
 have q3 := BK.out.c3
 have q4 := BK.out.c4
 have q5 := BK.out.c5
 have q6 := BK.out.c6
 have q7 := BK.out.c7
 have q8 := BK.out.at11.1
 have q9 := BK.out.at11.2.1
 have q10 := BK.out.at11.2.2
 go_wp2_with fail
 refine (ipast k (HS.out.fit HF.out) _ RK.out).mono ?_
 rintro e w6 ⟨rfl, hb⟩
 rw [past_same HS.out, ← HR0.out]
 replace HB : Hid (Below w.heap.size w w6) := HB.out.trans (hb.mono HB.out.size)
 replace BX : Hid (Bx w6 w.heap.size [.slice x.s.e.b.va x.s.e.b.vs.length x.s.e.b.vc, .slice x.s.e.b.pa x.s.e.b.ps.length x.s.e.b.pc, .slice x.s.e.b.qa x.s.e.b.qs.length x.s.e.b.qc, .int .i64 x.s.e.b.cs, .int .i64 x.s.e.b.nx, .slice x.s.e.oa x.s.e.os.length x.s.e.oc, .slice x.s.d.sa x.s.d.ss.length x.s.d.sc, .slice x.s.d.pa x.s.d.ps.length x.s.d.pc, .slice x.pa x.ps.length x.pc, .slice x.ca x.cs.length x.cc, .slice x.da x.ds.length x.dc]) := BX.out.below hb
 replace BK : Hid (Bx w6 w4.heap.size [.slice k.s.e.b.va k.s.e.b.vs.length k.s.e.b.vc, .slice k.s.e.b.pa k.s.e.b.ps.length k.s.e.b.pc, .slice k.s.e.b.qa k.s.e.b.qs.length k.s.e.b.qc, .int .i64 k.s.e.b.cs, .int .i64 k.s.e.b.nx, .slice k.s.e.oa k.s.e.os.length k.s.e.oc, .slice k.s.d.sa k.s.d.ss.length k.s.d.sc, .slice k.s.d.pa k.s.d.ps.length k.s.d.pc, .slice k.pa k.ps.length k.pc, .slice k.ca k.cs.length k.cc, .slice k.da k.ds.length k.dc]) := BK.out.below hb
 replace RK : Hid (WdRows w6 k) := RK.out.below hb
 clear hb
 clear q0 q1 q2 q3 q4 q5 q6 q7 q8 q9 q10
 have hrr : (r0 != r0) = false := by simp
 go_upto_region 10 with fail
 clear hrr
 refine wp_region_held_drew (S := fun w' => w'.cell? ⟨w4.heap.size, 0, none⟩ = some (.slice k.s.e.b.va k.s.e.b.vs.length k.s.e.b.vc) ∧ w'.cell? ⟨w4.heap.size, 1, none⟩ = some (.slice k.s.e.b.pa k.s.e.b.ps.length k.s.e.b.pc) ∧ w'.cell? ⟨w4.heap.size, 2, none⟩ = some (.slice k.s.e.b.qa k.s.e.b.qs.length k.s.e.b.qc) ∧ w'.cell? ⟨w4.heap.size, 3, none⟩ = some (.int .i64 k.s.e.b.cs) ∧ w'.cell? ⟨w4.heap.size, 4, none⟩ = some (.int .i64 k.s.e.b.nx) ∧ w'.cell? ⟨w4.heap.size, 5, none⟩ = some (.slice k.s.e.oa k.s.e.os.length k.s.e.oc) ∧ w'.cell? ⟨w4.heap.size, 6, none⟩ = some (.slice k.s.d.sa k.s.d.ss.length k.s.d.sc) ∧ w'.cell? ⟨w4.heap.size, 7, none⟩ = some (.slice k.s.d.pa k.s.d.ps.length k.s.d.pc) ∧ w'.cell? ⟨w4.heap.size, 8, none⟩ = some (.slice k.pa k.ps.length k.pc) ∧ w'.cell? ⟨w4.heap.size, 9, none⟩ = some (.slice k.ca k.cs.length k.cc) ∧ w'.cell? ⟨w4.heap.size, 10, none⟩ = some (.slice k.da k.ds.length k.dc) ∧ w'.cell? ⟨w.heap.size, 0, none⟩ = some (.slice x.s.e.b.va x.s.e.b.vs.length x.s.e.b.vc) ∧ w'.cell? ⟨w.heap.size, 1, none⟩ = some (.slice x.s.e.b.pa x.s.e.b.ps.length x.s.e.b.pc) ∧ w'.cell? ⟨w.heap.size, 2, none⟩ = some (.slice x.s.e.b.qa x.s.e.b.qs.length x.s.e.b.qc) ∧ w'.cell? ⟨w.heap.size, 3, none⟩ = some (.int .i64 x.s.e.b.cs) ∧ w'.cell? ⟨w.heap.size, 4, none⟩ = some (.int .i64 x.s.e.b.nx) ∧ w'.cell? ⟨w.heap.size, 5, none⟩ = some (.slice x.s.e.oa x.s.e.os.length x.s.e.oc) ∧ w'.cell? ⟨w.heap.size, 6, none⟩ = some (.slice x.s.d.sa x.s.d.ss.length x.s.d.sc) ∧ w'.cell? ⟨w.heap.size, 7, none⟩ = some (.slice x.s.d.pa x.s.d.ps.length x.s.d.pc) ∧ w'.cell? ⟨w.heap.size, 8, none⟩ = some (.slice x.pa x.ps.length x.pc) ∧ w'.cell? ⟨w.heap.size, 9, none⟩ = some (.slice x.ca x.cs.length x.cc) ∧ w'.cell? ⟨w.heap.size, 10, none⟩ = some (.slice x.da x.ds.length x.dc)) (by kernel_rfl) ⟨BK.out.c0, BK.out.c1, BK.out.c2, BK.out.c3, BK.out.c4, BK.out.c5, BK.out.c6, BK.out.c7, BK.out.at11.1, BK.out.at11.2.1, BK.out.at11.2.2, BX.out.c0, BX.out.c1, BX.out.c2, BX.out.c3, BX.out.c4, BX.out.c5, BX.out.c6, BX.out.c7, BX.out.at11.1, BX.out.at11.2.1, BX.out.at11.2.2⟩ (fun hHeld => ?_)
 (refine tk 0 ?_ rfl (Or.inl ⟨by rfl, ?_⟩) ?_; rotate_left; (focus (intro w h; (try dsimp only at h); go_simp; (try with_reducible rfl))); simp only [Act.put, tA, tB, tD, tE, tF])
 (refine tk 1 ?_ rfl (Or.inl ⟨by rfl, ?_⟩) ?_; rotate_left; (focus (intro w h; (try dsimp only at h); go_simp; (try with_reducible rfl))); simp only [Act.put, tA, tB, tC, tD, tE, tF])
 refine wpAnyH_ready (rs := [2]) (by kernel_rfl) (by simp) ?_
 refine AllReadyH.cons rfl (fun K hK => ?_) AllReadyH.nil
 go_simp
 go_wp2_with fail
 refine (CT.out HF.out _ (HB.out.trans ((belowRefl w6).drew.mono HB.out.size))).mono ?_
 rintro e w7 ⟨j, rfl, hsm, hrw, hb⟩
 have hbu := undrew hb
 have HJ := hide hsm
 have RJ := hide hrw
 replace HB : Hid (Below w.heap.size w w7) := HB.out.trans (hbu.mono HB.out.size)
 replace BX : Hid (Bx w7 w.heap.size [.slice x.s.e.b.va x.s.e.b.vs.length x.s.e.b.vc, .slice x.s.e.b.pa x.s.e.b.ps.length x.s.e.b.pc, .slice x.s.e.b.qa x.s.e.b.qs.length x.s.e.b.qc, .int .i64 x.s.e.b.cs, .int .i64 x.s.e.b.nx, .slice x.s.e.oa x.s.e.os.length x.s.e.oc, .slice x.s.d.sa x.s.d.ss.length x.s.d.sc, .slice x.s.d.pa x.s.d.ps.length x.s.d.pc, .slice x.pa x.ps.length x.pc, .slice x.ca x.cs.length x.cc, .slice x.da x.ds.length x.dc]) := BX.out.below hbu
 replace BK : Hid (Bx w7 w4.heap.size [.slice k.s.e.b.va k.s.e.b.vs.length k.s.e.b.vc, .slice k.s.e.b.pa k.s.e.b.ps.length k.s.e.b.pc, .slice k.s.e.b.qa k.s.e.b.qs.length k.s.e.b.qc, .int .i64 k.s.e.b.cs, .int .i64 k.s.e.b.nx, .slice k.s.e.oa k.s.e.os.length k.s.e.oc, .slice k.s.d.sa k.s.d.ss.length k.s.d.sc, .slice k.s.d.pa k.s.d.ps.length k.s.d.pc, .slice k.pa k.ps.length k.pc, .slice k.ca k.cs.length k.cc, .slice k.da k.ds.length k.dc]) := BK.out.below hbu
 replace RK : Hid (WdRows w7 k) := RK.out.below hbu
 go_wp2_with fail
 refine hK.out _ _ ⟨BK.out.c0, BK.out.c1, BK.out.c2, BK.out.c3, BK.out.c4, BK.out.c5, BK.out.c6, BK.out.c7, BK.out.at11.1, BK.out.at11.2.1, BK.out.at11.2.2, BX.out.c0, BX.out.c1, BX.out.c2, BX.out.c3, BX.out.c4, BX.out.c5, BX.out.c6, BX.out.c7, BX.out.at11.1, BX.out.at11.2.1, BX.out.at11.2.2⟩ (fun hHeld7 => ?_)
 clear hK K hb hbu hsm hrw
 refine wpAnyH_ready (rs := [3]) (by kernel_rfl) (by simp) ?_
 refine AllReadyH.cons rfl (fun K hK => ?_) AllReadyH.nil
 go_simp
 go_wp2_with fail
 refine (eqWd k j (HS.out.symm.trans HJ.out) (HS.out.fit HF.out) _ RK.out RJ.out).mono ?_
 rintro e w8 ⟨rfl, hb⟩
 replace HB : Hid (Below w.heap.size w w8) := HB.out.trans (hb.mono HB.out.size)
 replace BX : Hid (Bx w8 w.heap.size [.slice x.s.e.b.va x.s.e.b.vs.length x.s.e.b.vc, .slice x.s.e.b.pa x.s.e.b.ps.length x.s.e.b.pc, .slice x.s.e.b.qa x.s.e.b.qs.length x.s.e.b.qc, .int .i64 x.s.e.b.cs, .int .i64 x.s.e.b.nx, .slice x.s.e.oa x.s.e.os.length x.s.e.oc, .slice x.s.d.sa x.s.d.ss.length x.s.d.sc, .slice x.s.d.pa x.s.d.ps.length x.s.d.pc, .slice x.pa x.ps.length x.pc, .slice x.ca x.cs.length x.cc, .slice x.da x.ds.length x.dc]) := BX.out.below hb
 replace BK : Hid (Bx w8 w4.heap.size [.slice k.s.e.b.va k.s.e.b.vs.length k.s.e.b.vc, .slice k.s.e.b.pa k.s.e.b.ps.length k.s.e.b.pc, .slice k.s.e.b.qa k.s.e.b.qs.length k.s.e.b.qc, .int .i64 k.s.e.b.cs, .int .i64 k.s.e.b.nx, .slice k.s.e.oa k.s.e.os.length k.s.e.oc, .slice k.s.d.sa k.s.d.ss.length k.s.d.sc, .slice k.s.d.pa k.s.d.ps.length k.s.d.pc, .slice k.pa k.ps.length k.pc, .slice k.ca k.cs.length k.cc, .slice k.da k.ds.length k.dc]) := BK.out.below hb
 replace RK : Hid (WdRows w8 k) := RK.out.below hb
 go_wp2_with fail
 refine hK.out _ _ ⟨BK.out.c0, BK.out.c1, BK.out.c2, BK.out.c3, BK.out.c4, BK.out.c5, BK.out.c6, BK.out.c7, BK.out.at11.1, BK.out.at11.2.1, BK.out.at11.2.2, BX.out.c0, BX.out.c1, BX.out.c2, BX.out.c3, BX.out.c4, BX.out.c5, BX.out.c6, BX.out.c7, BX.out.at11.1, BX.out.at11.2.1, BX.out.at11.2.2⟩ (fun hHeld8 => ?_)
 clear hK K hb
 (refine tk 4 ?_ rfl (Or.inl ⟨by rfl, ?_⟩) ?_; rotate_left; (focus (intro w h; (try dsimp only at h); go_simp; (try with_reducible rfl))); simp only [Act.put, tA, tB, tC, tD, tE, tF])
 refine wpAnyH_done (by kernel_rfl) ?_ _
 go_wp2
 go_ret
 exact ⟨rfl, HB.out⟩
end Go.Proofs.YtnmggknpllnjiaaGreat

namespace Go.Proofs.YtnmggknpllnjiaaGreat
open Go.ChangeShapes Go.WideShapes Go.ChangeAt Go.RowKit Go.Deep
open KM

section
variable {H : Type} {enc : TypeId × Value → H} {W : World} {base : Nat}

set_option maxRecDepth 100000 in
theorem each_range {T n : Nat} {cs : List Value} {x : DataW H × List MemPlace} {f0 f1 : Field} (ht : Tryz.prog.underlying T = some (.struct #[f0, f1])) (h0 : f0.type = 9) (h1 : f1.type = 9) (o0 : f0.offset = 0) (o1 : f1.offset = 1)
  (h : DataW.trod enc Tryz.prog W 0 (fun _ => true) true n T cs = some x) (hl : cs.length = 2) : ∃ y : Rg, cs = encR.enc y ∧ (y.1.size ≤ maxLen ∧ y.2.size ≤ maxLen) := by
 obtain ⟨y0, y1, m, _, _, g0, g1⟩ := trod_struct2 ht h
 match cs, hl with
 | [c0, c1], _ =>
  rw [h0, o0, show Tryz.prog.cellsOf 9 = 1 by kernel_rfl] at g0
  rw [h1, o1, show Tryz.prog.cellsOf 9 = 1 by kernel_rfl] at g1
  simp only [List.drop_zero, List.take_succ_cons, List.take_zero, List.drop_succ_cons] at g0 g1
  obtain ⟨s0, e0, _, b0⟩ := DataW.trod_string Tryz.underlying9 g0
  obtain ⟨s1, e1, _, b1⟩ := DataW.trod_string Tryz.underlying9 g1
  simp only [List.cons.injEq, and_true] at e0 e1
  subst e0 e1
  exact ⟨(s0, s1), rfl, b0, b1⟩

set_option maxRecDepth 100000 in
theorem each_write {T n : Nat} {cs : List Value} {x : DataW H × List MemPlace} {f0 f1 f2 : Field} (ht : Tryz.prog.underlying T = some (.struct #[f0, f1, f2])) (h0 : f0.type = 9) (h1 : f1.type = 9) (h2 : f2.type = 4) (o0 : f0.offset = 0) (o1 : f1.offset = 1) (o2 : f2.offset = 2)
  (h : DataW.trod enc Tryz.prog W 0 (fun _ => true) true n T cs = some x) (hl : cs.length = 3) : ∃ y : Wt, cs = encW.enc y ∧ (y.1.size ≤ maxLen ∧ y.2.1.size ≤ maxLen) := by
 obtain ⟨y0, y1, y2, m, _, _, g0, g1, g2⟩ := trod_struct3 ht h
 match cs, hl with
 | [c0, c1, c2], _ =>
  rw [h0, o0, show Tryz.prog.cellsOf 9 = 1 by kernel_rfl] at g0
  rw [h1, o1, show Tryz.prog.cellsOf 9 = 1 by kernel_rfl] at g1
  rw [h2, o2, show Tryz.prog.cellsOf 4 = 1 by kernel_rfl] at g2
  simp only [List.drop_zero, List.take_succ_cons, List.take_zero, List.drop_succ_cons] at g0 g1 g2
  obtain ⟨s0, e0, _, b0⟩ := DataW.trod_string Tryz.underlying9 g0
  obtain ⟨s1, e1, _, b1⟩ := DataW.trod_string Tryz.underlying9 g1
  obtain ⟨s2, e2, _⟩ := DataW.trod_bool Tryz.underlying4 g2
  simp only [List.cons.injEq, and_true] at e0 e1 e2
  subst e0 e1 e2
  exact ⟨(s0, s1, s2), rfl, b0, b1⟩

end
end Go.Proofs.YtnmggknpllnjiaaGreat
