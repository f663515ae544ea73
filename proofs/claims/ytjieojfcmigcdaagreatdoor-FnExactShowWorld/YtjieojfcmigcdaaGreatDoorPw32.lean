/- The law FnExactShowWorld, walked. -/
import Derived.Test.YtjieojfcmigcdaaGreatDoorPw01
import Derived.Test.YtjieojfcmigcdaaGreatDoorPw30
import Derived.Test.YtjieojfcmigcdaaGreatDoorPw27
import Derived.Test.YtjieojfcmigcdaaGreatDoorPw31
import Derived.Test.YtjieojfcmigcdaaGreatDoorRows
import Derived.Test.YtjieojfcmigcdaaGreatDoorPw05
import Derived.ProofKit
import Derived.LaidMore
import Derived.Stop.Joined
import Derived.Lib.LaidTab
import Derived.Stop.LaidErr
namespace Go.Proofs.YtjieojfcmigcdaaGreatDoor
open Go.RowKit
open KM
open VM
attribute [local go_sem ↓] Go.wp_at_zero Go.wp_at_succ

set_option maxRecDepth 100000 in
set_option maxHeartbeats 4000000 in
theorem law4 (x : Wd) (hc : WdOk x) (w : World) (hpe : WdArg w x) (ht : Tab w) :
  Calls Tryz.prog 4 #[.agg #[.slice x.s.e.b.va x.s.e.b.vs.length x.s.e.b.vc, .slice x.s.e.b.pa x.s.e.b.ps.length x.s.e.b.pc, .slice x.s.e.b.qa x.s.e.b.qs.length x.s.e.b.qc, .int .i64 x.s.e.b.cs, .int .i64 x.s.e.b.nx, .slice x.s.e.oa x.s.e.os.length x.s.e.oc, .slice x.s.d.sa x.s.d.ss.length x.s.d.sc, .slice x.s.d.pa x.s.d.ps.length x.s.d.pc, .slice x.pa x.ps.length x.pc, .slice x.ca x.cs.length x.cc, .slice x.da x.ds.length x.dc]] w fun e w' => e = .returned (.bool true) ∧ Below w.heap.size w w' := by
 have HP : Hid (WdArg w x) := hpe
 have HC := hide hc
 have HT := hide ht
 clear hpe hc ht
 have BX : Hid (Bx (w.alloc (.cells #[.slice x.s.e.b.va x.s.e.b.vs.length x.s.e.b.vc, .slice x.s.e.b.pa x.s.e.b.ps.length x.s.e.b.pc, .slice x.s.e.b.qa x.s.e.b.qs.length x.s.e.b.qc, .int .i64 x.s.e.b.cs, .int .i64 x.s.e.b.nx, .slice x.s.e.oa x.s.e.os.length x.s.e.oc, .slice x.s.d.sa x.s.d.ss.length x.s.d.sc, .slice x.s.d.pa x.s.d.ps.length x.s.d.pc, .slice x.pa x.ps.length x.pc, .slice x.ca x.cs.length x.cc, .slice x.da x.ds.length x.dc] 52)) w.heap.size [.slice x.s.e.b.va x.s.e.b.vs.length x.s.e.b.vc, .slice x.s.e.b.pa x.s.e.b.ps.length x.s.e.b.pc, .slice x.s.e.b.qa x.s.e.b.qs.length x.s.e.b.qc, .int .i64 x.s.e.b.cs, .int .i64 x.s.e.b.nx, .slice x.s.e.oa x.s.e.os.length x.s.e.oc, .slice x.s.d.sa x.s.d.ss.length x.s.d.sc, .slice x.s.d.pa x.s.d.ps.length x.s.d.pc, .slice x.pa x.ps.length x.pc, .slice x.ca x.cs.length x.cc, .slice x.da x.ds.length x.dc]) := Bx.new w [.slice x.s.e.b.va x.s.e.b.vs.length x.s.e.b.vc, .slice x.s.e.b.pa x.s.e.b.ps.length x.s.e.b.pc, .slice x.s.e.b.qa x.s.e.b.qs.length x.s.e.b.qc, .int .i64 x.s.e.b.cs, .int .i64 x.s.e.b.nx, .slice x.s.e.oa x.s.e.os.length x.s.e.oc, .slice x.s.d.sa x.s.d.ss.length x.s.d.sc, .slice x.s.d.pa x.s.d.ps.length x.s.d.pc, .slice x.pa x.ps.length x.pc, .slice x.ca x.cs.length x.cc, .slice x.da x.ds.length x.dc] 52
 have HB : Hid (Below w.heap.size w (w.alloc (.cells #[.slice x.s.e.b.va x.s.e.b.vs.length x.s.e.b.vc, .slice x.s.e.b.pa x.s.e.b.ps.length x.s.e.b.pc, .slice x.s.e.b.qa x.s.e.b.qs.length x.s.e.b.qc, .int .i64 x.s.e.b.cs, .int .i64 x.s.e.b.nx, .slice x.s.e.oa x.s.e.os.length x.s.e.oc, .slice x.s.d.sa x.s.d.ss.length x.s.d.sc, .slice x.s.d.pa x.s.d.ps.length x.s.d.pc, .slice x.pa x.ps.length x.pc, .slice x.ca x.cs.length x.cc, .slice x.da x.ds.length x.dc] 52))) := (belowRefl w).alloc (Nat.le_refl _) _
 have CT := hide (fun (hf : WdFit x) (W : World) (h : Below w.heap.size w W) => toWd x hf W (HP.out.rows.below h))
 go_enter Tryz.func4, Tryz.ntmps4
 go_upto_region 2 with fail
 generalize (w.alloc (.cells #[.slice x.s.e.b.va x.s.e.b.vs.length x.s.e.b.vc, .slice x.s.e.b.pa x.s.e.b.ps.length x.s.e.b.pc, .slice x.s.e.b.qa x.s.e.b.qs.length x.s.e.b.qc, .int .i64 x.s.e.b.cs, .int .i64 x.s.e.b.nx, .slice x.s.e.oa x.s.e.os.length x.s.e.oc, .slice x.s.d.sa x.s.d.ss.length x.s.d.sc, .slice x.s.d.pa x.s.d.ps.length x.s.d.pc, .slice x.pa x.ps.length x.pc, .slice x.ca x.cs.length x.cc, .slice x.da x.ds.length x.dc] 52)) = w0 at *
 have p0 := BX.out.at' 0 (by simp)
 have p1 := BX.out.at' 1 (by simp)
 have p2 := BX.out.at' 2 (by simp)
 have p3 := BX.out.at' 3 (by simp)
 have p4 := BX.out.at' 4 (by simp)
 have p5 := BX.out.at' 5 (by simp)
 have p6 := BX.out.at' 6 (by simp)
 have p7 := BX.out.at' 7 (by simp)
 have p8 := BX.out.at' 8 (by simp)
 have p9 := BX.out.at' 9 (by simp)
 have p10 := BX.out.at' 10 (by simp)
 go_wp2_with fail
 refine (szWd x _ (HP.out.below HB.out)).mono ?_
 rintro e w1 ⟨hb, r, rfl, hr⟩
 have HR := hide hr
 replace HB : Hid (Below w.heap.size w w1) := HB.out.trans (hb.mono HB.out.size)
 replace BX : Hid (Bx w1 w.heap.size [.slice x.s.e.b.va x.s.e.b.vs.length x.s.e.b.vc, .slice x.s.e.b.pa x.s.e.b.ps.length x.s.e.b.pc, .slice x.s.e.b.qa x.s.e.b.qs.length x.s.e.b.qc, .int .i64 x.s.e.b.cs, .int .i64 x.s.e.b.nx, .slice x.s.e.oa x.s.e.os.length x.s.e.oc, .slice x.s.d.sa x.s.d.ss.length x.s.d.sc, .slice x.s.d.pa x.s.d.ps.length x.s.d.pc, .slice x.pa x.ps.length x.pc, .slice x.ca x.cs.length x.cc, .slice x.da x.ds.length x.dc]) := BX.out.below hb
 clear hb hr
 clear p0 p1 p2 p3 p4 p5 p6 p7 p8 p9 p10
 by_cases hn : r < 0
 ·go_wp2
  go_ret
  exact ⟨rfl, HB.out⟩
 have HF : Hid (WdFit x) := HR.out (by omega)
 have p0 := BX.out.at' 0 (by simp)
 have p1 := BX.out.at' 1 (by simp)
 have p2 := BX.out.at' 2 (by simp)
 have p3 := BX.out.at' 3 (by simp)
 have p4 := BX.out.at' 4 (by simp)
 have p5 := BX.out.at' 5 (by simp)
 have p6 := BX.out.at' 6 (by simp)
 have p7 := BX.out.at' 7 (by simp)
 have p8 := BX.out.at' 8 (by simp)
 have p9 := BX.out.at' 9 (by simp)
 have p10 := BX.out.at' 10 (by simp)
 go_wp2_with fail
 refine (CT.out HF.out _ HB.out).mono ?_
 rintro e w2 ⟨c, rfl, hsm, hrw, hb⟩
 have HS := hide hsm
 have RC := hide hrw
 replace HB : Hid (Below w.heap.size w w2) := HB.out.trans (hb.mono HB.out.size)
 replace BX : Hid (Bx w2 w.heap.size [.slice x.s.e.b.va x.s.e.b.vs.length x.s.e.b.vc, .slice x.s.e.b.pa x.s.e.b.ps.length x.s.e.b.pc, .slice x.s.e.b.qa x.s.e.b.qs.length x.s.e.b.qc, .int .i64 x.s.e.b.cs, .int .i64 x.s.e.b.nx, .slice x.s.e.oa x.s.e.os.length x.s.e.oc, .slice x.s.d.sa x.s.d.ss.length x.s.d.sc, .slice x.s.d.pa x.s.d.ps.length x.s.d.pc, .slice x.pa x.ps.length x.pc, .slice x.ca x.cs.length x.cc, .slice x.da x.ds.length x.dc]) := BX.out.below hb
 clear hb hsm hrw
 clear p0 p1 p2 p3 p4 p5 p6 p7 p8 p9 p10
 go_wp2_with fail
 refine (sshowW c (HS.out.fit HF.out) (wd_ok HS.out HC.out) _ RC.out).mono ?_
 rintro e w3 ⟨rfl, hb⟩
 rw [wd_same HS.out]
 replace HB : Hid (Below w.heap.size w w3) := HB.out.trans (hb.mono HB.out.size)
 replace BX : Hid (Bx w3 w.heap.size [.slice x.s.e.b.va x.s.e.b.vs.length x.s.e.b.vc, .slice x.s.e.b.pa x.s.e.b.ps.length x.s.e.b.pc, .slice x.s.e.b.qa x.s.e.b.qs.length x.s.e.b.qc, .int .i64 x.s.e.b.cs, .int .i64 x.s.e.b.nx, .slice x.s.e.oa x.s.e.os.length x.s.e.oc, .slice x.s.d.sa x.s.d.ss.length x.s.d.sc, .slice x.s.d.pa x.s.d.ps.length x.s.d.pc, .slice x.pa x.ps.length x.pc, .slice x.ca x.cs.length x.cc, .slice x.da x.ds.length x.dc]) := BX.out.below hb
 clear hb HS RC
 obtain ⟨r0, hr0⟩ : ∃ r0 : ByteArray, r0 = ⟨(wdL x).toArray⟩ := ⟨_, rfl⟩
 have HR0 : Hid (r0 = ⟨(wdL x).toArray⟩) := hr0
 rw [← hr0]
 clear hr0
 have p0 := BX.out.at' 0 (by simp)
 have p1 := BX.out.at' 1 (by simp)
 have p2 := BX.out.at' 2 (by simp)
 have p3 := BX.out.at' 3 (by simp)
 have p4 := BX.out.at' 4 (by simp)
 have p5 := BX.out.at' 5 (by simp)
 have p6 := BX.out.at' 6 (by simp)
 have p7 := BX.out.at' 7 (by simp)
 have p8 := BX.out.at' 8 (by simp)
 have p9 := BX.out.at' 9 (by simp)
 have p10 := BX.out.at' 10 (by simp)
 go_wp2_with fail
 refine (CT.out HF.out _ HB.out).mono ?_
 rintro e w4 ⟨k, rfl, hsm, hrw, hb⟩
 have HS := hide hsm
 have RQ := hide hrw
 replace HB : Hid (Below w.heap.size w w4) := HB.out.trans (hb.mono HB.out.size)
 replace BX : Hid (Bx w4 w.heap.size [.slice x.s.e.b.va x.s.e.b.vs.length x.s.e.b.vc, .slice x.s.e.b.pa x.s.e.b.ps.length x.s.e.b.pc, .slice x.s.e.b.qa x.s.e.b.qs.length x.s.e.b.qc, .int .i64 x.s.e.b.cs, .int .i64 x.s.e.b.nx, .slice x.s.e.oa x.s.e.os.length x.s.e.oc, .slice x.s.d.sa x.s.d.ss.length x.s.d.sc, .slice x.s.d.pa x.s.d.ps.length x.s.d.pc, .slice x.pa x.ps.length x.pc, .slice x.ca x.cs.length x.cc, .slice x.da x.ds.length x.dc]) := BX.out.below hb
 clear hb hsm hrw
 clear p0 p1 p2 p3 p4 p5 p6 p7 p8 p9 p10
 have BK : Hid (Bx (w4.alloc (.cells #[.slice k.s.e.b.va k.s.e.b.vs.length k.s.e.b.vc, .slice k.s.e.b.pa k.s.e.b.ps.length k.s.e.b.pc, .slice k.s.e.b.qa k.s.e.b.qs.length k.s.e.b.qc, .int .i64 k.s.e.b.cs, .int .i64 k.s.e.b.nx, .slice k.s.e.oa k.s.e.os.length k.s.e.oc, .slice k.s.d.sa k.s.d.ss.length k.s.d.sc, .slice k.s.d.pa k.s.d.ps.length k.s.d.pc, .slice k.pa k.ps.length k.pc, .slice k.ca k.cs.length k.cc, .slice k.da k.ds.length k.dc] 56)) w4.heap.size [.slice k.s.e.b.va k.s.e.b.vs.length k.s.e.b.vc, .slice k.s.e.b.pa k.s.e.b.ps.length k.s.e.b.pc, .slice k.s.e.b.qa k.s.e.b.qs.length k.s.e.b.qc, .int .i64 k.s.e.b.cs, .int .i64 k.s.e.b.nx, .slice k.s.e.oa k.s.e.os.length k.s.e.oc, .slice k.s.d.sa k.s.d.ss.length k.s.d.sc, .slice k.s.d.pa k.s.d.ps.length k.s.d.pc, .slice k.pa k.ps.length k.pc, .slice k.ca k.cs.length k.cc, .slice k.da k.ds.length k.dc]) := Bx.new w4 [.slice k.s.e.b.va k.s.e.b.vs.length k.s.e.b.vc, .slice k.s.e.b.pa k.s.e.b.ps.length k.s.e.b.pc, .slice k.s.e.b.qa k.s.e.b.qs.length k.s.e.b.qc, .int .i64 k.s.e.b.cs, .int .i64 k.s.e.b.nx, .slice k.s.e.oa k.s.e.os.length k.s.e.oc, .slice k.s.d.sa k.s.d.ss.length k.s.d.sc, .slice k.s.d.pa k.s.d.ps.length k.s.d.pc, .slice k.pa k.ps.length k.pc, .slice k.ca k.cs.length k.cc, .slice k.da k.ds.length k.dc] 56
 have hba : Below w4.heap.size w4 (w4.alloc (.cells #[.slice k.s.e.b.va k.s.e.b.vs.length k.s.e.b.vc, .slice k.s.e.b.pa k.s.e.b.ps.length k.s.e.b.pc, .slice k.s.e.b.qa k.s.e.b.qs.length k.s.e.b.qc, .int .i64 k.s.e.b.cs, .int .i64 k.s.e.b.nx, .slice k.s.e.oa k.s.e.os.length k.s.e.oc, .slice k.s.d.sa k.s.d.ss.length k.s.d.sc, .slice k.s.d.pa k.s.d.ps.length k.s.d.pc, .slice k.pa k.ps.length k.pc, .slice k.ca k.cs.length k.cc, .slice k.da k.ds.length k.dc] 56)) := (belowRefl w4).alloc (Nat.le_refl _) _
 replace HB : Hid (Below w.heap.size w (w4.alloc (.cells #[.slice k.s.e.b.va k.s.e.b.vs.length k.s.e.b.vc, .slice k.s.e.b.pa k.s.e.b.ps.length k.s.e.b.pc, .slice k.s.e.b.qa k.s.e.b.qs.length k.s.e.b.qc, .int .i64 k.s.e.b.cs, .int .i64 k.s.e.b.nx, .slice k.s.e.oa k.s.e.os.length k.s.e.oc, .slice k.s.d.sa k.s.d.ss.length k.s.d.sc, .slice k.s.d.pa k.s.d.ps.length k.s.d.pc, .slice k.pa k.ps.length k.pc, .slice k.ca k.cs.length k.cc, .slice k.da k.ds.length k.dc] 56))) := HB.out.trans (hba.mono HB.out.size)
 replace BX : Hid (Bx (w4.alloc (.cells #[.slice k.s.e.b.va k.s.e.b.vs.length k.s.e.b.vc, .slice k.s.e.b.pa k.s.e.b.ps.length k.s.e.b.pc, .slice k.s.e.b.qa k.s.e.b.qs.length k.s.e.b.qc, .int .i64 k.s.e.b.cs, .int .i64 k.s.e.b.nx, .slice k.s.e.oa k.s.e.os.length k.s.e.oc, .slice k.s.d.sa k.s.d.ss.length k.s.d.sc, .slice k.s.d.pa k.s.d.ps.length k.s.d.pc, .slice k.pa k.ps.length k.pc, .slice k.ca k.cs.length k.cc, .slice k.da k.ds.length k.dc] 56)) w.heap.size [.slice x.s.e.b.va x.s.e.b.vs.length x.s.e.b.vc, .slice x.s.e.b.pa x.s.e.b.ps.length x.s.e.b.pc, .slice x.s.e.b.qa x.s.e.b.qs.length x.s.e.b.qc, .int .i64 x.s.e.b.cs, .int .i64 x.s.e.b.nx, .slice x.s.e.oa x.s.e.os.length x.s.e.oc, .slice x.s.d.sa x.s.d.ss.length x.s.d.sc, .slice x.s.d.pa x.s.d.ps.length x.s.d.pc, .slice x.pa x.ps.length x.pc, .slice x.ca x.cs.length x.cc, .slice x.da x.ds.length x.dc]) := BX.out.below hba
 replace RQ : Hid (WdRows (w4.alloc (.cells #[.slice k.s.e.b.va k.s.e.b.vs.length k.s.e.b.vc, .slice k.s.e.b.pa k.s.e.b.ps.length k.s.e.b.pc, .slice k.s.e.b.qa k.s.e.b.qs.length k.s.e.b.qc, .int .i64 k.s.e.b.cs, .int .i64 k.s.e.b.nx, .slice k.s.e.oa k.s.e.os.length k.s.e.oc, .slice k.s.d.sa k.s.d.ss.length k.s.d.sc, .slice k.s.d.pa k.s.d.ps.length k.s.d.pc, .slice k.pa k.ps.length k.pc, .slice k.ca k.cs.length k.cc, .slice k.da k.ds.length k.dc] 56)) k) := RQ.out.below hba
 clear hba
 go_upto_region 7 with fail
 generalize (w4.alloc (.cells #[.slice k.s.e.b.va k.s.e.b.vs.length k.s.e.b.vc, .slice k.s.e.b.pa k.s.e.b.ps.length k.s.e.b.pc, .slice k.s.e.b.qa k.s.e.b.qs.length k.s.e.b.qc, .int .i64 k.s.e.b.cs, .int .i64 k.s.e.b.nx, .slice k.s.e.oa k.s.e.os.length k.s.e.oc, .slice k.s.d.sa k.s.d.ss.length k.s.d.sc, .slice k.s.d.pa k.s.d.ps.length k.s.d.pc, .slice k.pa k.ps.length k.pc, .slice k.ca k.cs.length k.cc, .slice k.da k.ds.length k.dc] 56)) = w5 at *
 have q0 := BK.out.at' 0 (by simp)
 have q1 := BK.out.at' 1 (by simp)
 have q2 := BK.out.at' 2 (by simp)
 have q3 := BK.out.at' 3 (by simp)
 have q4 := BK.out.at' 4 (by simp)
 have q5 := BK.out.at' 5 (by simp)
 have q6 := BK.out.at' 6 (by simp)
 have q7 := BK.out.at' 7 (by simp)
 have q8 := BK.out.at' 8 (by simp)
 have q9 := BK.out.at' 9 (by simp)
 have q10 := BK.out.at' 10 (by simp)
 go_wp2_with fail
 refine (ishowW k (HS.out.fit HF.out) (wd_ok HS.out HC.out) _ RQ.out (HT.out.below HB.out)).mono ?_
 rintro e w6 ⟨rfl, hb⟩
 rw [wd_same HS.out, ← HR0.out]
 replace HB : Hid (Below w.heap.size w w6) := HB.out.trans (hb.mono HB.out.size)
 replace BX : Hid (Bx w6 w.heap.size [.slice x.s.e.b.va x.s.e.b.vs.length x.s.e.b.vc, .slice x.s.e.b.pa x.s.e.b.ps.length x.s.e.b.pc, .slice x.s.e.b.qa x.s.e.b.qs.length x.s.e.b.qc, .int .i64 x.s.e.b.cs, .int .i64 x.s.e.b.nx, .slice x.s.e.oa x.s.e.os.length x.s.e.oc, .slice x.s.d.sa x.s.d.ss.length x.s.d.sc, .slice x.s.d.pa x.s.d.ps.length x.s.d.pc, .slice x.pa x.ps.length x.pc, .slice x.ca x.cs.length x.cc, .slice x.da x.ds.length x.dc]) := BX.out.below hb
 replace BK : Hid (Bx w6 w4.heap.size [.slice k.s.e.b.va k.s.e.b.vs.length k.s.e.b.vc, .slice k.s.e.b.pa k.s.e.b.ps.length k.s.e.b.pc, .slice k.s.e.b.qa k.s.e.b.qs.length k.s.e.b.qc, .int .i64 k.s.e.b.cs, .int .i64 k.s.e.b.nx, .slice k.s.e.oa k.s.e.os.length k.s.e.oc, .slice k.s.d.sa k.s.d.ss.length k.s.d.sc, .slice k.s.d.pa k.s.d.ps.length k.s.d.pc, .slice k.pa k.ps.length k.pc, .slice k.ca k.cs.length k.cc, .slice k.da k.ds.length k.dc]) := BK.out.below hb
 replace RQ : Hid (WdRows w6 k) := RQ.out.below hb
 clear hb
 clear q0 q1 q2 q3 q4 q5 q6 q7 q8 q9 q10
 go_upto_region 10 with fail
 refine wp_region_held_drew (S := fun w' => w'.cell? ⟨w4.heap.size, 0, none⟩ = some (.slice k.s.e.b.va k.s.e.b.vs.length k.s.e.b.vc) ∧ w'.cell? ⟨w4.heap.size, 1, none⟩ = some (.slice k.s.e.b.pa k.s.e.b.ps.length k.s.e.b.pc) ∧ w'.cell? ⟨w4.heap.size, 2, none⟩ = some (.slice k.s.e.b.qa k.s.e.b.qs.length k.s.e.b.qc) ∧ w'.cell? ⟨w4.heap.size, 3, none⟩ = some (.int .i64 k.s.e.b.cs) ∧ w'.cell? ⟨w4.heap.size, 4, none⟩ = some (.int .i64 k.s.e.b.nx) ∧ w'.cell? ⟨w4.heap.size, 5, none⟩ = some (.slice k.s.e.oa k.s.e.os.length k.s.e.oc) ∧ w'.cell? ⟨w4.heap.size, 6, none⟩ = some (.slice k.s.d.sa k.s.d.ss.length k.s.d.sc) ∧ w'.cell? ⟨w4.heap.size, 7, none⟩ = some (.slice k.s.d.pa k.s.d.ps.length k.s.d.pc) ∧ w'.cell? ⟨w4.heap.size, 8, none⟩ = some (.slice k.pa k.ps.length k.pc) ∧ w'.cell? ⟨w4.heap.size, 9, none⟩ = some (.slice k.ca k.cs.length k.cc) ∧ w'.cell? ⟨w4.heap.size, 10, none⟩ = some (.slice k.da k.ds.length k.dc) ∧ w'.cell? ⟨w.heap.size, 0, none⟩ = some (.slice x.s.e.b.va x.s.e.b.vs.length x.s.e.b.vc) ∧ w'.cell? ⟨w.heap.size, 1, none⟩ = some (.slice x.s.e.b.pa x.s.e.b.ps.length x.s.e.b.pc) ∧ w'.cell? ⟨w.heap.size, 2, none⟩ = some (.slice x.s.e.b.qa x.s.e.b.qs.length x.s.e.b.qc) ∧ w'.cell? ⟨w.heap.size, 3, none⟩ = some (.int .i64 x.s.e.b.cs) ∧ w'.cell? ⟨w.heap.size, 4, none⟩ = some (.int .i64 x.s.e.b.nx) ∧ w'.cell? ⟨w.heap.size, 5, none⟩ = some (.slice x.s.e.oa x.s.e.os.length x.s.e.oc) ∧ w'.cell? ⟨w.heap.size, 6, none⟩ = some (.slice x.s.d.sa x.s.d.ss.length x.s.d.sc) ∧ w'.cell? ⟨w.heap.size, 7, none⟩ = some (.slice x.s.d.pa x.s.d.ps.length x.s.d.pc) ∧ w'.cell? ⟨w.heap.size, 8, none⟩ = some (.slice x.pa x.ps.length x.pc) ∧ w'.cell? ⟨w.heap.size, 9, none⟩ = some (.slice x.ca x.cs.length x.cc) ∧ w'.cell? ⟨w.heap.size, 10, none⟩ = some (.slice x.da x.ds.length x.dc)) (by kernel_rfl) ⟨BK.out.at' 0 (by simp), BK.out.at' 1 (by simp), BK.out.at' 2 (by simp), BK.out.at' 3 (by simp), BK.out.at' 4 (by simp), BK.out.at' 5 (by simp), BK.out.at' 6 (by simp), BK.out.at' 7 (by simp), BK.out.at' 8 (by simp), BK.out.at' 9 (by simp), BK.out.at' 10 (by simp), BX.out.at' 0 (by simp), BX.out.at' 1 (by simp), BX.out.at' 2 (by simp), BX.out.at' 3 (by simp), BX.out.at' 4 (by simp), BX.out.at' 5 (by simp), BX.out.at' 6 (by simp), BX.out.at' 7 (by simp), BX.out.at' 8 (by simp), BX.out.at' 9 (by simp), BX.out.at' 10 (by simp)⟩ (fun hHeld => ?_)
 (refine ti 0 ?_; simp only [Act.put, tA, tB, tD, tE, tF])
 (refine ti 1 ?_; simp only [Act.put, tA, tB, tC, tD, tE, tF])
 refine wpAnyH_ready (rs := [2]) (by kernel_rfl) (by simp) ?_
 refine AllReadyH.cons rfl (fun K hK => ?_) AllReadyH.nil
 go_simp
 go_wp2_with fail
 refine (CT.out HF.out _ (HB.out.trans ((belowRefl w6).drew.mono HB.out.size))).mono ?_
 rintro e w7 ⟨j, rfl, hsm, hrw, hb9⟩
 have hb := undrew hb9
 have HJ := hide hsm
 have RJ := hide hrw
 replace HB : Hid (Below w.heap.size w w7) := HB.out.trans (hb.mono HB.out.size)
 replace BX : Hid (Bx w7 w.heap.size [.slice x.s.e.b.va x.s.e.b.vs.length x.s.e.b.vc, .slice x.s.e.b.pa x.s.e.b.ps.length x.s.e.b.pc, .slice x.s.e.b.qa x.s.e.b.qs.length x.s.e.b.qc, .int .i64 x.s.e.b.cs, .int .i64 x.s.e.b.nx, .slice x.s.e.oa x.s.e.os.length x.s.e.oc, .slice x.s.d.sa x.s.d.ss.length x.s.d.sc, .slice x.s.d.pa x.s.d.ps.length x.s.d.pc, .slice x.pa x.ps.length x.pc, .slice x.ca x.cs.length x.cc, .slice x.da x.ds.length x.dc]) := BX.out.below hb
 replace BK : Hid (Bx w7 w4.heap.size [.slice k.s.e.b.va k.s.e.b.vs.length k.s.e.b.vc, .slice k.s.e.b.pa k.s.e.b.ps.length k.s.e.b.pc, .slice k.s.e.b.qa k.s.e.b.qs.length k.s.e.b.qc, .int .i64 k.s.e.b.cs, .int .i64 k.s.e.b.nx, .slice k.s.e.oa k.s.e.os.length k.s.e.oc, .slice k.s.d.sa k.s.d.ss.length k.s.d.sc, .slice k.s.d.pa k.s.d.ps.length k.s.d.pc, .slice k.pa k.ps.length k.pc, .slice k.ca k.cs.length k.cc, .slice k.da k.ds.length k.dc]) := BK.out.below hb
 replace RQ : Hid (WdRows w7 k) := RQ.out.below hb
 go_wp2_with fail
 refine hK.out _ _ ⟨BK.out.at' 0 (by simp), BK.out.at' 1 (by simp), BK.out.at' 2 (by simp), BK.out.at' 3 (by simp), BK.out.at' 4 (by simp), BK.out.at' 5 (by simp), BK.out.at' 6 (by simp), BK.out.at' 7 (by simp), BK.out.at' 8 (by simp), BK.out.at' 9 (by simp), BK.out.at' 10 (by simp), BX.out.at' 0 (by simp), BX.out.at' 1 (by simp), BX.out.at' 2 (by simp), BX.out.at' 3 (by simp), BX.out.at' 4 (by simp), BX.out.at' 5 (by simp), BX.out.at' 6 (by simp), BX.out.at' 7 (by simp), BX.out.at' 8 (by simp), BX.out.at' 9 (by simp), BX.out.at' 10 (by simp)⟩ (fun hHeld7 => ?_)
 clear hK K hb hb9 hsm hrw
 refine wpAnyH_ready (rs := [3]) (by kernel_rfl) (by simp) ?_
 refine AllReadyH.cons rfl (fun K hK => ?_) AllReadyH.nil
 go_simp
 go_wp2_with fail
 refine (eqWd k j (HS.out.symm.trans HJ.out) (HS.out.fit HF.out) _ RQ.out RJ.out).mono ?_
 rintro e w8 ⟨rfl, hb⟩
 replace HB : Hid (Below w.heap.size w w8) := HB.out.trans (hb.mono HB.out.size)
 replace BX : Hid (Bx w8 w.heap.size [.slice x.s.e.b.va x.s.e.b.vs.length x.s.e.b.vc, .slice x.s.e.b.pa x.s.e.b.ps.length x.s.e.b.pc, .slice x.s.e.b.qa x.s.e.b.qs.length x.s.e.b.qc, .int .i64 x.s.e.b.cs, .int .i64 x.s.e.b.nx, .slice x.s.e.oa x.s.e.os.length x.s.e.oc, .slice x.s.d.sa x.s.d.ss.length x.s.d.sc, .slice x.s.d.pa x.s.d.ps.length x.s.d.pc, .slice x.pa x.ps.length x.pc, .slice x.ca x.cs.length x.cc, .slice x.da x.ds.length x.dc]) := BX.out.below hb
 replace BK : Hid (Bx w8 w4.heap.size [.slice k.s.e.b.va k.s.e.b.vs.length k.s.e.b.vc, .slice k.s.e.b.pa k.s.e.b.ps.length k.s.e.b.pc, .slice k.s.e.b.qa k.s.e.b.qs.length k.s.e.b.qc, .int .i64 k.s.e.b.cs, .int .i64 k.s.e.b.nx, .slice k.s.e.oa k.s.e.os.length k.s.e.oc, .slice k.s.d.sa k.s.d.ss.length k.s.d.sc, .slice k.s.d.pa k.s.d.ps.length k.s.d.pc, .slice k.pa k.ps.length k.pc, .slice k.ca k.cs.length k.cc, .slice k.da k.ds.length k.dc]) := BK.out.below hb
 replace RQ : Hid (WdRows w8 k) := RQ.out.below hb
 go_wp2_with fail
 refine hK.out _ _ ⟨BK.out.at' 0 (by simp), BK.out.at' 1 (by simp), BK.out.at' 2 (by simp), BK.out.at' 3 (by simp), BK.out.at' 4 (by simp), BK.out.at' 5 (by simp), BK.out.at' 6 (by simp), BK.out.at' 7 (by simp), BK.out.at' 8 (by simp), BK.out.at' 9 (by simp), BK.out.at' 10 (by simp), BX.out.at' 0 (by simp), BX.out.at' 1 (by simp), BX.out.at' 2 (by simp), BX.out.at' 3 (by simp), BX.out.at' 4 (by simp), BX.out.at' 5 (by simp), BX.out.at' 6 (by simp), BX.out.at' 7 (by simp), BX.out.at' 8 (by simp), BX.out.at' 9 (by simp), BX.out.at' 10 (by simp)⟩ (fun hHeld8 => ?_)
 clear hK K hb
 (refine ti 4 ?_; simp only [Act.put, tA, tB, tC, tD, tE, tF])
 refine wpAnyH_done (by kernel_rfl) ?_ _
 go_wp2
 go_ret
 exact ⟨rfl, HB.out⟩
end Go.Proofs.YtjieojfcmigcdaaGreatDoor

namespace Go.Proofs.YtjieojfcmigcdaaGreatDoor
open Go.ChangeShapes Go.WideShapes Go.ChangeAt Go.RowKit

def laid3 : List (String × DataW Unit) := [("math/bits.deBruijn32tab", Rows.laid_math_bits_deBruijn32tab), ("math/bits.deBruijn64tab", Rows.laid_math_bits_deBruijn64tab), ("internal/strconv.uint64pow10", Rows.laid_internal_strconv_uint64pow10)]

theorem ownD : ownKnob Tryz.prog.godebug = none := by kernel_rfl

set_option maxRecDepth 100000 in
theorem door_met (os : Os) (args : Array Value) : laidMetH Tryz.prog laid3 ((World.doorLaid Tryz.prog 400 os).forCall (fun _ _ => 0) ⟨#[], args, []⟩).memory :=
 laidMetH_of_parts3 (fuel := 8) (laidMet_of_run' 8 (by kernel_rfl) (by kernel_rfl)) (by kernel_rfl) (by kernel_rfl)

theorem pow_tab : (Rows.laid_internal_strconv_uint64pow10 : DataW Unit) = Lib.tabData .u64 Lib.pow10Tab := by kernel_rfl

theorem tPow : (Tryz.prog.globals[1]?).map (·.type) = some 186 := by kernel_rfl
theorem c33 : Tryz.prog.cellsOf 176 = 1 := by kernel_rfl
theorem c40 : Tryz.prog.cellsOf 186 = 20 := by kernel_rfl

set_option maxRecDepth 100000 in
theorem tab_of_laid {W : World} (h : laidMetH Tryz.prog laid3 W) : Tab W := by
 rw [MakeChecks.laidMetH_plain _ _ _ (by kernel_rfl)] at h
 have h2 : laidMet Tryz.prog (("internal/strconv.uint64pow10", Lib.tabData .u64 Lib.pow10Tab) :: []) W := by
  rw [← pow_tab]
  exact h.tail.tail
 exact Lib.tabIs_of_head gPow tPow Tryz.underlying186 Tryz.underlying176 c33 c40 h2
end Go.Proofs.YtjieojfcmigcdaaGreatDoor
