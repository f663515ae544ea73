/- Marks of engines whose zones stand in any order. -/
import Derived.Test.YtjeicgibddfifaaGreatPc33
import Derived.Test.YtjeicgibddfifaaGreatPc27
import Derived.Deep.RegionHeld3
import Derived.Deep.Cut
import Derived.Deep.CutRange
namespace Go.Proofs.YtjeicgibddfifaaGreat
open Go.RowKit
open KM
attribute [local go_sem ↓] Go.wp_at_zero Go.wp_at_succ

set_option maxRecDepth 100000 in
set_option maxHeartbeats 2000000 in
theorem markEq (e : En) (lo hi : Nat) (hf : EnFit e) (w : World) (hz : hi ≤ w.heap.size) (h : EnLq w lo hi e) :
  Calls Tryz.prog 13 #[.agg #[.slice e.b.va e.b.vs.length e.b.vc, .slice e.b.pa e.b.ps.length e.b.pc, .slice e.b.qa e.b.qs.length e.b.qc, .int .i64 e.b.cs, .int .i64 e.b.nx, .slice e.oa e.os.length e.oc], .int .i64 1] w fun ex w' => ∃ (q : Nat) (m : En), ex = .returned (.int .i64 (q : Int)) ∧ EnLq w' lo hi m ∧ Zn lo hi w w' ∧ (∀ W : World, EnRows W m → Calls Tryz.prog 14 #[.agg #[.slice e.b.va e.b.vs.length e.b.vc, .slice e.b.pa e.b.ps.length e.b.pc, .slice e.b.qa e.b.qs.length e.b.qc, .int .i64 e.b.cs, .int .i64 e.b.nx, .slice e.oa e.os.length e.oc], .int .i64 1] W fun ex w' => ex = .returned (.int .i64 (q : Int)) ∧ Below W.heap.size W w') := by
 have BA0 : Hid (Bx (w.alloc (.cells #[.slice e.b.va e.b.vs.length e.b.vc, .slice e.b.pa e.b.ps.length e.b.pc, .slice e.b.qa e.b.qs.length e.b.qc, .int .i64 e.b.cs, .int .i64 e.b.nx, .slice e.oa e.os.length e.oc] 35)) w.heap.size [.slice e.b.va e.b.vs.length e.b.vc, .slice e.b.pa e.b.ps.length e.b.pc, .slice e.b.qa e.b.qs.length e.b.qc, .int .i64 e.b.cs, .int .i64 e.b.nx, .slice e.oa e.os.length e.oc]) := Bx.new w [.slice e.b.va e.b.vs.length e.b.vc, .slice e.b.pa e.b.ps.length e.b.pc, .slice e.b.qa e.b.qs.length e.b.qc, .int .i64 e.b.cs, .int .i64 e.b.nx, .slice e.oa e.os.length e.oc] 35
 have hb0 : Below w.heap.size w (w.alloc (.cells #[.slice e.b.va e.b.vs.length e.b.vc, .slice e.b.pa e.b.ps.length e.b.pc, .slice e.b.qa e.b.qs.length e.b.qc, .int .i64 e.b.cs, .int .i64 e.b.nx, .slice e.oa e.os.length e.oc] 35)) := (belowRefl w).alloc (Nat.le_refl _) _
 have ZW0 : Hid (Zn lo hi w (w.alloc (.cells #[.slice e.b.va e.b.vs.length e.b.vc, .slice e.b.pa e.b.ps.length e.b.pc, .slice e.b.qa e.b.qs.length e.b.qc, .int .i64 e.b.cs, .int .i64 e.b.nx, .slice e.oa e.os.length e.oc] 35))) := Zn.ofBelow lo hi hb0
 obtain ⟨m, k1, k2, hB, hO⟩ := h.ex
 have RB0 : Hid (BLie (w.alloc (.cells #[.slice e.b.va e.b.vs.length e.b.vc, .slice e.b.pa e.b.ps.length e.b.pc, .slice e.b.qa e.b.qs.length e.b.qc, .int .i64 e.b.cs, .int .i64 e.b.nx, .slice e.oa e.os.length e.oc] 35)) lo m e.b) := hB.below hb0
 have RO0 : Hid (LLq (w.alloc (.cells #[.slice e.b.va e.b.vs.length e.b.vc, .slice e.b.pa e.b.ps.length e.b.pc, .slice e.b.qa e.b.qs.length e.b.qc, .int .i64 e.b.cs, .int .i64 e.b.nx, .slice e.oa e.os.length e.oc] 35)) m hi (.slice e.oa e.os.length e.oc) e.os) := hO.below hb0
 have S0 : Hid (hi ≤ (w.alloc (.cells #[.slice e.b.va e.b.vs.length e.b.vc, .slice e.b.pa e.b.ps.length e.b.pc, .slice e.b.qa e.b.qs.length e.b.qc, .int .i64 e.b.cs, .int .i64 e.b.nx, .slice e.oa e.os.length e.oc] 35)).heap.size) := Nat.le_trans hz hb0.size
 have HF : Hid (EnFit e) := hf
 clear h hB hO hb0 hf
 go_enter Tryz.func13, Tryz.ntmps13
 go_upto_region 1 with fail
 generalize (w.alloc (.cells #[.slice e.b.va e.b.vs.length e.b.vc, .slice e.b.pa e.b.ps.length e.b.pc, .slice e.b.qa e.b.qs.length e.b.qc, .int .i64 e.b.cs, .int .i64 e.b.nx, .slice e.oa e.os.length e.oc] 35)) = w0 at *
 have x0 := BA0.out.c0
 have x1 := BA0.out.c1
 have x2 := BA0.out.c2
 have x3 := BA0.out.c3
 have x4 := BA0.out.c4
 go_wp2_with fail
 refine (markB2 e.b lo m HF.out.b _ (Nat.le_trans k2 S0.out) RB0.out).mono ?_
 rintro ex w1 ⟨q1, mb, rfl, hq1, hmb, hz1, hh⟩
 have BA1 : Hid (Bx w1 w.heap.size [.slice e.b.va e.b.vs.length e.b.vc, .slice e.b.pa e.b.ps.length e.b.pc, .slice e.b.qa e.b.qs.length e.b.qc, .int .i64 e.b.cs, .int .i64 e.b.nx, .slice e.oa e.os.length e.oc]) := BA0.out.zn hz1 (by omega)
 have RB1 : Hid (BLie w1 lo m mb) := hmb
 have RO1 : Hid (LLq w1 m hi (.slice e.oa e.os.length e.oc) e.os) := RO0.out.zn hz1 (by omega)
 have ZW1 : Hid (Zn lo hi w w1) := ZW0.out.trans (hz1.mono (Nat.le_refl _) k2)
 have HH := hide hh
 have HQ1 := hide hq1
 clear hmb hz1 hh hq1 BA0 RB0 RO0 ZW0
 clear x0 x1 x2 x3 x4
 have x5 := BA1.out.c5
 obtain ⟨q, hq⟩ : ∃ q, q = q1 + wtL e.os := ⟨_, rfl⟩
 have CL : Hid (Calls Tryz.prog 34 #[.slice e.oa e.os.length e.oc, .int .i64 (q1 : Int)] w1 fun ex w' => ex = .returned (.int .i64 (q : Int)) ∧ LLq w' m hi (.slice e.oa e.os.length e.oc) (mkL e.os q1) ∧ Zn m hi w1 w') := by
  have k := markLq e.os e.oa e.oc e.os.length m hi q1 rfl HF.out.ol (fun y hy => HF.out.o.2 _ (List.mem_map.2 ⟨y, hy, rfl⟩)) HQ1.out.1 HQ1.out.2 w1 RO1.out
  rw [← hq] at k
  exact k
 have HQ := hide hq
 clear hq
 go_wp2_with fail
 refine CL.out.mono ?_
 rintro ex w2 ⟨rfl, hml, hz2⟩
 have RB2 : Hid (BLie w2 lo m mb) := RB1.out.zn hz2 (by omega)
 have ZW2 : Hid (Zn lo hi w w2) := ZW1.out.trans (hz2.mono k1 (Nat.le_refl _))
 have RO2 : Hid (LLq w2 m hi (.slice e.oa e.os.length e.oc) (mkL e.os q1)) := hml
 clear hml hz2 BA1 RB1 RO1 ZW1 x5 CL
 go_wp2
 go_ret
 refine ⟨q, ⟨mb, mkL e.os q1, e.oa, e.oc⟩, rfl, ⟨m, k1, k2, RB2.out, ?_⟩, ZW2.out, fun W hW => heldE e HF.out mb q1 q HQ1.out HQ.out HH.out W hW⟩
 show LLq w2 m hi (.slice e.oa (mkL e.os q1).length e.oc) (mkL e.os q1)
 rw [mkL_len]
 exact RO2.out

end Go.Proofs.YtjeicgibddfifaaGreat
