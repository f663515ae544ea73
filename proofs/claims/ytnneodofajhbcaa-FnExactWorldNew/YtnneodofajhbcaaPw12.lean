/- Marks of engines. -/
import Derived.Test.YtnneodofajhbcaaPw04
import Derived.Test.YtnneodofajhbcaaPw11
import Derived.Test.YtnneodofajhbcaaPw09
import Derived.Test.YtnneodofajhbcaaPw10
import Derived.Test.YtnneodofajhbcaaPw02
import Derived.Deep.RegionHeld3
import Derived.Deep.Cut
import Derived.Deep.CutRange
namespace Go.Proofs.Ytnneodofajhbcaa
open Go.RowKit
open KM
attribute [local go_sem ↓] Go.wp_at_zero Go.wp_at_succ

set_option maxRecDepth 100000 in
set_option maxHeartbeats 2000000 in
theorem markB2 (b : Bb) (lo hi : Nat) (hf : BFit b) (w : World) (hz : hi ≤ w.heap.size) (h : BLie w lo hi b) :
    Calls Try.prog 57 #[.agg #[.slice b.va b.vs.length b.vc, .slice b.pa b.ps.length b.pc, .slice b.qa b.qs.length b.qc, .int .i64 b.cs, .int .i64 b.nx], .int .i64 1] w fun e w' => ∃ (q : Nat) (m : Bb), e = .returned (.int .i64 (q : Int)) ∧ (0 < q ∧ q ≤ 10000000000000000) ∧ BLie w' lo hi m ∧ Zn lo hi w w' ∧ (∀ W : World, BRows W m → Calls Try.prog 59 #[.agg #[.slice b.va b.vs.length b.vc, .slice b.pa b.ps.length b.pc, .slice b.qa b.qs.length b.qc, .int .i64 b.cs, .int .i64 b.nx], .int .i64 1] W fun e w' => e = .returned (.int .i64 (q : Int)) ∧ Below W.heap.size W w') := by
  have HF : Hid (BFit b) := hf
  obtain ⟨m1, m2, k1, k2, k3, hv, hp, hq⟩ := h.ex
  have hba : Below w.heap.size w (w.alloc (.cells #[.slice b.va b.vs.length b.vc, .slice b.pa b.ps.length b.pc, .slice b.qa b.qs.length b.qc, .int .i64 b.cs, .int .i64 b.nx] 34)) := (belowRefl w).alloc (Nat.le_refl _) _
  have BX0 : Hid (Bx (w.alloc (.cells #[.slice b.va b.vs.length b.vc, .slice b.pa b.ps.length b.pc, .slice b.qa b.qs.length b.qc, .int .i64 b.cs, .int .i64 b.nx] 34)) w.heap.size [.slice b.va b.vs.length b.vc, .slice b.pa b.ps.length b.pc, .slice b.qa b.qs.length b.qc, .int .i64 b.cs, .int .i64 b.nx]) := Bx.new w [.slice b.va b.vs.length b.vc, .slice b.pa b.ps.length b.pc, .slice b.qa b.qs.length b.qc, .int .i64 b.cs, .int .i64 b.nx] 34
  have HV0 : Hid (Lies encV 104 (w.alloc (.cells #[.slice b.va b.vs.length b.vc, .slice b.pa b.ps.length b.pc, .slice b.qa b.qs.length b.qc, .int .i64 b.cs, .int .i64 b.nx] 34)) lo m1 (.slice b.va b.vs.length b.vc) b.vs) := hv.below hba
  have HP0 : Hid (LLie (w.alloc (.cells #[.slice b.va b.vs.length b.vc, .slice b.pa b.ps.length b.pc, .slice b.qa b.qs.length b.qc, .int .i64 b.cs, .int .i64 b.nx] 34)) m1 m2 (.slice b.pa b.ps.length b.pc) b.ps) := hp.below hba
  have HQ0 : Hid (LLie (w.alloc (.cells #[.slice b.va b.vs.length b.vc, .slice b.pa b.ps.length b.pc, .slice b.qa b.qs.length b.qc, .int .i64 b.cs, .int .i64 b.nx] 34)) m2 hi (.slice b.qa b.qs.length b.qc) b.qs) := hq.below hba
  have HZ0 : Hid (Zn lo hi w (w.alloc (.cells #[.slice b.va b.vs.length b.vc, .slice b.pa b.ps.length b.pc, .slice b.qa b.qs.length b.qc, .int .i64 b.cs, .int .i64 b.nx] 34))) := Zn.ofBelow lo hi hba
  clear h hv hp hq hba
  have HFp : Hid (∀ y ∈ b.ps, TFit y.t) := fun y hy => hf.p.2 _ (List.mem_map.2 ⟨y, hy, rfl⟩)
  have HFq : Hid (∀ y ∈ b.qs, TFit y.t) := fun y hy => hf.q.2 _ (List.mem_map.2 ⟨y, hy, rfl⟩)
  have HWp : Hid (wtL b.ps ≤ 5600000000000) := by
    show _ ≤ _
    have h1 := wtL_fit b.ps HFp.out
    have h2 : b.ps.length * 5242886 ≤ 1048576 * 5242886 := Nat.mul_le_mul_right _ hf.pl
    omega
  have HWq : Hid (wtL b.qs ≤ 5600000000000) := by
    show _ ≤ _
    have h1 := wtL_fit b.qs HFq.out
    have h2 : b.qs.length * 5242886 ≤ 1048576 * 5242886 := Nat.mul_le_mul_right _ hf.ql
    omega
  have hnv : b.vs.length ≤ 1048576 := hf.vl
  have hnp : b.ps.length ≤ 1048576 := hf.pl
  have hnq : b.qs.length ≤ 1048576 := hf.ql
  clear hf
  have hwp := HWp.out
  have hwq := HWq.out
  obtain ⟨q1, h1⟩ : ∃ q1, q1 = 1 + 4 * b.vs.length := ⟨_, rfl⟩
  obtain ⟨q2, h2⟩ : ∃ q2, q2 = q1 + wtL b.ps := ⟨_, rfl⟩
  obtain ⟨q3, h3⟩ : ∃ q3, q3 = q2 + wtL b.qs := ⟨_, rfl⟩
  have b1 : 0 < q1 ∧ q1 ≤ 10000000000000000 := by omega
  have b2 : 0 < q2 ∧ q2 ≤ 10000000000000000 := by omega
  have b3 : 0 < q3 ∧ q3 ≤ 10000000000000000 := by omega
  have E1 : Hid (1 + 4 * b.vs.length = q1) := h1.symm
  have E2 : Hid (q1 + wtL b.ps = q2) := h2.symm
  have E3 : Hid (q2 + wtL b.qs = q3) := h3.symm
  have HH : Hid (∀ W : World, BRows W ⟨mkV 1 b.vs.length, mkL b.ps q1, mkL b.qs q2, b.cs, b.nx, b.va, b.vc, b.pa, b.pc, b.qa, b.qc⟩ → Calls Try.prog 59 #[.agg #[.slice b.va b.vs.length b.vc, .slice b.pa b.ps.length b.pc, .slice b.qa b.qs.length b.qc, .int .i64 b.cs, .int .i64 b.nx], .int .i64 1] W fun e w' => e = .returned (.int .i64 (q3 : Int)) ∧ Below W.heap.size W w') := fun W hW => heldB b HF.out q1 q2 q3 h1 h2 h3 W hW
  clear h1 h2 h3 hwp hwq HF
  go_enter Try.func57, Try.ntmps57
  go_upto_region 1 with fail
  generalize (w.alloc (.cells #[.slice b.va b.vs.length b.vc, .slice b.pa b.ps.length b.pc, .slice b.qa b.qs.length b.qc, .int .i64 b.cs, .int .i64 b.nx] 34)) = w0 at *
  have x0 := BX0.out.c0
  go_wp2_with fail
  refine (markV b.vs.length 1 b.va b.vc lo _ (by omega) (by omega) (by omega) _ HV0.out.own).mono ?_
  rintro e w1 ⟨rfl, ho, hg⟩
  rw [E1.out]
  have hz1 : Zn lo m1 w0 w1 := Zn.ofGrown hg (fun g h => HV0.out.lo g h)
  have HV1 : Hid (Lies encV 104 w1 lo m1 (.slice b.va b.vs.length b.vc) (mkV 1 b.vs.length)) := ⟨ho, HV0.out.up⟩
  have HP1 : Hid (LLie w1 m1 m2 (.slice b.pa b.ps.length b.pc) b.ps) := HP0.out.zn hz1 (by omega)
  have HQ1 : Hid (LLie w1 m2 hi (.slice b.qa b.qs.length b.qc) b.qs) := HQ0.out.zn hz1 (by omega)
  have HZ1 : Hid (Zn lo hi w w1) := HZ0.out.trans (hz1.mono (by omega) (by omega))
  have BX1 : Hid (Bx w1 w.heap.size [.slice b.va b.vs.length b.vc, .slice b.pa b.ps.length b.pc, .slice b.qa b.qs.length b.qc, .int .i64 b.cs, .int .i64 b.nx]) := BX0.out.zn hz1 (by omega)
  clear ho hg hz1 x0 BX0 HV0 HP0 HQ0 HZ0
  have x1 := BX1.out.c1
  go_wp2_with fail
  refine (markL b.ps b.pa b.pc b.ps.length m1 m2 q1 rfl hnp HFp.out b1.1 b1.2 _ HP1.out).mono ?_
  rintro e w2 ⟨rfl, ho, hz2⟩
  rw [E2.out]
  have HP2 : Hid (LLie w2 m1 m2 (.slice b.pa b.ps.length b.pc) (mkL b.ps q1)) := ho
  have HV2 : Hid (Lies encV 104 w2 lo m1 (.slice b.va b.vs.length b.vc) (mkV 1 b.vs.length)) := HV1.out.zn hz2 (by omega)
  have HQ2 : Hid (LLie w2 m2 hi (.slice b.qa b.qs.length b.qc) b.qs) := HQ1.out.zn hz2 (by omega)
  have HZ2 : Hid (Zn lo hi w w2) := HZ1.out.trans (hz2.mono (by omega) (by omega))
  have BX2 : Hid (Bx w2 w.heap.size [.slice b.va b.vs.length b.vc, .slice b.pa b.ps.length b.pc, .slice b.qa b.qs.length b.qc, .int .i64 b.cs, .int .i64 b.nx]) := BX1.out.zn hz2 (by omega)
  clear ho hz2 x1 BX1 HV1 HP1 HQ1 HZ1
  have x2 := BX2.out.c2
  go_wp2_with fail
  refine (markL b.qs b.qa b.qc b.qs.length m2 hi q2 rfl hnq HFq.out b2.1 b2.2 _ HQ2.out).mono ?_
  rintro e w3 ⟨rfl, ho, hz3⟩
  rw [E3.out]
  have HQ3 : Hid (LLie w3 m2 hi (.slice b.qa b.qs.length b.qc) (mkL b.qs q2)) := ho
  have HV3 : Hid (Lies encV 104 w3 lo m1 (.slice b.va b.vs.length b.vc) (mkV 1 b.vs.length)) := HV2.out.zn hz3 (by omega)
  have HP3 : Hid (LLie w3 m1 m2 (.slice b.pa b.ps.length b.pc) (mkL b.ps q1)) := HP2.out.zn hz3 (by omega)
  have HZ3 : Hid (Zn lo hi w w3) := HZ2.out.trans (hz3.mono (by omega) (by omega))
  clear ho hz3 x2 BX2 HV2 HP2 HQ2 HZ2
  go_wp2
  go_ret
  refine ⟨q3, ⟨mkV 1 b.vs.length, mkL b.ps q1, mkL b.qs q2, b.cs, b.nx, b.va, b.vc, b.pa, b.pc, b.qa, b.qc⟩, rfl, b3, ⟨m1, m2, k1, k2, k3, ?_, ?_, ?_⟩, HZ3.out, HH.out⟩
  · show Lies encV 104 w3 lo m1 (.slice b.va (mkV 1 b.vs.length).length b.vc) (mkV 1 b.vs.length)
    rw [mkV_len]
    exact HV3.out
  · show LLie w3 m1 m2 (.slice b.pa (mkL b.ps q1).length b.pc) (mkL b.ps q1)
    rw [mkL_len]
    exact HP3.out
  · show LLie w3 m2 hi (.slice b.qa (mkL b.qs q2).length b.qc) (mkL b.qs q2)
    rw [mkL_len]
    exact HQ3.out

set_option maxRecDepth 100000 in
set_option maxHeartbeats 2000000 in
theorem heldE (e : En) (hf : EnFit e) (mb : Bb) (q1 q : Nat) (hq1 : 0 < q1 ∧ q1 ≤ 10000000000000000) (hq : q = q1 + wtL e.os) (hh : ∀ W : World, BRows W mb → Calls Try.prog 59 #[.agg #[.slice e.b.va e.b.vs.length e.b.vc, .slice e.b.pa e.b.ps.length e.b.pc, .slice e.b.qa e.b.qs.length e.b.qc, .int .i64 e.b.cs, .int .i64 e.b.nx], .int .i64 1] W fun ex w' => ex = .returned (.int .i64 (q1 : Int)) ∧ Below W.heap.size W w') (w : World) (hp : EnRows w ⟨mb, mkL e.os q1, e.oa, e.oc⟩) :
    Calls Try.prog 44 #[.agg #[.slice e.b.va e.b.vs.length e.b.vc, .slice e.b.pa e.b.ps.length e.b.pc, .slice e.b.qa e.b.qs.length e.b.qc, .int .i64 e.b.cs, .int .i64 e.b.nx, .slice e.oa e.os.length e.oc], .int .i64 1] w fun ex w' => ex = .returned (.int .i64 (q : Int)) ∧ Below w.heap.size w w' := by
  have BA0 : Hid (Bx (w.alloc (.cells #[.slice e.b.va e.b.vs.length e.b.vc, .slice e.b.pa e.b.ps.length e.b.pc, .slice e.b.qa e.b.qs.length e.b.qc, .int .i64 e.b.cs, .int .i64 e.b.nx, .slice e.oa e.os.length e.oc] 36)) w.heap.size [.slice e.b.va e.b.vs.length e.b.vc, .slice e.b.pa e.b.ps.length e.b.pc, .slice e.b.qa e.b.qs.length e.b.qc, .int .i64 e.b.cs, .int .i64 e.b.nx, .slice e.oa e.os.length e.oc]) := Bx.new w [.slice e.b.va e.b.vs.length e.b.vc, .slice e.b.pa e.b.ps.length e.b.pc, .slice e.b.qa e.b.qs.length e.b.qc, .int .i64 e.b.cs, .int .i64 e.b.nx, .slice e.oa e.os.length e.oc] 36
  have HB0 : Hid (Below w.heap.size w (w.alloc (.cells #[.slice e.b.va e.b.vs.length e.b.vc, .slice e.b.pa e.b.ps.length e.b.pc, .slice e.b.qa e.b.qs.length e.b.qc, .int .i64 e.b.cs, .int .i64 e.b.nx, .slice e.oa e.os.length e.oc] 36))) := (belowRefl w).alloc (Nat.le_refl _) _
  have HP : Hid (EnRows w ⟨mb, mkL e.os q1, e.oa, e.oc⟩) := hp
  have C1 : Hid (∀ W : World, Below w.heap.size w W → Calls Try.prog 59 #[.agg #[.slice e.b.va e.b.vs.length e.b.vc, .slice e.b.pa e.b.ps.length e.b.pc, .slice e.b.qa e.b.qs.length e.b.qc, .int .i64 e.b.cs, .int .i64 e.b.nx], .int .i64 1] W fun ex w' => ex = .returned (.int .i64 (q1 : Int)) ∧ Below W.heap.size W w') := fun W h => hh W (HP.out.below h).b
  have C2 : Hid (∀ W : World, Below w.heap.size w W → Calls Try.prog 29 #[.slice e.oa e.os.length e.oc, .int .i64 (q1 : Int)] W fun ex w' => ex = .returned (.int .i64 (q : Int)) ∧ Below W.heap.size W w') := fun W h => by
    have k := heldL e.os e.oa e.oc e.os.length q1 rfl hf.ol (fun y hy => hf.o.2 _ (List.mem_map.2 ⟨y, hy, rfl⟩)) hq1.1 hq1.2 W (HP.out.below h).o
    rw [← hq] at k
    exact k
  have hn1 : ¬ (q1 : Int) < 0 := by omega
  have hn2 : ¬ (q : Int) < 0 := by omega
  clear hp hf hh hq HP hq1
  go_enter Try.func44, Try.ntmps44
  have x0 := BA0.out.c0
  have x1 := BA0.out.c1
  have x2 := BA0.out.c2
  have x3 := BA0.out.c3
  have x4 := BA0.out.c4
  go_wp2_with fail
  refine (C1.out _ HB0.out).mono ?_
  rintro ex w1 ⟨rfl, hb⟩
  have HB1 : Hid (Below w.heap.size w w1) := HB0.out.trans (hb.mono HB0.out.size)
  have BA1 : Hid (Bx w1 w.heap.size [.slice e.b.va e.b.vs.length e.b.vc, .slice e.b.pa e.b.ps.length e.b.pc, .slice e.b.qa e.b.qs.length e.b.qc, .int .i64 e.b.cs, .int .i64 e.b.nx, .slice e.oa e.os.length e.oc]) := BA0.out.below hb
  clear hb HB0 BA0
  clear x0 x1 x2 x3 x4
  have x5 := BA1.out.c5
  go_wp2_with fail
  refine (C2.out _ HB1.out).mono ?_
  rintro ex w2 ⟨rfl, hb⟩
  have HB2 : Hid (Below w.heap.size w w2) := HB1.out.trans (hb.mono HB1.out.size)
  clear hb HB1 BA1 x5
  go_wp2
  go_ret
  exact ⟨rfl, HB2.out⟩

set_option maxRecDepth 100000 in
set_option maxHeartbeats 2000000 in
theorem markE (e : En) (lo hi : Nat) (hf : EnFit e) (w : World) (hz : hi ≤ w.heap.size) (h : EnLie w lo hi e) :
    Calls Try.prog 39 #[.agg #[.slice e.b.va e.b.vs.length e.b.vc, .slice e.b.pa e.b.ps.length e.b.pc, .slice e.b.qa e.b.qs.length e.b.qc, .int .i64 e.b.cs, .int .i64 e.b.nx, .slice e.oa e.os.length e.oc], .int .i64 1] w fun ex w' => ∃ (q : Nat) (m : En), ex = .returned (.int .i64 (q : Int)) ∧ (0 < q ∧ q ≤ 100000000000000000) ∧ EnLie w' lo hi m ∧ Zn lo hi w w' ∧ (∀ W : World, EnRows W m → Calls Try.prog 44 #[.agg #[.slice e.b.va e.b.vs.length e.b.vc, .slice e.b.pa e.b.ps.length e.b.pc, .slice e.b.qa e.b.qs.length e.b.qc, .int .i64 e.b.cs, .int .i64 e.b.nx, .slice e.oa e.os.length e.oc], .int .i64 1] W fun ex w' => ex = .returned (.int .i64 (q : Int)) ∧ Below W.heap.size W w') := by
  have BA0 : Hid (Bx (w.alloc (.cells #[.slice e.b.va e.b.vs.length e.b.vc, .slice e.b.pa e.b.ps.length e.b.pc, .slice e.b.qa e.b.qs.length e.b.qc, .int .i64 e.b.cs, .int .i64 e.b.nx, .slice e.oa e.os.length e.oc] 36)) w.heap.size [.slice e.b.va e.b.vs.length e.b.vc, .slice e.b.pa e.b.ps.length e.b.pc, .slice e.b.qa e.b.qs.length e.b.qc, .int .i64 e.b.cs, .int .i64 e.b.nx, .slice e.oa e.os.length e.oc]) := Bx.new w [.slice e.b.va e.b.vs.length e.b.vc, .slice e.b.pa e.b.ps.length e.b.pc, .slice e.b.qa e.b.qs.length e.b.qc, .int .i64 e.b.cs, .int .i64 e.b.nx, .slice e.oa e.os.length e.oc] 36
  have hb0 : Below w.heap.size w (w.alloc (.cells #[.slice e.b.va e.b.vs.length e.b.vc, .slice e.b.pa e.b.ps.length e.b.pc, .slice e.b.qa e.b.qs.length e.b.qc, .int .i64 e.b.cs, .int .i64 e.b.nx, .slice e.oa e.os.length e.oc] 36)) := (belowRefl w).alloc (Nat.le_refl _) _
  have ZW0 : Hid (Zn lo hi w (w.alloc (.cells #[.slice e.b.va e.b.vs.length e.b.vc, .slice e.b.pa e.b.ps.length e.b.pc, .slice e.b.qa e.b.qs.length e.b.qc, .int .i64 e.b.cs, .int .i64 e.b.nx, .slice e.oa e.os.length e.oc] 36))) := Zn.ofBelow lo hi hb0
  obtain ⟨m, k1, k2, hB, hO⟩ := h.ex
  have RB0 : Hid (BLie (w.alloc (.cells #[.slice e.b.va e.b.vs.length e.b.vc, .slice e.b.pa e.b.ps.length e.b.pc, .slice e.b.qa e.b.qs.length e.b.qc, .int .i64 e.b.cs, .int .i64 e.b.nx, .slice e.oa e.os.length e.oc] 36)) lo m e.b) := hB.below hb0
  have RO0 : Hid (LLie (w.alloc (.cells #[.slice e.b.va e.b.vs.length e.b.vc, .slice e.b.pa e.b.ps.length e.b.pc, .slice e.b.qa e.b.qs.length e.b.qc, .int .i64 e.b.cs, .int .i64 e.b.nx, .slice e.oa e.os.length e.oc] 36)) m hi (.slice e.oa e.os.length e.oc) e.os) := hO.below hb0
  have S0 : Hid (hi ≤ (w.alloc (.cells #[.slice e.b.va e.b.vs.length e.b.vc, .slice e.b.pa e.b.ps.length e.b.pc, .slice e.b.qa e.b.qs.length e.b.qc, .int .i64 e.b.cs, .int .i64 e.b.nx, .slice e.oa e.os.length e.oc] 36)).heap.size) := Nat.le_trans hz hb0.size
  have HF : Hid (EnFit e) := hf
  clear h hB hO hb0 hf
  go_enter Try.func39, Try.ntmps39
  go_upto_region 1 with fail
  generalize (w.alloc (.cells #[.slice e.b.va e.b.vs.length e.b.vc, .slice e.b.pa e.b.ps.length e.b.pc, .slice e.b.qa e.b.qs.length e.b.qc, .int .i64 e.b.cs, .int .i64 e.b.nx, .slice e.oa e.os.length e.oc] 36)) = w0 at *
  have x0 := BA0.out.c0
  have x1 := BA0.out.c1
  have x2 := BA0.out.c2
  have x3 := BA0.out.c3
  have x4 := BA0.out.c4
  go_wp2_with fail
  refine (markB2 e.b lo m HF.out.b _ (Nat.le_trans k2 S0.out) RB0.out).mono ?_
  rintro ex w1 ⟨q1, mb, rfl, hq1, hmb, hz1, hh⟩
  have BA1 : Hid (Bx w1 w.heap.size [.slice e.b.va e.b.vs.length e.b.vc, .slice e.b.pa e.b.ps.length e.b.pc, .slice e.b.qa e.b.qs.length e.b.qc, .int .i64 e.b.cs, .int .i64 e.b.nx, .slice e.oa e.os.length e.oc]) := BA0.out.zn hz1 (by omega)
  have RB1 : Hid (BLie w1 lo m mb) := hmb
  have RO1 : Hid (LLie w1 m hi (.slice e.oa e.os.length e.oc) e.os) := RO0.out.zn hz1 (by omega)
  have ZW1 : Hid (Zn lo hi w w1) := ZW0.out.trans (hz1.mono (Nat.le_refl _) k2)
  have HH := hide hh
  have HQ1 := hide hq1
  clear hmb hz1 hh hq1 BA0 RB0 RO0 ZW0
  clear x0 x1 x2 x3 x4
  have x5 := BA1.out.c5
  obtain ⟨q, hq⟩ : ∃ q, q = q1 + wtL e.os := ⟨_, rfl⟩
  have CL : Hid (Calls Try.prog 25 #[.slice e.oa e.os.length e.oc, .int .i64 (q1 : Int)] w1 fun ex w' => ex = .returned (.int .i64 (q : Int)) ∧ LLie w' m hi (.slice e.oa e.os.length e.oc) (mkL e.os q1) ∧ Zn m hi w1 w') := by
    have k := markL e.os e.oa e.oc e.os.length m hi q1 rfl HF.out.ol (fun y hy => HF.out.o.2 _ (List.mem_map.2 ⟨y, hy, rfl⟩)) HQ1.out.1 HQ1.out.2 w1 RO1.out
    rw [← hq] at k
    exact k
  have hqb : 0 < q ∧ q ≤ 100000000000000000 := by
    have k1 := wtL_fit e.os (fun y hy => HF.out.o.2 _ (List.mem_map.2 ⟨y, hy, rfl⟩))
    have k2 := HF.out.ol
    have k3 := HQ1.out
    have k4 : e.os.length * 5242886 ≤ 1048576 * 5242886 := Nat.mul_le_mul_right _ k2
    omega
  have HQB := hide hqb
  have HQ := hide hq
  clear hq hqb
  go_wp2_with fail
  refine CL.out.mono ?_
  rintro ex w2 ⟨rfl, hml, hz2⟩
  have RB2 : Hid (BLie w2 lo m mb) := RB1.out.zn hz2 (by omega)
  have ZW2 : Hid (Zn lo hi w w2) := ZW1.out.trans (hz2.mono k1 (Nat.le_refl _))
  have RO2 : Hid (LLie w2 m hi (.slice e.oa e.os.length e.oc) (mkL e.os q1)) := hml
  clear hml hz2 BA1 RB1 RO1 ZW1 x5 CL
  go_wp2
  go_ret
  refine ⟨q, ⟨mb, mkL e.os q1, e.oa, e.oc⟩, rfl, HQB.out, ⟨m, k1, k2, RB2.out, ?_⟩, ZW2.out, fun W hW => heldE e HF.out mb q1 q HQ1.out HQ.out HH.out W hW⟩
  show LLie w2 m hi (.slice e.oa (mkL e.os q1).length e.oc) (mkL e.os q1)
  rw [mkL_len]
  exact RO2.out

end Go.Proofs.Ytnneodofajhbcaa
