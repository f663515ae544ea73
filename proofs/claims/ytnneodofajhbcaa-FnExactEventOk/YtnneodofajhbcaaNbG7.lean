/- What stays: marks of bases, and whether they are held. -/
import Derived.Test.YtnneodofajhbcaaNbN1
import Derived.Deep.RegionHeld3
import Derived.Test.YtnneodofajhbcaaE5
import Derived.Test.YtnneodofajhbcaaV1
import Derived.Test.YtnneodofajhbcaaL1
import Derived.Test.YtnneodofajhbcaaL2
import Derived.Test.YtnneodofajhbcaaProg
import Derived.WalkKit
import Derived.Test.YtnneodofajhbcaaMath
import Derived.WalkSpells
import Derived.WalkLawsBesides
import Derived.Deep.QuietTactic
import Derived.BigQuiet
import Derived.Deep.DrawnRows
import Derived.Test.YtnneodofajhbcaaK1
import Derived.Test.YtnneodofajhbcaaK2
import Derived.Deep.AppendLies
import Derived.Test.YtnneodofajhbcaaBase
import Derived.Test.YtnneodofajhbcaaEnc
import Derived.Test.YtnneodofajhbcaaR1
import Derived.Test.YtnneodofajhbcaaB1
import Derived.Test.YtnneodofajhbcaaNbVMr
import Derived.Test.YtnneodofajhbcaaFit
import Derived.Test.YtnneodofajhbcaaTxM
import Derived.Test.YtnneodofajhbcaaKyR1
import Derived.Test.YtnneodofajhbcaaBx
import Derived.Test.YtnneodofajhbcaaA2
import Derived.Sort.OwnSorted
import Derived.Lib.RowBridge
import Derived.Test.YtnneodofajhbcaaH1
import Derived.Test.YtnneodofajhbcaaLie
import Derived.Test.YtnneodofajhbcaaA3
import Derived.Test.YtnneodofajhbcaaVZn
import Derived.Test.YtnneodofajhbcaaZ1
import Derived.Deep.Cut
import Derived.Deep.CutRange
import Derived.Test.YtnneodofajhbcaaB3
import Derived.Test.YtnneodofajhbcaaNbZ3
import Derived.Test.YtnneodofajhbcaaNbHvMv
import Derived.Test.YtnneodofajhbcaaNbB4
namespace Go.Proofs.Ytnneodofajhbcaa
open Go.RowKit
open KM
attribute [local go_sem ↓] Go.wp_at_zero Go.wp_at_succ

set_option maxRecDepth 100000 in
set_option maxHeartbeats 2000000 in
theorem heldB (b : Bb) (hf : BFit b) (q1 q2 q3 : Nat) (h1 : q1 = 1 + 4 * b.vs.length) (h2 : q2 = q1 + wtL b.ps) (h3 : q3 = q2 + wtL b.qs) (w : World) (hr : BRows w ⟨mkV 1 b.vs.length, mkL b.ps q1, mkL b.qs q2, b.cs, b.nx, b.va, b.vc, b.pa, b.pc, b.qa, b.qc⟩) :
    Calls Try.prog 59 #[.agg #[.slice b.va b.vs.length b.vc, .slice b.pa b.ps.length b.pc, .slice b.qa b.qs.length b.qc, .int .i64 b.cs, .int .i64 b.nx], .int .i64 1] w fun e w' => e = .returned (.int .i64 (q3 : Int)) ∧ Below w.heap.size w w' := by
  have HR : Hid (BRows w ⟨mkV 1 b.vs.length, mkL b.ps q1, mkL b.qs q2, b.cs, b.nx, b.va, b.vc, b.pa, b.pc, b.qa, b.qc⟩) := hr
  clear hr
  have HFp : Hid (∀ y ∈ b.ps, TFit y.t) := fun y hy => hf.p.2 _ (List.mem_map.2 ⟨y, hy, rfl⟩)
  have HFq : Hid (∀ y ∈ b.qs, TFit y.t) := fun y hy => hf.q.2 _ (List.mem_map.2 ⟨y, hy, rfl⟩)
  have HWp : Hid (wtL b.ps ≤ 5600000000000) := by
    show _ ≤ _
    have h1 := wtL_fit b.ps HFp.out
    have h2 : b.ps.length * 5242886 ≤ 1048576 * 5242886 := Nat.mul_le_mul_right _ hf.pl
    omega
  have HWq : Hid (wtL b.qs ≤ 5600000000000) := by
    show _ ≤ _
    have h1 := wtL_fit b.qs HFq.out
    have h2 : b.qs.length * 5242886 ≤ 1048576 * 5242886 := Nat.mul_le_mul_right _ hf.ql
    omega
  have hnv : b.vs.length ≤ 1048576 := hf.vl
  have hnp : b.ps.length ≤ 1048576 := hf.pl
  have hnq : b.qs.length ≤ 1048576 := hf.ql
  clear hf
  have hwp := HWp.out
  have hwq := HWq.out
  have BX0 : Hid (Bx (w.alloc (.cells #[.slice b.va b.vs.length b.vc, .slice b.pa b.ps.length b.pc, .slice b.qa b.qs.length b.qc, .int .i64 b.cs, .int .i64 b.nx] 34)) w.heap.size [.slice b.va b.vs.length b.vc, .slice b.pa b.ps.length b.pc, .slice b.qa b.qs.length b.qc, .int .i64 b.cs, .int .i64 b.nx]) := Bx.new w [.slice b.va b.vs.length b.vc, .slice b.pa b.ps.length b.pc, .slice b.qa b.qs.length b.qc, .int .i64 b.cs, .int .i64 b.nx] 34
  have HB0 : Hid (Below w.heap.size w (w.alloc (.cells #[.slice b.va b.vs.length b.vc, .slice b.pa b.ps.length b.pc, .slice b.qa b.qs.length b.qc, .int .i64 b.cs, .int .i64 b.nx] 34))) := (belowRefl w).alloc (Nat.le_refl _) _
  have l1 : ¬ ((q1 : Int) < 0) := by omega
  have l2 : ¬ ((q2 : Int) < 0) := by omega
  have l3 : ¬ ((q3 : Int) < 0) := by omega
  have b1 : 0 < q1 ∧ q1 ≤ 10000000000000000 := by omega
  have b2 : 0 < q2 ∧ q2 ≤ 10000000000000000 := by omega
  have E1 : Hid (1 + 4 * b.vs.length = q1) := h1.symm
  have E2 : Hid (q1 + wtL b.ps = q2) := h2.symm
  have E3 : Hid (q2 + wtL b.qs = q3) := h3.symm
  clear h1 h2 h3 hwp hwq
  go_enter Try.func59, Try.ntmps59
  go_upto_region 1 with fail
  generalize (w.alloc (.cells #[.slice b.va b.vs.length b.vc, .slice b.pa b.ps.length b.pc, .slice b.qa b.qs.length b.qc, .int .i64 b.cs, .int .i64 b.nx] 34)) = w0 at *
  have x0 := BX0.out.c0
  go_wp2_with fail
  refine (heldV b.vs.length 1 b.va b.vc (by omega) (by omega) (by omega) _ (HR.out.v.below HB0.out)).mono ?_
  rintro e w1 ⟨rfl, hb⟩
  rw [E1.out]
  have HB1 : Hid (Below w.heap.size w w1) := HB0.out.trans (hb.mono HB0.out.size)
  have BX1 : Hid (Bx w1 w.heap.size [.slice b.va b.vs.length b.vc, .slice b.pa b.ps.length b.pc, .slice b.qa b.qs.length b.qc, .int .i64 b.cs, .int .i64 b.nx]) := BX0.out.below hb
  clear hb x0 BX0
  have x1 := BX1.out.c1
  go_wp2_with fail
  refine (heldL b.ps b.pa b.pc b.ps.length q1 rfl hnp HFp.out b1.1 b1.2 _ (HR.out.p.below HB1.out)).mono ?_
  rintro e w2 ⟨rfl, hb⟩
  rw [E2.out]
  have HB2 : Hid (Below w.heap.size w w2) := HB1.out.trans (hb.mono HB1.out.size)
  have BX2 : Hid (Bx w2 w.heap.size [.slice b.va b.vs.length b.vc, .slice b.pa b.ps.length b.pc, .slice b.qa b.qs.length b.qc, .int .i64 b.cs, .int .i64 b.nx]) := BX1.out.below hb
  clear hb x1 BX1
  have x2 := BX2.out.c2
  go_wp2_with fail
  refine (heldL b.qs b.qa b.qc b.qs.length q2 rfl hnq HFq.out b2.1 b2.2 _ (HR.out.q.below HB2.out)).mono ?_
  rintro e w3 ⟨rfl, hb⟩
  rw [E3.out]
  have HB3 : Hid (Below w.heap.size w w3) := HB2.out.trans (hb.mono HB2.out.size)
  clear hb x2 BX2
  go_wp2
  go_ret
  exact ⟨rfl, HB3.out⟩

set_option maxRecDepth 100000 in
set_option maxHeartbeats 2000000 in
theorem markB (b : Bb) (lo hi : Nat) (hf : BFit b) (w : World) (hz : hi ≤ w.heap.size) (h : BLie w lo hi b) :
    Calls Try.prog 57 #[.agg #[.slice b.va b.vs.length b.vc, .slice b.pa b.ps.length b.pc, .slice b.qa b.qs.length b.qc, .int .i64 b.cs, .int .i64 b.nx], .int .i64 1] w fun e w' => ∃ (q : Nat) (m : Bb), e = .returned (.int .i64 (q : Int)) ∧ BLie w' lo hi m ∧ Zn lo hi w w' ∧ (∀ W : World, BRows W m → Calls Try.prog 59 #[.agg #[.slice b.va b.vs.length b.vc, .slice b.pa b.ps.length b.pc, .slice b.qa b.qs.length b.qc, .int .i64 b.cs, .int .i64 b.nx], .int .i64 1] W fun e w' => e = .returned (.int .i64 (q : Int)) ∧ Below W.heap.size W w') := by
  have HF : Hid (BFit b) := hf
  obtain ⟨m1, m2, k1, k2, k3, hv, hp, hq⟩ := h.ex
  have hba : Below w.heap.size w (w.alloc (.cells #[.slice b.va b.vs.length b.vc, .slice b.pa b.ps.length b.pc, .slice b.qa b.qs.length b.qc, .int .i64 b.cs, .int .i64 b.nx] 34)) := (belowRefl w).alloc (Nat.le_refl _) _
  have BX0 : Hid (Bx (w.alloc (.cells #[.slice b.va b.vs.length b.vc, .slice b.pa b.ps.length b.pc, .slice b.qa b.qs.length b.qc, .int .i64 b.cs, .int .i64 b.nx] 34)) w.heap.size [.slice b.va b.vs.length b.vc, .slice b.pa b.ps.length b.pc, .slice b.qa b.qs.length b.qc, .int .i64 b.cs, .int .i64 b.nx]) := Bx.new w [.slice b.va b.vs.length b.vc, .slice b.pa b.ps.length b.pc, .slice b.qa b.qs.length b.qc, .int .i64 b.cs, .int .i64 b.nx] 34
  have HV0 : Hid (Lies encV 104 (w.alloc (.cells #[.slice b.va b.vs.length b.vc, .slice b.pa b.ps.length b.pc, .slice b.qa b.qs.length b.qc, .int .i64 b.cs, .int .i64 b.nx] 34)) lo m1 (.slice b.va b.vs.length b.vc) b.vs) := hv.below hba
  have HP0 : Hid (LLie (w.alloc (.cells #[.slice b.va b.vs.length b.vc, .slice b.pa b.ps.length b.pc, .slice b.qa b.qs.length b.qc, .int .i64 b.cs, .int .i64 b.nx] 34)) m1 m2 (.slice b.pa b.ps.length b.pc) b.ps) := hp.below hba
  have HQ0 : Hid (LLie (w.alloc (.cells #[.slice b.va b.vs.length b.vc, .slice b.pa b.ps.length b.pc, .slice b.qa b.qs.length b.qc, .int .i64 b.cs, .int .i64 b.nx] 34)) m2 hi (.slice b.qa b.qs.length b.qc) b.qs) := hq.below hba
  have HZ0 : Hid (Zn lo hi w (w.alloc (.cells #[.slice b.va b.vs.length b.vc, .slice b.pa b.ps.length b.pc, .slice b.qa b.qs.length b.qc, .int .i64 b.cs, .int .i64 b.nx] 34))) := Zn.ofBelow lo hi hba
  clear h hv hp hq hba
  have HFp : Hid (∀ y ∈ b.ps, TFit y.t) := fun y hy => hf.p.2 _ (List.mem_map.2 ⟨y, hy, rfl⟩)
  have HFq : Hid (∀ y ∈ b.qs, TFit y.t) := fun y hy => hf.q.2 _ (List.mem_map.2 ⟨y, hy, rfl⟩)
  have HWp : Hid (wtL b.ps ≤ 5600000000000) := by
    show _ ≤ _
    have h1 := wtL_fit b.ps HFp.out
    have h2 : b.ps.length * 5242886 ≤ 1048576 * 5242886 := Nat.mul_le_mul_right _ hf.pl
    omega
  have HWq : Hid (wtL b.qs ≤ 5600000000000) := by
    show _ ≤ _
    have h1 := wtL_fit b.qs HFq.out
    have h2 : b.qs.length * 5242886 ≤ 1048576 * 5242886 := Nat.mul_le_mul_right _ hf.ql
    omega
  have hnv : b.vs.length ≤ 1048576 := hf.vl
  have hnp : b.ps.length ≤ 1048576 := hf.pl
  have hnq : b.qs.length ≤ 1048576 := hf.ql
  clear hf
  have hwp := HWp.out
  have hwq := HWq.out
  obtain ⟨q1, h1⟩ : ∃ q1, q1 = 1 + 4 * b.vs.length := ⟨_, rfl⟩
  obtain ⟨q2, h2⟩ : ∃ q2, q2 = q1 + wtL b.ps := ⟨_, rfl⟩
  obtain ⟨q3, h3⟩ : ∃ q3, q3 = q2 + wtL b.qs := ⟨_, rfl⟩
  have b1 : 0 < q1 ∧ q1 ≤ 10000000000000000 := by omega
  have b2 : 0 < q2 ∧ q2 ≤ 10000000000000000 := by omega
  have E1 : Hid (1 + 4 * b.vs.length = q1) := h1.symm
  have E2 : Hid (q1 + wtL b.ps = q2) := h2.symm
  have E3 : Hid (q2 + wtL b.qs = q3) := h3.symm
  have HH : Hid (∀ W : World, BRows W ⟨mkV 1 b.vs.length, mkL b.ps q1, mkL b.qs q2, b.cs, b.nx, b.va, b.vc, b.pa, b.pc, b.qa, b.qc⟩ → Calls Try.prog 59 #[.agg #[.slice b.va b.vs.length b.vc, .slice b.pa b.ps.length b.pc, .slice b.qa b.qs.length b.qc, .int .i64 b.cs, .int .i64 b.nx], .int .i64 1] W fun e w' => e = .returned (.int .i64 (q3 : Int)) ∧ Below W.heap.size W w') := fun W hW => heldB b HF.out q1 q2 q3 h1 h2 h3 W hW
  clear h1 h2 h3 hwp hwq HF
  go_enter Try.func57, Try.ntmps57
  go_upto_region 1 with fail
  generalize (w.alloc (.cells #[.slice b.va b.vs.length b.vc, .slice b.pa b.ps.length b.pc, .slice b.qa b.qs.length b.qc, .int .i64 b.cs, .int .i64 b.nx] 34)) = w0 at *
  have x0 := BX0.out.c0
  go_wp2_with fail
  refine (markV b.vs.length 1 b.va b.vc lo _ (by omega) (by omega) (by omega) _ HV0.out.own).mono ?_
  rintro e w1 ⟨rfl, ho, hg⟩
  rw [E1.out]
  have hz1 : Zn lo m1 w0 w1 := Zn.ofGrown hg (fun g h => HV0.out.lo g h)
  have HV1 : Hid (Lies encV 104 w1 lo m1 (.slice b.va b.vs.length b.vc) (mkV 1 b.vs.length)) := ⟨ho, HV0.out.up⟩
  have HP1 : Hid (LLie w1 m1 m2 (.slice b.pa b.ps.length b.pc) b.ps) := HP0.out.zn hz1 (by omega)
  have HQ1 : Hid (LLie w1 m2 hi (.slice b.qa b.qs.length b.qc) b.qs) := HQ0.out.zn hz1 (by omega)
  have HZ1 : Hid (Zn lo hi w w1) := HZ0.out.trans (hz1.mono (by omega) (by omega))
  have BX1 : Hid (Bx w1 w.heap.size [.slice b.va b.vs.length b.vc, .slice b.pa b.ps.length b.pc, .slice b.qa b.qs.length b.qc, .int .i64 b.cs, .int .i64 b.nx]) := BX0.out.zn hz1 (by omega)
  clear ho hg hz1 x0 BX0 HV0 HP0 HQ0 HZ0
  have x1 := BX1.out.c1
  go_wp2_with fail
  refine (markL b.ps b.pa b.pc b.ps.length m1 m2 q1 rfl hnp HFp.out b1.1 b1.2 _ HP1.out).mono ?_
  rintro e w2 ⟨rfl, ho, hz2⟩
  rw [E2.out]
  have HP2 : Hid (LLie w2 m1 m2 (.slice b.pa b.ps.length b.pc) (mkL b.ps q1)) := ho
  have HV2 : Hid (Lies encV 104 w2 lo m1 (.slice b.va b.vs.length b.vc) (mkV 1 b.vs.length)) := HV1.out.zn hz2 (by omega)
  have HQ2 : Hid (LLie w2 m2 hi (.slice b.qa b.qs.length b.qc) b.qs) := HQ1.out.zn hz2 (by omega)
  have HZ2 : Hid (Zn lo hi w w2) := HZ1.out.trans (hz2.mono (by omega) (by omega))
  have BX2 : Hid (Bx w2 w.heap.size [.slice b.va b.vs.length b.vc, .slice b.pa b.ps.length b.pc, .slice b.qa b.qs.length b.qc, .int .i64 b.cs, .int .i64 b.nx]) := BX1.out.zn hz2 (by omega)
  clear ho hz2 x1 BX1 HV1 HP1 HQ1 HZ1
  have x2 := BX2.out.c2
  go_wp2_with fail
  refine (markL b.qs b.qa b.qc b.qs.length m2 hi q2 rfl hnq HFq.out b2.1 b2.2 _ HQ2.out).mono ?_
  rintro e w3 ⟨rfl, ho, hz3⟩
  rw [E3.out]
  have HQ3 : Hid (LLie w3 m2 hi (.slice b.qa b.qs.length b.qc) (mkL b.qs q2)) := ho
  have HV3 : Hid (Lies encV 104 w3 lo m1 (.slice b.va b.vs.length b.vc) (mkV 1 b.vs.length)) := HV2.out.zn hz3 (by omega)
  have HP3 : Hid (LLie w3 m1 m2 (.slice b.pa b.ps.length b.pc) (mkL b.ps q1)) := HP2.out.zn hz3 (by omega)
  have HZ3 : Hid (Zn lo hi w w3) := HZ2.out.trans (hz3.mono (by omega) (by omega))
  clear ho hz3 x2 BX2 HV2 HP2 HQ2 HZ2
  go_wp2
  go_ret
  refine ⟨q3, ⟨mkV 1 b.vs.length, mkL b.ps q1, mkL b.qs q2, b.cs, b.nx, b.va, b.vc, b.pa, b.pc, b.qa, b.qc⟩, rfl, ⟨m1, m2, k1, k2, k3, ?_, ?_, ?_⟩, HZ3.out, HH.out⟩
  · show Lies encV 104 w3 lo m1 (.slice b.va (mkV 1 b.vs.length).length b.vc) (mkV 1 b.vs.length)
    rw [mkV_len]
    exact HV3.out
  · show LLie w3 m1 m2 (.slice b.pa (mkL b.ps q1).length b.pc) (mkL b.ps q1)
    rw [mkL_len]
    exact HP3.out
  · show LLie w3 m2 hi (.slice b.qa (mkL b.qs q2).length b.qc) (mkL b.qs q2)
    rw [mkL_len]
    exact HQ3.out


end Go.Proofs.Ytnneodofajhbcaa
