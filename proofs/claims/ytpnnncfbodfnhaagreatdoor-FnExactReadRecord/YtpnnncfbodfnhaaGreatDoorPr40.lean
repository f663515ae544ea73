/- Marks of a record, and whether they are held. -/
import Derived.Test.YtpnnncfbodfnhaaGreatDoorPr28
import Derived.Test.YtpnnncfbodfnhaaGreatDoorPr08
import Derived.Deep.RegionHeld3
import Derived.Test.YtpnnncfbodfnhaaGreatDoorPr39
import Derived.Test.YtpnnncfbodfnhaaGreatDoorPr05
import Derived.Laws.EntriesVeiled
import Derived.Deep.Cut
import Derived.Deep.CutRange
namespace Go.Proofs.YtpnnncfbodfnhaaGreatDoor
open Go.RowKit
open KM
attribute [local go_sem ↓] Go.wp_at_zero Go.wp_at_succ

set_option maxRecDepth 100000 in
set_option maxHeartbeats 2000000 in
theorem markT (t : Tx) (ra wa : Option Addr) (rc wc : Nat) (lo hi k0 : Nat) (hr : t.rs.length ≤ 3000000) (hw : t.ws.length ≤ 3000000) (hk0 : 0 < k0) (hk1 : k0 ≤ 10000000) (w : World) (hhi : hi ≤ w.heap.size) (h : TLie w lo hi t ra rc wa wc) :
  Calls Tryz.prog 39 #[.agg #[.int .i64 t.id, .int .i64 t.st, .int .i64 t.snap, .int .i64 t.cs, .slice ra t.rs.length rc, .slice wa t.ws.length wc, .bool t.out, .string t.nm], .int .i64 k0] w fun e w' => e = .returned (.int .i64 ((k0 + 2 * t.rs.length + 3 * t.ws.length : Nat) : Int)) ∧ TLie w' lo hi (mkT t k0) ra rc wa wc ∧ Zn lo hi w w' := by
 obtain ⟨m, hm1, hm2, h1, h2⟩ := h.ex
 have L1 : Hid (Lies encR 109 (w.alloc (.cells #[.int .i64 t.id, .int .i64 t.st, .int .i64 t.snap, .int .i64 t.cs, .slice ra t.rs.length rc, .slice wa t.ws.length wc, .bool t.out, .string t.nm] 38)) lo m (.slice ra t.rs.length rc) t.rs) := h1.below ((belowRefl w).alloc (Nat.le_refl _) _)
 have L2 : Hid (Lies encW 111 (w.alloc (.cells #[.int .i64 t.id, .int .i64 t.st, .int .i64 t.snap, .int .i64 t.cs, .slice ra t.rs.length rc, .slice wa t.ws.length wc, .bool t.out, .string t.nm] 38)) m hi (.slice wa t.ws.length wc) t.ws) := h2.below ((belowRefl w).alloc (Nat.le_refl _) _)
 have BX0 := hide (Bx.new w [.int .i64 t.id, .int .i64 t.st, .int .i64 t.snap, .int .i64 t.cs, .slice ra t.rs.length rc, .slice wa t.ws.length wc, .bool t.out, .string t.nm] 38)
 have Z0 : Hid (Zn lo hi w (w.alloc (.cells #[.int .i64 t.id, .int .i64 t.st, .int .i64 t.snap, .int .i64 t.cs, .slice ra t.rs.length rc, .slice wa t.ws.length wc, .bool t.out, .string t.nm] 38))) := Zn.ofBelow _ _ ((belowRefl w).alloc (Nat.le_refl _) _)
 clear h h1 h2
 go_enter Tryz.func39, Tryz.ntmps39
 go_wp2_with fail
 refine (markR t.rs.length k0 ra rc lo _ (by omega) hk0 (by omega) _ L1.out.own).mono ?_
 rintro e w1 ⟨rfl, ho1, hg1⟩
 have LO := hide L1.out.lo
 have L1' : Hid (Lies encR 109 w1 lo m (.slice ra t.rs.length rc) (mkR k0 t.rs.length)) := ⟨by have e := mkR_len k0 t.rs.length; unfold GOwn at ho1 ⊢; exact ho1, L1.out.up⟩
 have L2' := hide (L2.out.marked hg1 (fun g hg => Or.inl (L1.out.up g hg)))
 have BX1 : Hid (Bx w1 w.heap.size [.int .i64 t.id, .int .i64 t.st, .int .i64 t.snap, .int .i64 t.cs, .slice ra t.rs.length rc, .slice wa t.ws.length wc, .bool t.out, .string t.nm]) := bx_marked BX0.out hg1 (fun e => by have := L1.out.up _ e; omega)
 have Z1 : Hid (Zn lo hi w w1) := Z0.out.trans (Zn.ofGrown hg1 (fun g hg => by have := LO.out g hg; omega))
 clear ho1 hg1 L1 L2 BX0 Z0
 have x5 := BX1.out.c5
 obtain ⟨k1, hk1'⟩ : ∃ k1, k1 = k0 + 2 * t.rs.length := ⟨_, rfl⟩
 have HK : Hid (k1 = k0 + 2 * t.rs.length) := hk1'
 rw [← hk1']
 have hk2 : 0 < k1 := by omega
 have hk3 : k1 ≤ 100000000000000000 := by omega
 clear hk1'
 go_wp2_with fail
 refine (markW t.ws.length k1 wa wc m _ (by omega) hk2 hk3 _ L2'.out.own).mono ?_
 rintro e w2 ⟨rfl, ho2, hg2⟩
 have LO2 := hide L2'.out.lo
 have L3 : Hid (Lies encW 111 w2 m hi (.slice wa t.ws.length wc) (mkW k1 t.ws.length)) := ⟨ho2, L2'.out.up⟩
 have L4 := hide (L1'.out.marked hg2 (fun g hg => Or.inr (LO2.out g hg).1))
 have Z2 : Hid (Zn lo hi w w2) := Z1.out.trans (Zn.ofGrown hg2 (fun g hg => by have := LO2.out g hg; omega))
 clear ho2 hg2 x5
 obtain ⟨k2, hk2'⟩ : ∃ k2, k2 = k1 + 3 * t.ws.length := ⟨_, rfl⟩
 have HK2 : Hid (k2 = k0 + 2 * t.rs.length + 3 * t.ws.length) := by show _ = _; rw [hk2', HK.out]
 rw [← hk2']
 clear hk2'
 go_wp2
 go_ret
 refine ⟨ret_int (by have := HK2.out; omega), ⟨m, hm1, hm2, ?_, ?_⟩, Z2.out⟩
 ·have h := L4.out
  show Lies encR 109 w2 lo m (.slice ra (mkR k0 t.rs.length).length rc) (mkR k0 t.rs.length)
  rw [mkR_len]; exact h
 ·have h := L3.out
  rw [HK.out] at h
  show Lies encW 111 w2 m hi (.slice wa (mkW (k0 + 2 * t.rs.length) t.ws.length).length wc) (mkW (k0 + 2 * t.rs.length) t.ws.length)
  rw [mkW_len]; exact h

set_option maxRecDepth 100000 in
set_option maxHeartbeats 2000000 in
theorem heldT (t : Tx) (ra wa : Option Addr) (rc wc : Nat) (k0 : Nat) (hr : t.rs.length ≤ 3000000) (hw : t.ws.length ≤ 3000000) (hk0 : 0 < k0) (hk1 : k0 ≤ 10000000) (w : World) (h : TRow w (mkT t k0) ra wa) :
  Calls Tryz.prog 41 #[.agg #[.int .i64 t.id, .int .i64 t.st, .int .i64 t.snap, .int .i64 t.cs, .slice ra t.rs.length rc, .slice wa t.ws.length wc, .bool t.out, .string t.nm], .int .i64 k0] w fun e w' => e = .returned (.int .i64 ((k0 + 2 * t.rs.length + 3 * t.ws.length : Nat) : Int)) ∧ Below w.heap.size w w' := by
 have HR : Hid (GRow encR w ra (mkR k0 t.rs.length)) := h.r
 have HW : Hid (GRow encW w wa (mkW (k0 + 2 * t.rs.length) t.ws.length)) := h.w
 clear h
 have BX0 := hide (Bx.new w [.int .i64 t.id, .int .i64 t.st, .int .i64 t.snap, .int .i64 t.cs, .slice ra t.rs.length rc, .slice wa t.ws.length wc, .bool t.out, .string t.nm] 38)
 have HB0 : Hid (Below w.heap.size w (w.alloc (.cells #[.int .i64 t.id, .int .i64 t.st, .int .i64 t.snap, .int .i64 t.cs, .slice ra t.rs.length rc, .slice wa t.ws.length wc, .bool t.out, .string t.nm] 38))) := (belowRefl w).alloc (Nat.le_refl _) _
 go_enter Tryz.func41, Tryz.ntmps41
 go_wp2_with fail
 refine (heldR t.rs.length k0 ra rc (by omega) hk0 (by omega) _ (HR.out.below HB0.out)).mono ?_
 rintro e w1 ⟨rfl, hb1⟩
 have BX1 := hide (BX0.out.below hb1)
 have HB1 := hide (HB0.out.trans (hb1.mono HB0.out.size))
 clear hb1 BX0 HB0
 have x5 := BX1.out.c5
 obtain ⟨k1, hk1'⟩ : ∃ k1, k1 = k0 + 2 * t.rs.length := ⟨_, rfl⟩
 have HK : Hid (k1 = k0 + 2 * t.rs.length) := hk1'
 rw [← hk1'] at HW ⊢
 have hk2 : 0 < k1 := by omega
 have hk3 : k1 ≤ 100000000000000000 := by omega
 have hn1 : ¬ (k1 : Int) < 0 := by omega
 clear hk1'
 go_wp2_with fail
 refine (heldW t.ws.length k1 wa wc (by omega) hk2 hk3 _ (HW.out.below HB1.out)).mono ?_
 rintro e w2 ⟨rfl, hb2⟩
 have HB2 := hide (HB1.out.trans (hb2.mono HB1.out.size))
 clear hb2 x5
 obtain ⟨k2, hk2'⟩ : ∃ k2, k2 = k1 + 3 * t.ws.length := ⟨_, rfl⟩
 have HK2 : Hid (k2 = k0 + 2 * t.rs.length + 3 * t.ws.length) := by show _ = _; rw [hk2', HK.out]
 rw [← hk2']
 have hn2 : ¬ (k2 : Int) < 0 := by omega
 clear hk2'
 go_wp2
 go_ret
 exact ⟨ret_int (by have := HK2.out; omega), HB2.out⟩

set_option maxRecDepth 100000 in
set_option maxHeartbeats 2000000 in
theorem heldBk (b : Bb) (hf : BFit b) (k0 : Nat) (hk0 : 0 < k0) (hk1 : k0 ≤ 10000000) (q1 q2 q3 : Nat) (h1 : q1 = k0 + 4 * b.vs.length) (h2 : q2 = q1 + wtL b.ps) (h3 : q3 = q2 + wtL b.qs) (w : World) (hr : BRows w ⟨mkV k0 b.vs.length, mkL b.ps q1, mkL b.qs q2, b.cs, b.nx, b.va, b.vc, b.pa, b.pc, b.qa, b.qc⟩) :
  Calls Tryz.prog 42 #[.agg #[.slice b.va b.vs.length b.vc, .slice b.pa b.ps.length b.pc, .slice b.qa b.qs.length b.qc, .int .i64 b.cs, .int .i64 b.nx], .int .i64 (k0 : Int)] w fun e w' => e = .returned (.int .i64 (q3 : Int)) ∧ Below w.heap.size w w' := by
 have HR : Hid (BRows w ⟨mkV k0 b.vs.length, mkL b.ps q1, mkL b.qs q2, b.cs, b.nx, b.va, b.vc, b.pa, b.pc, b.qa, b.qc⟩) := hr
 clear hr
 have HFp : Hid (∀ y ∈ b.ps, TFit y.t) := fun y hy => hf.p.2 _ (List.mem_map.2 ⟨y, hy, rfl⟩)
 have HFq : Hid (∀ y ∈ b.qs, TFit y.t) := fun y hy => hf.q.2 _ (List.mem_map.2 ⟨y, hy, rfl⟩)
 have HWp : Hid (wtL b.ps ≤ 5600000000000) := by
  show _ ≤ _
  have h1 := wtL_fit b.ps HFp.out
  have h2 : b.ps.length * 5242886 ≤ 1048576 * 5242886 := Nat.mul_le_mul_right _ hf.pl
  omega
 have HWq : Hid (wtL b.qs ≤ 5600000000000) := by
  show _ ≤ _
  have h1 := wtL_fit b.qs HFq.out
  have h2 : b.qs.length * 5242886 ≤ 1048576 * 5242886 := Nat.mul_le_mul_right _ hf.ql
  omega
 have hnv : b.vs.length ≤ 1048576 := hf.vl
 have hnp : b.ps.length ≤ 1048576 := hf.pl
 have hnq : b.qs.length ≤ 1048576 := hf.ql
 clear hf
 have hwp := HWp.out
 have hwq := HWq.out
 have BX0 : Hid (Bx (w.alloc (.cells #[.slice b.va b.vs.length b.vc, .slice b.pa b.ps.length b.pc, .slice b.qa b.qs.length b.qc, .int .i64 b.cs, .int .i64 b.nx] 42)) w.heap.size [.slice b.va b.vs.length b.vc, .slice b.pa b.ps.length b.pc, .slice b.qa b.qs.length b.qc, .int .i64 b.cs, .int .i64 b.nx]) := Bx.new w [.slice b.va b.vs.length b.vc, .slice b.pa b.ps.length b.pc, .slice b.qa b.qs.length b.qc, .int .i64 b.cs, .int .i64 b.nx] 42
 have HB0 : Hid (Below w.heap.size w (w.alloc (.cells #[.slice b.va b.vs.length b.vc, .slice b.pa b.ps.length b.pc, .slice b.qa b.qs.length b.qc, .int .i64 b.cs, .int .i64 b.nx] 42))) := (belowRefl w).alloc (Nat.le_refl _) _
 have l1 : ¬ ((q1 : Int) < 0) := by omega
 have l2 : ¬ ((q2 : Int) < 0) := by omega
 have l3 : ¬ ((q3 : Int) < 0) := by omega
 have b1 : 0 < q1 ∧ q1 ≤ 10000000000000000 := by omega
 have b2 : 0 < q2 ∧ q2 ≤ 10000000000000000 := by omega
 have E1 : Hid (k0 + 4 * b.vs.length = q1) := h1.symm
 have E2 : Hid (q1 + wtL b.ps = q2) := h2.symm
 have E3 : Hid (q2 + wtL b.qs = q3) := h3.symm
 clear h1 h2 h3 hwp hwq
 go_enter Tryz.func42, Tryz.ntmps42
 go_upto_region 1 with fail
 generalize (w.alloc (.cells #[.slice b.va b.vs.length b.vc, .slice b.pa b.ps.length b.pc, .slice b.qa b.qs.length b.qc, .int .i64 b.cs, .int .i64 b.nx] 42)) = w0 at *
 have x0 := BX0.out.c0
 go_wp2_with fail
 refine (heldV b.vs.length k0 b.va b.vc (by omega) (by omega) (by omega) _ (HR.out.v.below HB0.out)).mono ?_
 rintro e w1 ⟨rfl, hb⟩
 rw [E1.out]
 have HB1 := hide (HB0.out.trans (hb.mono HB0.out.size))
 have BX1 := hide (BX0.out.below hb)
 clear hb x0 BX0
 have x1 := BX1.out.c1
 go_wp2_with fail
 refine (heldL b.ps b.pa b.pc b.ps.length q1 rfl hnp HFp.out b1.1 b1.2 _ (HR.out.p.below HB1.out)).mono ?_
 rintro e w2 ⟨rfl, hb⟩
 rw [E2.out]
 have HB2 := hide (HB1.out.trans (hb.mono HB1.out.size))
 have BX2 := hide (BX1.out.below hb)
 clear hb x1 BX1
 have x2 := BX2.out.c2
 go_wp2_with fail
 refine (heldL b.qs b.qa b.qc b.qs.length q2 rfl hnq HFq.out b2.1 b2.2 _ (HR.out.q.below HB2.out)).mono ?_
 rintro e w3 ⟨rfl, hb⟩
 rw [E3.out]
 have HB3 := hide (HB2.out.trans (hb.mono HB2.out.size))
 clear hb x2 BX2
 go_wp2
 go_ret
 exact ⟨rfl, HB3.out⟩

set_option maxRecDepth 100000 in
set_option maxHeartbeats 2000000 in
theorem markBk (b : Bb) (lo hi : Nat) (hf : BFit b) (k0 : Nat) (hk0 : 0 < k0) (hk1 : k0 ≤ 10000000) (w : World) (hz : hi ≤ w.heap.size) (h : BLie w lo hi b) :
  Calls Tryz.prog 40 #[.agg #[.slice b.va b.vs.length b.vc, .slice b.pa b.ps.length b.pc, .slice b.qa b.qs.length b.qc, .int .i64 b.cs, .int .i64 b.nx], .int .i64 (k0 : Int)] w fun e w' => ∃ (q : Nat) (m : Bb), e = .returned (.int .i64 (q : Int)) ∧ BLie w' lo hi m ∧ Zn lo hi w w' ∧ (∀ W : World, BRows W m → Calls Tryz.prog 42 #[.agg #[.slice b.va b.vs.length b.vc, .slice b.pa b.ps.length b.pc, .slice b.qa b.qs.length b.qc, .int .i64 b.cs, .int .i64 b.nx], .int .i64 (k0 : Int)] W fun e w' => e = .returned (.int .i64 (q : Int)) ∧ Below W.heap.size W w') := by
 have HF : Hid (BFit b) := hf
 obtain ⟨m1, m2, k1, k2, k3, hv, hp, hq⟩ := h.ex
 have hba : Below w.heap.size w (w.alloc (.cells #[.slice b.va b.vs.length b.vc, .slice b.pa b.ps.length b.pc, .slice b.qa b.qs.length b.qc, .int .i64 b.cs, .int .i64 b.nx] 42)) := (belowRefl w).alloc (Nat.le_refl _) _
 have BX0 : Hid (Bx (w.alloc (.cells #[.slice b.va b.vs.length b.vc, .slice b.pa b.ps.length b.pc, .slice b.qa b.qs.length b.qc, .int .i64 b.cs, .int .i64 b.nx] 42)) w.heap.size [.slice b.va b.vs.length b.vc, .slice b.pa b.ps.length b.pc, .slice b.qa b.qs.length b.qc, .int .i64 b.cs, .int .i64 b.nx]) := Bx.new w [.slice b.va b.vs.length b.vc, .slice b.pa b.ps.length b.pc, .slice b.qa b.qs.length b.qc, .int .i64 b.cs, .int .i64 b.nx] 42
 have HV0 : Hid (Lies encV 106 (w.alloc (.cells #[.slice b.va b.vs.length b.vc, .slice b.pa b.ps.length b.pc, .slice b.qa b.qs.length b.qc, .int .i64 b.cs, .int .i64 b.nx] 42)) lo m1 (.slice b.va b.vs.length b.vc) b.vs) := hv.below hba
 have HP0 : Hid (LLie (w.alloc (.cells #[.slice b.va b.vs.length b.vc, .slice b.pa b.ps.length b.pc, .slice b.qa b.qs.length b.qc, .int .i64 b.cs, .int .i64 b.nx] 42)) m1 m2 (.slice b.pa b.ps.length b.pc) b.ps) := hp.below hba
 have HQ0 : Hid (LLie (w.alloc (.cells #[.slice b.va b.vs.length b.vc, .slice b.pa b.ps.length b.pc, .slice b.qa b.qs.length b.qc, .int .i64 b.cs, .int .i64 b.nx] 42)) m2 hi (.slice b.qa b.qs.length b.qc) b.qs) := hq.below hba
 have HZ0 : Hid (Zn lo hi w (w.alloc (.cells #[.slice b.va b.vs.length b.vc, .slice b.pa b.ps.length b.pc, .slice b.qa b.qs.length b.qc, .int .i64 b.cs, .int .i64 b.nx] 42))) := Zn.ofBelow lo hi hba
 clear h hv hp hq hba
 have HFp : Hid (∀ y ∈ b.ps, TFit y.t) := fun y hy => hf.p.2 _ (List.mem_map.2 ⟨y, hy, rfl⟩)
 have HFq : Hid (∀ y ∈ b.qs, TFit y.t) := fun y hy => hf.q.2 _ (List.mem_map.2 ⟨y, hy, rfl⟩)
 have HWp : Hid (wtL b.ps ≤ 5600000000000) := by
  show _ ≤ _
  have h1 := wtL_fit b.ps HFp.out
  have h2 : b.ps.length * 5242886 ≤ 1048576 * 5242886 := Nat.mul_le_mul_right _ hf.pl
  omega
 have HWq : Hid (wtL b.qs ≤ 5600000000000) := by
  show _ ≤ _
  have h1 := wtL_fit b.qs HFq.out
  have h2 : b.qs.length * 5242886 ≤ 1048576 * 5242886 := Nat.mul_le_mul_right _ hf.ql
  omega
 have hnv : b.vs.length ≤ 1048576 := hf.vl
 have hnp : b.ps.length ≤ 1048576 := hf.pl
 have hnq : b.qs.length ≤ 1048576 := hf.ql
 clear hf
 have hwp := HWp.out
 have hwq := HWq.out
 obtain ⟨q1, h1⟩ : ∃ q1, q1 = k0 + 4 * b.vs.length := ⟨_, rfl⟩
 obtain ⟨q2, h2⟩ : ∃ q2, q2 = q1 + wtL b.ps := ⟨_, rfl⟩
 obtain ⟨q3, h3⟩ : ∃ q3, q3 = q2 + wtL b.qs := ⟨_, rfl⟩
 have b1 : 0 < q1 ∧ q1 ≤ 10000000000000000 := by omega
 have b2 : 0 < q2 ∧ q2 ≤ 10000000000000000 := by omega
 have E1 : Hid (k0 + 4 * b.vs.length = q1) := h1.symm
 have E2 : Hid (q1 + wtL b.ps = q2) := h2.symm
 have E3 : Hid (q2 + wtL b.qs = q3) := h3.symm
 have HH : Hid (∀ W : World, BRows W ⟨mkV k0 b.vs.length, mkL b.ps q1, mkL b.qs q2, b.cs, b.nx, b.va, b.vc, b.pa, b.pc, b.qa, b.qc⟩ → Calls Tryz.prog 42 #[.agg #[.slice b.va b.vs.length b.vc, .slice b.pa b.ps.length b.pc, .slice b.qa b.qs.length b.qc, .int .i64 b.cs, .int .i64 b.nx], .int .i64 (k0 : Int)] W fun e w' => e = .returned (.int .i64 (q3 : Int)) ∧ Below W.heap.size W w') := fun W hW => heldBk b HF.out k0 hk0 hk1 q1 q2 q3 h1 h2 h3 W hW
 clear h1 h2 h3 hwp hwq HF
 go_enter Tryz.func40, Tryz.ntmps40
 go_upto_region 1 with fail
 generalize (w.alloc (.cells #[.slice b.va b.vs.length b.vc, .slice b.pa b.ps.length b.pc, .slice b.qa b.qs.length b.qc, .int .i64 b.cs, .int .i64 b.nx] 42)) = w0 at *
 have x0 := BX0.out.c0
 go_wp2_with fail
 refine (markV b.vs.length k0 b.va b.vc lo _ (by omega) (by omega) (by omega) _ HV0.out.own).mono ?_
 rintro e w1 ⟨rfl, ho, hg⟩
 rw [E1.out]
 have hz1 : Zn lo m1 w0 w1 := Zn.ofGrown hg (fun g h => HV0.out.lo g h)
 have HV1 : Hid (Lies encV 106 w1 lo m1 (.slice b.va b.vs.length b.vc) (mkV k0 b.vs.length)) := ⟨ho, HV0.out.up⟩
 have HP1 := hide (HP0.out.zn hz1 (by omega))
 have HQ1 := hide (HQ0.out.zn hz1 (by omega))
 have HZ1 := hide (HZ0.out.trans (hz1.mono (by omega) (by omega)))
 have BX1 := hide (BX0.out.zn hz1 (by omega))
 clear ho hg hz1 x0 BX0 HV0 HP0 HQ0 HZ0
 have x1 := BX1.out.c1
 go_wp2_with fail
 refine (markL b.ps b.pa b.pc b.ps.length m1 m2 q1 rfl hnp HFp.out b1.1 b1.2 _ HP1.out).mono ?_
 rintro e w2 ⟨rfl, ho, hz2⟩
 rw [E2.out]
 have HP2 : Hid (LLie w2 m1 m2 (.slice b.pa b.ps.length b.pc) (mkL b.ps q1)) := ho
 have HV2 := hide (HV1.out.zn hz2 (by omega))
 have HQ2 := hide (HQ1.out.zn hz2 (by omega))
 have HZ2 := hide (HZ1.out.trans (hz2.mono (by omega) (by omega)))
 have BX2 := hide (BX1.out.zn hz2 (by omega))
 clear ho hz2 x1 BX1 HV1 HP1 HQ1 HZ1
 have x2 := BX2.out.c2
 go_wp2_with fail
 refine (markL b.qs b.qa b.qc b.qs.length m2 hi q2 rfl hnq HFq.out b2.1 b2.2 _ HQ2.out).mono ?_
 rintro e w3 ⟨rfl, ho, hz3⟩
 rw [E3.out]
 have HQ3 : Hid (LLie w3 m2 hi (.slice b.qa b.qs.length b.qc) (mkL b.qs q2)) := ho
 have HV3 := hide (HV2.out.zn hz3 (by omega))
 have HP3 := hide (HP2.out.zn hz3 (by omega))
 have HZ3 := hide (HZ2.out.trans (hz3.mono (by omega) (by omega)))
 clear ho hz3 x2 BX2 HV2 HP2 HQ2 HZ2
 go_wp2
 go_ret
 refine ⟨q3, ⟨mkV k0 b.vs.length, mkL b.ps q1, mkL b.qs q2, b.cs, b.nx, b.va, b.vc, b.pa, b.pc, b.qa, b.qc⟩, rfl, ⟨m1, m2, k1, k2, k3, ?_, ?_, ?_⟩, HZ3.out, HH.out⟩
 ·show Lies encV 106 w3 lo m1 (.slice b.va (mkV k0 b.vs.length).length b.vc) (mkV k0 b.vs.length)
  rw [mkV_len]
  exact HV3.out
 ·show LLie w3 m1 m2 (.slice b.pa (mkL b.ps q1).length b.pc) (mkL b.ps q1)
  rw [mkL_len]
  exact HP3.out
 ·show LLie w3 m2 hi (.slice b.qa (mkL b.qs q2).length b.qc) (mkL b.qs q2)
  rw [mkL_len]
  exact HQ3.out

set_option maxRecDepth 100000 in
set_option maxHeartbeats 2000000 in
theorem heldRc (r : Rc) (hf : RcFit r) (mb : Bb) (k1 q : Nat) (h1 : k1 = 1 + 2 * r.t.t.rs.length + 3 * r.t.t.ws.length) (CH : Hid (∀ W, BRows W mb → Calls Tryz.prog 42 #[.agg #[.slice r.b.va r.b.vs.length r.b.vc, .slice r.b.pa r.b.ps.length r.b.pc, .slice r.b.qa r.b.qs.length r.b.qc, .int .i64 r.b.cs, .int .i64 r.b.nx], .int .i64 (k1 : Int)] W fun e w' => e = .returned (.int .i64 (q : Int)) ∧ Below W.heap.size W w')) (w : World) (hT : TRow w (mkT r.t.t 1) r.t.ra r.t.wa) (hB : BRows w mb) :
  Calls Tryz.prog 13 #[.agg #[.int .i64 r.k, .int .i64 r.t.t.id, .int .i64 r.t.t.st, .int .i64 r.t.t.snap, .int .i64 r.t.t.cs, .slice r.t.ra r.t.t.rs.length r.t.rc, .slice r.t.wa r.t.t.ws.length r.t.wc, .bool r.t.t.out, .string r.t.t.nm, .string r.nm, .bool r.yes, .slice r.b.va r.b.vs.length r.b.vc, .slice r.b.pa r.b.ps.length r.b.pc, .slice r.b.qa r.b.qs.length r.b.qc, .int .i64 r.b.cs, .int .i64 r.b.nx], .int .i64 1] w fun e w' => e = .returned (.int .i64 (q : Int)) ∧ Below w.heap.size w w' := by
 have HT := hide hT
 have HB := hide hB
 have hr : r.t.t.rs.length ≤ 3000000 := by have := hf.t.1; omega
 have hw : r.t.t.ws.length ≤ 3000000 := by have := hf.t.2.2.1; omega
 have E1 : Hid (1 + 2 * r.t.t.rs.length + 3 * r.t.t.ws.length = k1) := h1.symm
 have hn1 : ¬ ((k1 : Int) < 0) := by omega
 have hn2 : ¬ ((q : Int) < 0) := by omega
 have BX0 := hide (Bx.new w [.int .i64 r.k, .int .i64 r.t.t.id, .int .i64 r.t.t.st, .int .i64 r.t.t.snap, .int .i64 r.t.t.cs, .slice r.t.ra r.t.t.rs.length r.t.rc, .slice r.t.wa r.t.t.ws.length r.t.wc, .bool r.t.t.out, .string r.t.t.nm, .string r.nm, .bool r.yes, .slice r.b.va r.b.vs.length r.b.vc, .slice r.b.pa r.b.ps.length r.b.pc, .slice r.b.qa r.b.qs.length r.b.qc, .int .i64 r.b.cs, .int .i64 r.b.nx] 44)
 have HB0 : Hid (Below w.heap.size w (w.alloc (.cells #[.int .i64 r.k, .int .i64 r.t.t.id, .int .i64 r.t.t.st, .int .i64 r.t.t.snap, .int .i64 r.t.t.cs, .slice r.t.ra r.t.t.rs.length r.t.rc, .slice r.t.wa r.t.t.ws.length r.t.wc, .bool r.t.t.out, .string r.t.t.nm, .string r.nm, .bool r.yes, .slice r.b.va r.b.vs.length r.b.vc, .slice r.b.pa r.b.ps.length r.b.pc, .slice r.b.qa r.b.qs.length r.b.qc, .int .i64 r.b.cs, .int .i64 r.b.nx] 44))) := (belowRefl w).alloc (Nat.le_refl _) _
 clear hT hB hf h1
 go_enter Tryz.func13, Tryz.ntmps13
 go_upto_region 1 with fail
 generalize (w.alloc (.cells #[.int .i64 r.k, .int .i64 r.t.t.id, .int .i64 r.t.t.st, .int .i64 r.t.t.snap, .int .i64 r.t.t.cs, .slice r.t.ra r.t.t.rs.length r.t.rc, .slice r.t.wa r.t.t.ws.length r.t.wc, .bool r.t.t.out, .string r.t.t.nm, .string r.nm, .bool r.yes, .slice r.b.va r.b.vs.length r.b.vc, .slice r.b.pa r.b.ps.length r.b.pc, .slice r.b.qa r.b.qs.length r.b.qc, .int .i64 r.b.cs, .int .i64 r.b.nx] 44)) = w0 at *
 have x1 := BX0.out.c1
 have x2 := BX0.out.c2
 have x3 := BX0.out.c3
 have x4 := BX0.out.c4
 have x5 := BX0.out.c5
 have x6 := BX0.out.c6
 have x7 := BX0.out.c7
 have x8 := BX0.out.c8
 go_wp2_with fail
 refine (heldT r.t.t r.t.ra r.t.wa r.t.rc r.t.wc 1 hr hw (by omega) (by omega) _ (HT.out.below HB0.out)).mono ?_
 rintro e w1 ⟨rfl, hb⟩
 rw [E1.out]
 have BX1 := hide (BX0.out.below hb)
 have HB1 := hide (HB0.out.trans (hb.mono HB0.out.size))
 clear hb x1 x2 x3 x4 x5 x6 x7 x8 BX0 HB0
 have x11 := BX1.out.c11
 have x12 := BX1.out.c12
 have x13 := BX1.out.c13
 have x14 := BX1.out.c14
 have x15 := BX1.out.c15
 go_wp2_with fail
 refine (CH.out _ (HB.out.below HB1.out)).mono ?_
 rintro e w2 ⟨rfl, hb⟩
 have HB2 := hide (HB1.out.trans (hb.mono HB1.out.size))
 clear hb x11 x12 x13 x14 x15 BX1 HB1
 go_wp2
 go_ret
 exact ⟨rfl, HB2.out⟩

set_option maxRecDepth 100000 in
set_option maxHeartbeats 2000000 in
theorem markRc (r : Rc) (lo hi : Nat) (hf : RcFit r) (w : World) (hz : hi ≤ w.heap.size) (h : RcLie w lo hi r) :
  Calls Tryz.prog 12 #[.agg #[.int .i64 r.k, .int .i64 r.t.t.id, .int .i64 r.t.t.st, .int .i64 r.t.t.snap, .int .i64 r.t.t.cs, .slice r.t.ra r.t.t.rs.length r.t.rc, .slice r.t.wa r.t.t.ws.length r.t.wc, .bool r.t.t.out, .string r.t.t.nm, .string r.nm, .bool r.yes, .slice r.b.va r.b.vs.length r.b.vc, .slice r.b.pa r.b.ps.length r.b.pc, .slice r.b.qa r.b.qs.length r.b.qc, .int .i64 r.b.cs, .int .i64 r.b.nx], .int .i64 1] w fun e w' => ∃ (q : Nat) (m : Rc), e = .returned (.int .i64 (q : Int)) ∧ RcLie w' lo hi m ∧ Zn lo hi w w' ∧ (∀ W : World, RcRows W m → Calls Tryz.prog 13 #[.agg #[.int .i64 r.k, .int .i64 r.t.t.id, .int .i64 r.t.t.st, .int .i64 r.t.t.snap, .int .i64 r.t.t.cs, .slice r.t.ra r.t.t.rs.length r.t.rc, .slice r.t.wa r.t.t.ws.length r.t.wc, .bool r.t.t.out, .string r.t.t.nm, .string r.nm, .bool r.yes, .slice r.b.va r.b.vs.length r.b.vc, .slice r.b.pa r.b.ps.length r.b.pc, .slice r.b.qa r.b.qs.length r.b.qc, .int .i64 r.b.cs, .int .i64 r.b.nx], .int .i64 1] W fun e w' => e = .returned (.int .i64 (q : Int)) ∧ Below W.heap.size W w') := by
 have HF := hide hf
 obtain ⟨mid, m1, m2, ht, hb⟩ := h.ex
 have hba : Below w.heap.size w (w.alloc (.cells #[.int .i64 r.k, .int .i64 r.t.t.id, .int .i64 r.t.t.st, .int .i64 r.t.t.snap, .int .i64 r.t.t.cs, .slice r.t.ra r.t.t.rs.length r.t.rc, .slice r.t.wa r.t.t.ws.length r.t.wc, .bool r.t.t.out, .string r.t.t.nm, .string r.nm, .bool r.yes, .slice r.b.va r.b.vs.length r.b.vc, .slice r.b.pa r.b.ps.length r.b.pc, .slice r.b.qa r.b.qs.length r.b.qc, .int .i64 r.b.cs, .int .i64 r.b.nx] 44)) := (belowRefl w).alloc (Nat.le_refl _) _
 have BX0 := hide (Bx.new w [.int .i64 r.k, .int .i64 r.t.t.id, .int .i64 r.t.t.st, .int .i64 r.t.t.snap, .int .i64 r.t.t.cs, .slice r.t.ra r.t.t.rs.length r.t.rc, .slice r.t.wa r.t.t.ws.length r.t.wc, .bool r.t.t.out, .string r.t.t.nm, .string r.nm, .bool r.yes, .slice r.b.va r.b.vs.length r.b.vc, .slice r.b.pa r.b.ps.length r.b.pc, .slice r.b.qa r.b.qs.length r.b.qc, .int .i64 r.b.cs, .int .i64 r.b.nx] 44)
 have HT0 : Hid (TLie (w.alloc (.cells #[.int .i64 r.k, .int .i64 r.t.t.id, .int .i64 r.t.t.st, .int .i64 r.t.t.snap, .int .i64 r.t.t.cs, .slice r.t.ra r.t.t.rs.length r.t.rc, .slice r.t.wa r.t.t.ws.length r.t.wc, .bool r.t.t.out, .string r.t.t.nm, .string r.nm, .bool r.yes, .slice r.b.va r.b.vs.length r.b.vc, .slice r.b.pa r.b.ps.length r.b.pc, .slice r.b.qa r.b.qs.length r.b.qc, .int .i64 r.b.cs, .int .i64 r.b.nx] 44)) lo mid r.t.t r.t.ra r.t.rc r.t.wa r.t.wc) := ht.below hba
 have HB0 : Hid (BLie (w.alloc (.cells #[.int .i64 r.k, .int .i64 r.t.t.id, .int .i64 r.t.t.st, .int .i64 r.t.t.snap, .int .i64 r.t.t.cs, .slice r.t.ra r.t.t.rs.length r.t.rc, .slice r.t.wa r.t.t.ws.length r.t.wc, .bool r.t.t.out, .string r.t.t.nm, .string r.nm, .bool r.yes, .slice r.b.va r.b.vs.length r.b.vc, .slice r.b.pa r.b.ps.length r.b.pc, .slice r.b.qa r.b.qs.length r.b.qc, .int .i64 r.b.cs, .int .i64 r.b.nx] 44)) mid hi r.b) := hb.below hba
 have HZ0 : Hid (Zn lo hi w (w.alloc (.cells #[.int .i64 r.k, .int .i64 r.t.t.id, .int .i64 r.t.t.st, .int .i64 r.t.t.snap, .int .i64 r.t.t.cs, .slice r.t.ra r.t.t.rs.length r.t.rc, .slice r.t.wa r.t.t.ws.length r.t.wc, .bool r.t.t.out, .string r.t.t.nm, .string r.nm, .bool r.yes, .slice r.b.va r.b.vs.length r.b.vc, .slice r.b.pa r.b.ps.length r.b.pc, .slice r.b.qa r.b.qs.length r.b.qc, .int .i64 r.b.cs, .int .i64 r.b.nx] 44))) := Zn.ofBelow lo hi hba
 have SZ : Hid (w.heap.size ≤ (w.alloc (.cells #[.int .i64 r.k, .int .i64 r.t.t.id, .int .i64 r.t.t.st, .int .i64 r.t.t.snap, .int .i64 r.t.t.cs, .slice r.t.ra r.t.t.rs.length r.t.rc, .slice r.t.wa r.t.t.ws.length r.t.wc, .bool r.t.t.out, .string r.t.t.nm, .string r.nm, .bool r.yes, .slice r.b.va r.b.vs.length r.b.vc, .slice r.b.pa r.b.ps.length r.b.pc, .slice r.b.qa r.b.qs.length r.b.qc, .int .i64 r.b.cs, .int .i64 r.b.nx] 44)).heap.size) := hba.size
 have hr : r.t.t.rs.length ≤ 3000000 := by have := hf.t.1; omega
 have hw : r.t.t.ws.length ≤ 3000000 := by have := hf.t.2.2.1; omega
 have hrF : r.t.t.rs.length ≤ 1048576 := hf.t.1
 have hwF : r.t.t.ws.length ≤ 1048576 := hf.t.2.2.1
 obtain ⟨k1, h1⟩ : ∃ k1, k1 = 1 + 2 * r.t.t.rs.length + 3 * r.t.t.ws.length := ⟨_, rfl⟩
 have E1 : Hid (1 + 2 * r.t.t.rs.length + 3 * r.t.t.ws.length = k1) := h1.symm
 have hk0 : 0 < k1 := by omega
 have hk1 : k1 ≤ 10000000 := by omega
 clear h ht hb hba hf h1
 go_enter Tryz.func12, Tryz.ntmps12
 go_upto_region 1 with fail
 generalize (w.alloc (.cells #[.int .i64 r.k, .int .i64 r.t.t.id, .int .i64 r.t.t.st, .int .i64 r.t.t.snap, .int .i64 r.t.t.cs, .slice r.t.ra r.t.t.rs.length r.t.rc, .slice r.t.wa r.t.t.ws.length r.t.wc, .bool r.t.t.out, .string r.t.t.nm, .string r.nm, .bool r.yes, .slice r.b.va r.b.vs.length r.b.vc, .slice r.b.pa r.b.ps.length r.b.pc, .slice r.b.qa r.b.qs.length r.b.qc, .int .i64 r.b.cs, .int .i64 r.b.nx] 44)) = w0 at *
 have x1 := BX0.out.c1
 have x2 := BX0.out.c2
 have x3 := BX0.out.c3
 have x4 := BX0.out.c4
 have x5 := BX0.out.c5
 have x6 := BX0.out.c6
 have x7 := BX0.out.c7
 have x8 := BX0.out.c8
 go_wp2_with fail
 refine (markT r.t.t r.t.ra r.t.wa r.t.rc r.t.wc lo mid 1 hr hw (by omega) (by omega) _ (by have := SZ.out; omega) HT0.out).mono ?_
 rintro e w1 ⟨rfl, hl, hzn⟩
 rw [E1.out]
 have HT1 : Hid (TLie w1 lo mid (mkT r.t.t 1) r.t.ra r.t.rc r.t.wa r.t.wc) := hl
 have HB1 := hide (HB0.out.zn hzn (by omega))
 have BX1 := hide (BX0.out.zn hzn (by omega))
 have HZ1 := hide (HZ0.out.trans (hzn.mono (by omega) (by omega)))
 have SZ1 := hide (Nat.le_trans SZ.out hzn.size)
 clear hl hzn x1 x2 x3 x4 x5 x6 x7 x8 BX0 HT0 HB0 HZ0 SZ
 have x11 := BX1.out.c11
 have x12 := BX1.out.c12
 have x13 := BX1.out.c13
 have x14 := BX1.out.c14
 have x15 := BX1.out.c15
 go_wp2_with fail
 refine (markBk r.b mid hi HF.out.b k1 hk0 hk1 _ (by have := SZ1.out; omega) HB1.out).mono ?_
 rintro e w2 ⟨q, mb, rfl, hl, hzn, hh⟩
 have HT2 := hide (HT1.out.zn hzn (by omega))
 have HB2 : Hid (BLie w2 mid hi mb) := hl
 have HZ2 := hide (HZ1.out.trans (hzn.mono (by omega) (by omega)))
 have HH := hide hh
 clear hl hzn hh x11 x12 x13 x14 x15 BX1 HT1 HB1 HZ1 SZ1
 go_wp2
 go_ret
 exact ⟨q, ⟨r.k, ⟨mkT r.t.t 1, r.t.ra, r.t.rc, r.t.wa, r.t.wc⟩, r.nm, r.yes, mb⟩, rfl, ⟨mid, m1, m2, HT2.out, HB2.out⟩, HZ2.out, fun W hW => heldRc r HF.out mb k1 q E1.out.symm HH W hW.t hW.b⟩

end Go.Proofs.YtpnnncfbodfnhaaGreatDoor

namespace Go.Proofs.YtpnnncfbodfnhaaGreatDoor
open Go.RowKit
open KM
open VM
attribute [local go_sem ↓] Go.wp_at_zero Go.wp_at_succ

set_option maxRecDepth 100000 in
set_option maxHeartbeats 8000000 in
theorem law4 (x : ByteArray) (w : World) (_hnm : x.size ≤ maxLen) (hT : Tab w) : Calls Tryz.prog 4 #[.string x] w fun e w' => e = .returned (.bool true) ∧ Below w.heap.size w w' := by
 have HTb : Hid (Tab w) := hT
 clear hT
 have HB : Hid (Below w.heap.size w w) := belowRefl w
 have TB := hide (HTb.out.below HB.out)
 by_cases hl : (1048576 : Int) < (x.size : Int)
 ·go_enter Tryz.func4, Tryz.ntmps4
  go_wp2
  go_ret
  exact ⟨rfl, HB.out⟩
 have hs : x.size ≤ 1048576 := by omega
 obtain ⟨DD, bo, hfd, hci, hcs⟩ := rc_both x hs
 have HFD : Hid (RcFit DD) := hfd
 have CS : Hid (∀ W : World, Calls Tryz.prog 10 #[.string x] W fun e w' => ∃ d : Rc, e = .returned (.tuple #[.agg #[.int .i64 d.k, .int .i64 d.t.t.id, .int .i64 d.t.t.st, .int .i64 d.t.t.snap, .int .i64 d.t.t.cs, .slice d.t.ra d.t.t.rs.length d.t.rc, .slice d.t.wa d.t.t.ws.length d.t.wc, .bool d.t.t.out, .string d.t.t.nm, .string d.nm, .bool d.yes, .slice d.b.va d.b.vs.length d.b.vc, .slice d.b.pa d.b.ps.length d.b.pc, .slice d.b.qa d.b.qs.length d.b.qc, .int .i64 d.b.cs, .int .i64 d.b.nx], .bool bo]) ∧ RcSame DD d ∧ RcLie w' W.heap.size w'.heap.size d ∧ Below W.heap.size W w') := hcs
 have CI : Hid (∀ W : World, Tab W → Calls Tryz.prog 11 #[.string x] W fun e w' => ∃ d : Rc, e = .returned (.tuple #[.agg #[.int .i64 d.k, .int .i64 d.t.t.id, .int .i64 d.t.t.st, .int .i64 d.t.t.snap, .int .i64 d.t.t.cs, .slice d.t.ra d.t.t.rs.length d.t.rc, .slice d.t.wa d.t.t.ws.length d.t.wc, .bool d.t.t.out, .string d.t.t.nm, .string d.nm, .bool d.yes, .slice d.b.va d.b.vs.length d.b.vc, .slice d.b.pa d.b.ps.length d.b.pc, .slice d.b.qa d.b.qs.length d.b.qc, .int .i64 d.b.cs, .int .i64 d.b.nx], .bool bo]) ∧ RcSame DD d ∧ RcLie w' W.heap.size w'.heap.size d ∧ Below W.heap.size W w') := hci
 clear hfd hci hcs
 have hb0 := bne_self' bo
 go_enter Tryz.func4, Tryz.ntmps4
 clear hs
 go_wp2_with fail
 refine (CS.out _).mono ?_
 rintro e w1 ⟨d1, rfl, hs, hl, hb1⟩
 have Z1 : Hid (w.heap.size ≤ w1.heap.size) := by show _ ≤ _; have h := hb1.size; simpa using h
 replace HB := hide (HB.out.trans (hb1.mono HB.out.size))
 replace TB := hide (HTb.out.below HB.out)
 have D1 : Hid (RcSame DD d1) := hs
 clear hs
 clear hb1
 have M1 : Hid (RcLie w1 (w.heap.size) w1.heap.size d1) := hl
 clear hl
 have hba : Below w1.heap.size w1 (w1.alloc (.cells #[.int .i64 d1.k, .int .i64 d1.t.t.id, .int .i64 d1.t.t.st, .int .i64 d1.t.t.snap, .int .i64 d1.t.t.cs, .slice d1.t.ra d1.t.t.rs.length d1.t.rc, .slice d1.t.wa d1.t.t.ws.length d1.t.wc, .bool d1.t.t.out, .string d1.t.t.nm, .string d1.nm, .bool d1.yes, .slice d1.b.va d1.b.vs.length d1.b.vc, .slice d1.b.pa d1.b.ps.length d1.b.pc, .slice d1.b.qa d1.b.qs.length d1.b.qc, .int .i64 d1.b.cs, .int .i64 d1.b.nx] 44)) := (belowRefl _).alloc (Nat.le_refl _) _
 replace HB := hide (HB.out.trans (hba.mono HB.out.size))
 replace TB := hide (HTb.out.below HB.out)
 replace M1 := hide (M1.out.below hba)
 clear hba
 have OB1 := hide (Bx.new w1 [.int .i64 d1.k, .int .i64 d1.t.t.id, .int .i64 d1.t.t.st, .int .i64 d1.t.t.snap, .int .i64 d1.t.t.cs, .slice d1.t.ra d1.t.t.rs.length d1.t.rc, .slice d1.t.wa d1.t.t.ws.length d1.t.wc, .bool d1.t.t.out, .string d1.t.t.nm, .string d1.nm, .bool d1.yes, .slice d1.b.va d1.b.vs.length d1.b.vc, .slice d1.b.pa d1.b.ps.length d1.b.pc, .slice d1.b.qa d1.b.qs.length d1.b.qc, .int .i64 d1.b.cs, .int .i64 d1.b.nx] 44)
 as_aux_lemma =>
  go_wp2_with fail
  refine (CI.out _ TB.out).mono ?_
  rintro e w2 ⟨d2, rfl, hs, hl, hb2⟩
  have Z2 : Hid (w1.heap.size + 1 ≤ w2.heap.size) := by show _ ≤ _; have h := hb2.size; simpa using h
  replace HB := hide (HB.out.trans (hb2.mono HB.out.size))
  replace TB := hide (HTb.out.below HB.out)
  replace M1 := hide (M1.out.below hb2)
  replace OB1 := hide (OB1.out.below hb2)
  have D2 : Hid (RcSame DD d2) := hs
  clear hs
  clear hb2
  have M2 : Hid (RcLie w2 (w1.heap.size + 1) w2.heap.size d2) := (by show RcLie _ _ _ _; simpa using hl)
  clear hl
  have hba : Below w2.heap.size w2 (w2.alloc (.cells #[.int .i64 d2.k, .int .i64 d2.t.t.id, .int .i64 d2.t.t.st, .int .i64 d2.t.t.snap, .int .i64 d2.t.t.cs, .slice d2.t.ra d2.t.t.rs.length d2.t.rc, .slice d2.t.wa d2.t.t.ws.length d2.t.wc, .bool d2.t.t.out, .string d2.t.t.nm, .string d2.nm, .bool d2.yes, .slice d2.b.va d2.b.vs.length d2.b.vc, .slice d2.b.pa d2.b.ps.length d2.b.pc, .slice d2.b.qa d2.b.qs.length d2.b.qc, .int .i64 d2.b.cs, .int .i64 d2.b.nx] 44)) := (belowRefl _).alloc (Nat.le_refl _) _
  replace HB := hide (HB.out.trans (hba.mono HB.out.size))
  replace TB := hide (HTb.out.below HB.out)
  replace M1 := hide (M1.out.below hba)
  replace OB1 := hide (OB1.out.below hba)
  replace M2 := hide (M2.out.below hba)
  clear hba
  have OB2 := hide (Bx.new w2 [.int .i64 d2.k, .int .i64 d2.t.t.id, .int .i64 d2.t.t.st, .int .i64 d2.t.t.snap, .int .i64 d2.t.t.cs, .slice d2.t.ra d2.t.t.rs.length d2.t.rc, .slice d2.t.wa d2.t.t.ws.length d2.t.wc, .bool d2.t.t.out, .string d2.t.t.nm, .string d2.nm, .bool d2.yes, .slice d2.b.va d2.b.vs.length d2.b.vc, .slice d2.b.pa d2.b.ps.length d2.b.pc, .slice d2.b.qa d2.b.qs.length d2.b.qc, .int .i64 d2.b.cs, .int .i64 d2.b.nx] 44)
  as_aux_lemma =>
   have x0 := OB2.out.c0
   have x1 := OB2.out.c1
   have x2 := OB2.out.c2
   have x3 := OB2.out.c3
   have x4 := OB2.out.c4
   have x5 := OB2.out.c5
   have x6 := OB2.out.c6
   have x7 := OB2.out.c7
   have x8 := OB2.out.c8
   have x9 := OB2.out.c9
   have x10 := OB2.out.c10
   have x11 := OB2.out.c11
   have x12 := OB2.out.c12
   have x13 := OB2.out.c13
   have x14 := OB2.out.c14
   have x15 := OB2.out.c15
   have y0 := OB1.out.c0
   have y1 := OB1.out.c1
   have y2 := OB1.out.c2
   have y3 := OB1.out.c3
   have y4 := OB1.out.c4
   have y5 := OB1.out.c5
   have y6 := OB1.out.c6
   have y7 := OB1.out.c7
   have y8 := OB1.out.c8
   have y9 := OB1.out.c9
   have y10 := OB1.out.c10
   have y11 := OB1.out.c11
   have y12 := OB1.out.c12
   have y13 := OB1.out.c13
   have y14 := OB1.out.c14
   have y15 := OB1.out.c15
   go_wp2_with fail
   refine (eqR d2 d1 (D2.out.symm.trans D1.out) (D2.out.fit HFD.out) _ M2.out.rows M1.out.rows).mono ?_
   rintro e w3 ⟨rfl, hb3⟩
   have Z3 : Hid (w2.heap.size + 1 ≤ w3.heap.size) := by show _ ≤ _; have h := hb3.size; simpa using h
   replace HB := hide (HB.out.trans (hb3.mono HB.out.size))
   replace TB := hide (HTb.out.below HB.out)
   replace M1 := hide (M1.out.below hb3)
   replace OB1 := hide (OB1.out.below hb3)
   replace M2 := hide (M2.out.below hb3)
   replace OB2 := hide (OB2.out.below hb3)
   clear hb3 x0 x1 x2 x3 x4 x5 x6 x7 x8 x9 x10 x11 x12 x13 x14 x15 y0 y1 y2 y3 y4 y5 y6 y7 y8 y9 y10 y11 y12 y13 y14 y15
   as_aux_lemma =>
    have x0 := OB2.out.c0
    have x1 := OB2.out.c1
    have x2 := OB2.out.c2
    have x3 := OB2.out.c3
    have x4 := OB2.out.c4
    have x5 := OB2.out.c5
    have x6 := OB2.out.c6
    have x7 := OB2.out.c7
    have x8 := OB2.out.c8
    have x9 := OB2.out.c9
    have x10 := OB2.out.c10
    have x11 := OB2.out.c11
    have x12 := OB2.out.c12
    have x13 := OB2.out.c13
    have x14 := OB2.out.c14
    have x15 := OB2.out.c15
    go_wp2_with fail
    refine (markRc d2 (w1.heap.size + 1) (w2.heap.size) (D2.out.fit HFD.out) _ (by have := Z1.out; have := Z2.out; have := Z3.out; omega) M2.out).mono ?_
    rintro e w4 ⟨q3, mm, rfl, hm, hz4, hh⟩
    have Z4 : Hid (w3.heap.size ≤ w4.heap.size) := hz4.size
    replace HB : Hid (Below w.heap.size w w4) := HB.out.trans (hz4.below (by have := Z1.out; have := Z2.out; have := Z3.out; omega) HB.out.size)
    replace TB := hide (HTb.out.below HB.out)
    replace M1 : Hid (RcLie w4 (w.heap.size) w1.heap.size d1) := M1.out.zn hz4 (by have := Z1.out; have := Z2.out; have := Z3.out; omega)
    replace OB1 : Hid (Bx w4 (w1.heap.size) [.int .i64 d1.k, .int .i64 d1.t.t.id, .int .i64 d1.t.t.st, .int .i64 d1.t.t.snap, .int .i64 d1.t.t.cs, .slice d1.t.ra d1.t.t.rs.length d1.t.rc, .slice d1.t.wa d1.t.t.ws.length d1.t.wc, .bool d1.t.t.out, .string d1.t.t.nm, .string d1.nm, .bool d1.yes, .slice d1.b.va d1.b.vs.length d1.b.vc, .slice d1.b.pa d1.b.ps.length d1.b.pc, .slice d1.b.qa d1.b.qs.length d1.b.qc, .int .i64 d1.b.cs, .int .i64 d1.b.nx]) := OB1.out.zn hz4 (by have := Z1.out; have := Z2.out; have := Z3.out; omega)
    replace OB2 : Hid (Bx w4 (w2.heap.size) [.int .i64 d2.k, .int .i64 d2.t.t.id, .int .i64 d2.t.t.st, .int .i64 d2.t.t.snap, .int .i64 d2.t.t.cs, .slice d2.t.ra d2.t.t.rs.length d2.t.rc, .slice d2.t.wa d2.t.t.ws.length d2.t.wc, .bool d2.t.t.out, .string d2.t.t.nm, .string d2.nm, .bool d2.yes, .slice d2.b.va d2.b.vs.length d2.b.vc, .slice d2.b.pa d2.b.ps.length d2.b.pc, .slice d2.b.qa d2.b.qs.length d2.b.qc, .int .i64 d2.b.cs, .int .i64 d2.b.nx]) := OB2.out.zn hz4 (by have := Z1.out; have := Z2.out; have := Z3.out; omega)
    have MM : Hid (RcLie w4 (w1.heap.size + 1) (w2.heap.size) mm) := hm
    have HH := hide hh
    clear hm hh
    clear hz4 x0 x1 x2 x3 x4 x5 x6 x7 x8 x9 x10 x11 x12 x13 x14 x15 M2
    have hK3a : ¬ (q3 : Int) < 0 := by omega
    have hK3b := ne_self_int (q3 : Int)
    as_aux_lemma =>
     have x0 := OB2.out.c0
     have x1 := OB2.out.c1
     have x2 := OB2.out.c2
     have x3 := OB2.out.c3
     have x4 := OB2.out.c4
     have x5 := OB2.out.c5
     have x6 := OB2.out.c6
     have x7 := OB2.out.c7
     have x8 := OB2.out.c8
     have x9 := OB2.out.c9
     have x10 := OB2.out.c10
     have x11 := OB2.out.c11
     have x12 := OB2.out.c12
     have x13 := OB2.out.c13
     have x14 := OB2.out.c14
     have x15 := OB2.out.c15
     go_wp2_with fail
     refine (HH.out _ MM.out.rows).mono ?_
     rintro e w5 ⟨rfl, hb5⟩
     have Z5 : Hid (w4.heap.size ≤ w5.heap.size) := by show _ ≤ _; have h := hb5.size; simpa using h
     replace HB := hide (HB.out.trans (hb5.mono HB.out.size))
     replace TB := hide (HTb.out.below HB.out)
     replace M1 := hide (M1.out.below hb5)
     replace OB1 := hide (OB1.out.below hb5)
     replace OB2 := hide (OB2.out.below hb5)
     replace MM := hide (MM.out.below hb5)
     clear hb5 x0 x1 x2 x3 x4 x5 x6 x7 x8 x9 x10 x11 x12 x13 x14 x15
     as_aux_lemma =>
      go_wp2_with fail
      refine (CI.out _ TB.out).mono ?_
      rintro e w6 ⟨d4, rfl, hs, hl, hb6⟩
      have Z6 : Hid (w5.heap.size ≤ w6.heap.size) := by show _ ≤ _; have h := hb6.size; simpa using h
      replace HB := hide (HB.out.trans (hb6.mono HB.out.size))
      replace TB := hide (HTb.out.below HB.out)
      replace M1 := hide (M1.out.below hb6)
      replace OB1 := hide (OB1.out.below hb6)
      replace OB2 := hide (OB2.out.below hb6)
      replace MM := hide (MM.out.below hb6)
      have D4 : Hid (RcSame DD d4) := hs
      clear hs
      clear hb6
      have M4 : Hid (RcLie w6 (w5.heap.size) w6.heap.size d4) := hl
      clear hl
      have hba : Below w6.heap.size w6 (w6.alloc (.cells #[.int .i64 d4.k, .int .i64 d4.t.t.id, .int .i64 d4.t.t.st, .int .i64 d4.t.t.snap, .int .i64 d4.t.t.cs, .slice d4.t.ra d4.t.t.rs.length d4.t.rc, .slice d4.t.wa d4.t.t.ws.length d4.t.wc, .bool d4.t.t.out, .string d4.t.t.nm, .string d4.nm, .bool d4.yes, .slice d4.b.va d4.b.vs.length d4.b.vc, .slice d4.b.pa d4.b.ps.length d4.b.pc, .slice d4.b.qa d4.b.qs.length d4.b.qc, .int .i64 d4.b.cs, .int .i64 d4.b.nx] 44)) := (belowRefl _).alloc (Nat.le_refl _) _
      replace HB := hide (HB.out.trans (hba.mono HB.out.size))
      replace TB := hide (HTb.out.below HB.out)
      replace M1 := hide (M1.out.below hba)
      replace OB1 := hide (OB1.out.below hba)
      replace OB2 := hide (OB2.out.below hba)
      replace MM := hide (MM.out.below hba)
      replace M4 := hide (M4.out.below hba)
      clear hba
      have OB4 := hide (Bx.new w6 [.int .i64 d4.k, .int .i64 d4.t.t.id, .int .i64 d4.t.t.st, .int .i64 d4.t.t.snap, .int .i64 d4.t.t.cs, .slice d4.t.ra d4.t.t.rs.length d4.t.rc, .slice d4.t.wa d4.t.t.ws.length d4.t.wc, .bool d4.t.t.out, .string d4.t.t.nm, .string d4.nm, .bool d4.yes, .slice d4.b.va d4.b.vs.length d4.b.vc, .slice d4.b.pa d4.b.ps.length d4.b.pc, .slice d4.b.qa d4.b.qs.length d4.b.qc, .int .i64 d4.b.cs, .int .i64 d4.b.nx] 44)
      as_aux_lemma =>
       have x0 := OB4.out.c0
       have x1 := OB4.out.c1
       have x2 := OB4.out.c2
       have x3 := OB4.out.c3
       have x4 := OB4.out.c4
       have x5 := OB4.out.c5
       have x6 := OB4.out.c6
       have x7 := OB4.out.c7
       have x8 := OB4.out.c8
       have x9 := OB4.out.c9
       have x10 := OB4.out.c10
       have x11 := OB4.out.c11
       have x12 := OB4.out.c12
       have x13 := OB4.out.c13
       have x14 := OB4.out.c14
       have x15 := OB4.out.c15
       have y0 := OB1.out.c0
       have y1 := OB1.out.c1
       have y2 := OB1.out.c2
       have y3 := OB1.out.c3
       have y4 := OB1.out.c4
       have y5 := OB1.out.c5
       have y6 := OB1.out.c6
       have y7 := OB1.out.c7
       have y8 := OB1.out.c8
       have y9 := OB1.out.c9
       have y10 := OB1.out.c10
       have y11 := OB1.out.c11
       have y12 := OB1.out.c12
       have y13 := OB1.out.c13
       have y14 := OB1.out.c14
       have y15 := OB1.out.c15
       go_wp2_with fail
       refine (eqR d4 d1 (D4.out.symm.trans D1.out) (D4.out.fit HFD.out) _ M4.out.rows M1.out.rows).mono ?_
       rintro e w7 ⟨rfl, hb7⟩
       have Z7 : Hid (w6.heap.size + 1 ≤ w7.heap.size) := by show _ ≤ _; have h := hb7.size; simpa using h
       replace HB := hide (HB.out.trans (hb7.mono HB.out.size))
       replace TB := hide (HTb.out.below HB.out)
       replace M1 := hide (M1.out.below hb7)
       replace OB1 := hide (OB1.out.below hb7)
       replace OB2 := hide (OB2.out.below hb7)
       replace MM := hide (MM.out.below hb7)
       replace M4 := hide (M4.out.below hb7)
       replace OB4 := hide (OB4.out.below hb7)
       clear hb7 x0 x1 x2 x3 x4 x5 x6 x7 x8 x9 x10 x11 x12 x13 x14 x15 y0 y1 y2 y3 y4 y5 y6 y7 y8 y9 y10 y11 y12 y13 y14 y15
       as_aux_lemma =>
        have x0 := OB2.out.c0
        have x1 := OB2.out.c1
        have x2 := OB2.out.c2
        have x3 := OB2.out.c3
        have x4 := OB2.out.c4
        have x5 := OB2.out.c5
        have x6 := OB2.out.c6
        have x7 := OB2.out.c7
        have x8 := OB2.out.c8
        have x9 := OB2.out.c9
        have x10 := OB2.out.c10
        have x11 := OB2.out.c11
        have x12 := OB2.out.c12
        have x13 := OB2.out.c13
        have x14 := OB2.out.c14
        have x15 := OB2.out.c15
        go_wp2_with fail
        refine (HH.out _ MM.out.rows).mono ?_
        rintro e w8 ⟨rfl, hb8⟩
        have Z8 : Hid (w7.heap.size ≤ w8.heap.size) := by show _ ≤ _; have h := hb8.size; simpa using h
        replace HB := hide (HB.out.trans (hb8.mono HB.out.size))
        replace TB := hide (HTb.out.below HB.out)
        replace M1 := hide (M1.out.below hb8)
        replace OB1 := hide (OB1.out.below hb8)
        replace OB2 := hide (OB2.out.below hb8)
        replace MM := hide (MM.out.below hb8)
        replace M4 := hide (M4.out.below hb8)
        replace OB4 := hide (OB4.out.below hb8)
        clear hb8 x0 x1 x2 x3 x4 x5 x6 x7 x8 x9 x10 x11 x12 x13 x14 x15
        as_aux_lemma =>
         go_wp2
         go_ret
         exact ⟨rfl, HB.out⟩

end Go.Proofs.YtpnnncfbodfnhaaGreatDoor
