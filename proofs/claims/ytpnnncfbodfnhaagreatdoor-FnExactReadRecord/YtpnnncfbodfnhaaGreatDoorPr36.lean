/- What spec.RecordText returns. -/
import Derived.Test.YtpnnncfbodfnhaaGreatDoorPr01
import Derived.Test.YtpnnncfbodfnhaaGreatDoorPr34
import Derived.Test.YtpnnncfbodfnhaaGreatDoorPr05
import Derived.Deep.RegionHeld3
import Derived.Deep.Cut
import Derived.Deep.CutRange
namespace Go.Proofs.YtpnnncfbodfnhaaGreatDoor
open Go.RowKit
open KM
open VM
attribute [local go_sem ↓] Go.wp_at_zero Go.wp_at_succ

theorem kStr (K : UInt8) (w : World) :
  (convert 55 9 (.slice (some ⟨w.heap.size, 0, none⟩) 1 1)).run Tryz.prog (w.alloc (.cells #[Value.int .u8 (K.toNat : Int)] 5)) = .ok (.string ⟨#[K]⟩) (w.alloc (.cells #[Value.int .u8 (K.toNat : Int)] 5)) := by
 refine run_convert_bytes_back (P := Tryz.prog) _ 55 9 5 ⟨w.heap.size, 0, none⟩ 1 [K] Tryz.underlying55 Tryz.underlying5 Tryz.underlying9 ?_
 intro j hj
 have hm : (w.alloc (.cells #[Value.int .u8 (K.toNat : Int)] 5)).cell? ⟨w.heap.size, j, none⟩ = #[Value.int .u8 (K.toNat : Int)][j]? := World.cell?_alloc_mark w _ 5 (0, 0) j
 have h0 : j = 0 := by simp at hj; omega
 subst h0
 rw [Addr.add_lit, Nat.zero_add, hm]
 simp

set_option maxRecDepth 100000 in
set_option maxHeartbeats 2000000 in
theorem srct_no (r : Rc) (hk : recB r = false) (w : World) (C1 : Hid (∀ W, Below w.heap.size w W → Calls Tryz.prog 16 #[.agg #[.int .i64 r.k, .int .i64 r.t.t.id, .int .i64 r.t.t.st, .int .i64 r.t.t.snap, .int .i64 r.t.t.cs, .slice r.t.ra r.t.t.rs.length r.t.rc, .slice r.t.wa r.t.t.ws.length r.t.wc, .bool r.t.t.out, .string r.t.t.nm, .string r.nm, .bool r.yes, .slice r.b.va r.b.vs.length r.b.vc, .slice r.b.pa r.b.ps.length r.b.pc, .slice r.b.qa r.b.qs.length r.b.qc, .int .i64 r.b.cs, .int .i64 r.b.nx]] W fun e w' => e = .returned (.bool (recB r)) ∧ Below W.heap.size W w')) :
  Calls Tryz.prog 6 #[.agg #[.int .i64 r.k, .int .i64 r.t.t.id, .int .i64 r.t.t.st, .int .i64 r.t.t.snap, .int .i64 r.t.t.cs, .slice r.t.ra r.t.t.rs.length r.t.rc, .slice r.t.wa r.t.t.ws.length r.t.wc, .bool r.t.t.out, .string r.t.t.nm, .string r.nm, .bool r.yes, .slice r.b.va r.b.vs.length r.b.vc, .slice r.b.pa r.b.ps.length r.b.pc, .slice r.b.qa r.b.qs.length r.b.qc, .int .i64 r.b.cs, .int .i64 r.b.nx]] w fun e w' => e = .returned (rctV r) ∧ Below w.heap.size w w' := by
 have HB0 : Hid (Below w.heap.size w (w.alloc (.cells #[.int .i64 r.k, .int .i64 r.t.t.id, .int .i64 r.t.t.st, .int .i64 r.t.t.snap, .int .i64 r.t.t.cs, .slice r.t.ra r.t.t.rs.length r.t.rc, .slice r.t.wa r.t.t.ws.length r.t.wc, .bool r.t.t.out, .string r.t.t.nm, .string r.nm, .bool r.yes, .slice r.b.va r.b.vs.length r.b.vc, .slice r.b.pa r.b.ps.length r.b.pc, .slice r.b.qa r.b.qs.length r.b.qc, .int .i64 r.b.cs, .int .i64 r.b.nx] 44))) := (belowRefl w).alloc (Nat.le_refl _) _
 have HV : Hid (rctV r = .tuple #[.string ⟨#[]⟩, .bool false]) := by show _ = _; unfold rctV; rw [hk]; rfl
 rw [hk] at C1
 clear hk
 generalize rctV r = rr at *
 go_enter Tryz.func6, Tryz.ntmps6
 go_wp2_with fail
 refine (C1.out _ HB0.out).mono ?_
 rintro e w1 ⟨rfl, hb1⟩
 have HB1 := hide (HB0.out.trans (hb1.mono HB0.out.size))
 clear hb1
 go_wp2
 go_ret2
 exact ⟨by rw [HV.out]; rfl, HB1.out⟩

set_option maxRecDepth 100000 in
set_option maxHeartbeats 2000000 in
theorem srct1 (r : Rc) (hr : recB r = true) (hk : r.k = 1) (ht : txnB r.t.t = true) (hf : RcFit r) (w : World) (hp : RcRows w r) (C1 : Hid (∀ W, Below w.heap.size w W → Calls Tryz.prog 16 #[.agg #[.int .i64 r.k, .int .i64 r.t.t.id, .int .i64 r.t.t.st, .int .i64 r.t.t.snap, .int .i64 r.t.t.cs, .slice r.t.ra r.t.t.rs.length r.t.rc, .slice r.t.wa r.t.t.ws.length r.t.wc, .bool r.t.t.out, .string r.t.t.nm, .string r.nm, .bool r.yes, .slice r.b.va r.b.vs.length r.b.vc, .slice r.b.pa r.b.ps.length r.b.pc, .slice r.b.qa r.b.qs.length r.b.qc, .int .i64 r.b.cs, .int .i64 r.b.nx]] W fun e w' => e = .returned (.bool (recB r)) ∧ Below W.heap.size W w')) :
  Calls Tryz.prog 6 #[.agg #[.int .i64 r.k, .int .i64 r.t.t.id, .int .i64 r.t.t.st, .int .i64 r.t.t.snap, .int .i64 r.t.t.cs, .slice r.t.ra r.t.t.rs.length r.t.rc, .slice r.t.wa r.t.t.ws.length r.t.wc, .bool r.t.t.out, .string r.t.t.nm, .string r.nm, .bool r.yes, .slice r.b.va r.b.vs.length r.b.vc, .slice r.b.pa r.b.ps.length r.b.pc, .slice r.b.qa r.b.qs.length r.b.qc, .int .i64 r.b.cs, .int .i64 r.b.nx]] w fun e w' => e = .returned (rctV r) ∧ Below w.heap.size w w' := by
 have HP : Hid (RcRows w r) := hp
 have BX0 := hide (Bx.new w [.int .i64 r.k, .int .i64 r.t.t.id, .int .i64 r.t.t.st, .int .i64 r.t.t.snap, .int .i64 r.t.t.cs, .slice r.t.ra r.t.t.rs.length r.t.rc, .slice r.t.wa r.t.t.ws.length r.t.wc, .bool r.t.t.out, .string r.t.t.nm, .string r.nm, .bool r.yes, .slice r.b.va r.b.vs.length r.b.vc, .slice r.b.pa r.b.ps.length r.b.pc, .slice r.b.qa r.b.qs.length r.b.qc, .int .i64 r.b.cs, .int .i64 r.b.nx] 44)
 have HB0 : Hid (Below w.heap.size w (w.alloc (.cells #[.int .i64 r.k, .int .i64 r.t.t.id, .int .i64 r.t.t.st, .int .i64 r.t.t.snap, .int .i64 r.t.t.cs, .slice r.t.ra r.t.t.rs.length r.t.rc, .slice r.t.wa r.t.t.ws.length r.t.wc, .bool r.t.t.out, .string r.t.t.nm, .string r.nm, .bool r.yes, .slice r.b.va r.b.vs.length r.b.vc, .slice r.b.pa r.b.ps.length r.b.pc, .slice r.b.qa r.b.qs.length r.b.qc, .int .i64 r.b.cs, .int .i64 r.b.nx] 44))) := (belowRefl w).alloc (Nat.le_refl _) _
 have HV : Hid (rctV r = .tuple #[.string (sealB ⟨(rcL r).toArray⟩), .bool true]) := by show _ = _; unfold rctV; rw [hr]; rfl
 have HL : Hid (rcL r = [1] ++ txL r.t.t) := by show _ = _; unfold rcL noteL; rw [if_neg (by omega), if_neg (by omega), hk, show (1 : Int).toNat = 1 from rfl, WM.varL_small 1 (by omega)]; rfl
 have HZ : Hid ((rcL r).length ≤ 15005) := rc_len hr
 have HK := hide hk
 have CT : Hid (∀ W, RcRows W r → Calls Tryz.prog 21 #[.agg #[.int .i64 r.t.t.id, .int .i64 r.t.t.st, .int .i64 r.t.t.snap, .int .i64 r.t.t.cs, .slice r.t.ra r.t.t.rs.length r.t.rc, .slice r.t.wa r.t.t.ws.length r.t.wc, .bool r.t.t.out, .string r.t.t.nm]] W fun e w' => ∃ g : ByteArray, e = .returned (.tuple #[.string g, .bool true]) ∧ (g.data.toList = txL r.t.t ∧ g.size ≤ 500) ∧ Below W.heap.size W w') := fun W h => by
  refine (stext r.t.t r.t.ra r.t.wa r.t.rc r.t.wc hf.t W h.t).mono ?_
  rintro e w' ⟨rfl, hb⟩
  refine ⟨⟨(txL r.t.t).toArray⟩, by unfold txtV; rw [if_pos ht], ⟨by simp, ?_⟩, hb⟩
  rw [show (⟨(txL r.t.t).toArray⟩ : ByteArray).size = (txL r.t.t).length from List.size_toArray]; exact tx_len (right_small ht)
 have hcv : ∀ W : World, (convert 55 9 (.slice (some ⟨W.heap.size, 0, none⟩) 1 1)).run Tryz.prog (W.alloc (.cells #[Value.int .u8 1] 5)) = .ok (.string ⟨#[1]⟩) (W.alloc (.cells #[Value.int .u8 1] 5)) := fun W => kStr 1 W
 rw [hr] at C1
 clear hr ht hp hf hk
 go_enter Tryz.func6, Tryz.ntmps6
 go_wp2_with fail
 refine (C1.out _ HB0.out).mono ?_
 rintro e w1 ⟨rfl, hb1⟩
 have HB1 := hide (HB0.out.trans (hb1.mono HB0.out.size))
 have BX1 := hide (BX0.out.below hb1)
 clear hb1 BX0 HB0
 have HB2 : Hid (Below w.heap.size w (w1.alloc (.cells #[.int .u8 1] 5))) := HB1.out.alloc HB1.out.size _
 have BX2 : Hid (Bx (w1.alloc (.cells #[.int .u8 1] 5)) w.heap.size [.int .i64 r.k, .int .i64 r.t.t.id, .int .i64 r.t.t.st, .int .i64 r.t.t.snap, .int .i64 r.t.t.cs, .slice r.t.ra r.t.t.rs.length r.t.rc, .slice r.t.wa r.t.t.ws.length r.t.wc, .bool r.t.t.out, .string r.t.t.nm, .string r.nm, .bool r.yes, .slice r.b.va r.b.vs.length r.b.vc, .slice r.b.pa r.b.ps.length r.b.pc, .slice r.b.qa r.b.qs.length r.b.qc, .int .i64 r.b.cs, .int .i64 r.b.nx]) := BX1.out.alloc _
 have HR2 := hide (HP.out.below HB2.out)
 have CS : Hid (∀ (u : ByteArray) W, u.size ≤ 20000 → Calls Tryz.prog 17 #[.string u] W fun e w' => e = .returned (.tuple #[.string (sealB u), .bool true]) ∧ Below W.heap.size W w') := fun u W h => sseal_yes u h W
 have x0 := BX1.out.c0
 rw [HK.out] at x0
 have y0 := BX2.out.c0
 have y1 := BX2.out.c1
 have y2 := BX2.out.c2
 have y3 := BX2.out.c3
 have y4 := BX2.out.c4
 have y5 := BX2.out.c5
 have y6 := BX2.out.c6
 have y7 := BX2.out.c7
 have y8 := BX2.out.c8
 rw [show r.k = 1 from HK.out] at y0
 go_wp2_with fail
 refine (CT.out _ HR2.out).mono ?_
 rintro e w3 ⟨g, rfl, ⟨hg, hgz⟩, hb⟩
 have HG := hide hg
 have HB3 := hide (HB2.out.trans (hb.mono HB2.out.size))
 clear hg hb x0 y0 y1 y2 y3 y4 y5 y6 y7 y8
 have hz1 : (⟨#[1]⟩ : ByteArray).size = 1 := rfl
 have HU : Hid ((⟨#[1]⟩ ++ g : ByteArray) = ⟨(rcL r).toArray⟩) := by
  refine ba_of ?_
  rw [ba_app, HG.out, HL.out]
 have hs1 : (⟨#[1]⟩ ++ g : ByteArray).size ≤ 15005 := by rw [ba_len (by rw [HU.out])]; exact HZ.out
 have hs2 : (⟨#[1]⟩ : ByteArray).size + g.size ≤ 15005 := by rw [← ByteArray.size_append]; exact hs1
 have CS1 := hide (fun W => CS.out (⟨#[1]⟩ ++ g) W (by omega))
 rw [HU.out] at CS1
 clear hz1
 go_wp2_with fail
 rw [HU.out]
 refine (CS1.out _).mono ?_
 rintro e w4 ⟨rfl, hb⟩
 have HB4 := hide (HB3.out.trans (hb.mono HB3.out.size))
 clear hb
 go_wp2
 go_ret2
 exact ⟨by rw [HV.out]; rfl, HB4.out⟩

set_option maxRecDepth 100000 in
set_option maxHeartbeats 2000000 in
theorem srct2 (r : Rc) (hr : recB r = true) (hk : r.k = 2) (ht : txnB r.t.t = true) (hf : RcFit r) (w : World) (hp : RcRows w r) (C1 : Hid (∀ W, Below w.heap.size w W → Calls Tryz.prog 16 #[.agg #[.int .i64 r.k, .int .i64 r.t.t.id, .int .i64 r.t.t.st, .int .i64 r.t.t.snap, .int .i64 r.t.t.cs, .slice r.t.ra r.t.t.rs.length r.t.rc, .slice r.t.wa r.t.t.ws.length r.t.wc, .bool r.t.t.out, .string r.t.t.nm, .string r.nm, .bool r.yes, .slice r.b.va r.b.vs.length r.b.vc, .slice r.b.pa r.b.ps.length r.b.pc, .slice r.b.qa r.b.qs.length r.b.qc, .int .i64 r.b.cs, .int .i64 r.b.nx]] W fun e w' => e = .returned (.bool (recB r)) ∧ Below W.heap.size W w')) :
  Calls Tryz.prog 6 #[.agg #[.int .i64 r.k, .int .i64 r.t.t.id, .int .i64 r.t.t.st, .int .i64 r.t.t.snap, .int .i64 r.t.t.cs, .slice r.t.ra r.t.t.rs.length r.t.rc, .slice r.t.wa r.t.t.ws.length r.t.wc, .bool r.t.t.out, .string r.t.t.nm, .string r.nm, .bool r.yes, .slice r.b.va r.b.vs.length r.b.vc, .slice r.b.pa r.b.ps.length r.b.pc, .slice r.b.qa r.b.qs.length r.b.qc, .int .i64 r.b.cs, .int .i64 r.b.nx]] w fun e w' => e = .returned (rctV r) ∧ Below w.heap.size w w' := by
 have HP : Hid (RcRows w r) := hp
 have BX0 := hide (Bx.new w [.int .i64 r.k, .int .i64 r.t.t.id, .int .i64 r.t.t.st, .int .i64 r.t.t.snap, .int .i64 r.t.t.cs, .slice r.t.ra r.t.t.rs.length r.t.rc, .slice r.t.wa r.t.t.ws.length r.t.wc, .bool r.t.t.out, .string r.t.t.nm, .string r.nm, .bool r.yes, .slice r.b.va r.b.vs.length r.b.vc, .slice r.b.pa r.b.ps.length r.b.pc, .slice r.b.qa r.b.qs.length r.b.qc, .int .i64 r.b.cs, .int .i64 r.b.nx] 44)
 have HB0 : Hid (Below w.heap.size w (w.alloc (.cells #[.int .i64 r.k, .int .i64 r.t.t.id, .int .i64 r.t.t.st, .int .i64 r.t.t.snap, .int .i64 r.t.t.cs, .slice r.t.ra r.t.t.rs.length r.t.rc, .slice r.t.wa r.t.t.ws.length r.t.wc, .bool r.t.t.out, .string r.t.t.nm, .string r.nm, .bool r.yes, .slice r.b.va r.b.vs.length r.b.vc, .slice r.b.pa r.b.ps.length r.b.pc, .slice r.b.qa r.b.qs.length r.b.qc, .int .i64 r.b.cs, .int .i64 r.b.nx] 44))) := (belowRefl w).alloc (Nat.le_refl _) _
 have HV : Hid (rctV r = .tuple #[.string (sealB ⟨(rcL r).toArray⟩), .bool true]) := by show _ = _; unfold rctV; rw [hr]; rfl
 have HL : Hid (rcL r = [2] ++ txL r.t.t) := by show _ = _; unfold rcL noteL; rw [if_neg (by omega), if_neg (by omega), hk, show (2 : Int).toNat = 2 from rfl, WM.varL_small 2 (by omega)]; rfl
 have HZ : Hid ((rcL r).length ≤ 15005) := rc_len hr
 have HK := hide hk
 have CT : Hid (∀ W, RcRows W r → Calls Tryz.prog 21 #[.agg #[.int .i64 r.t.t.id, .int .i64 r.t.t.st, .int .i64 r.t.t.snap, .int .i64 r.t.t.cs, .slice r.t.ra r.t.t.rs.length r.t.rc, .slice r.t.wa r.t.t.ws.length r.t.wc, .bool r.t.t.out, .string r.t.t.nm]] W fun e w' => ∃ g : ByteArray, e = .returned (.tuple #[.string g, .bool true]) ∧ (g.data.toList = txL r.t.t ∧ g.size ≤ 500) ∧ Below W.heap.size W w') := fun W h => by
  refine (stext r.t.t r.t.ra r.t.wa r.t.rc r.t.wc hf.t W h.t).mono ?_
  rintro e w' ⟨rfl, hb⟩
  refine ⟨⟨(txL r.t.t).toArray⟩, by unfold txtV; rw [if_pos ht], ⟨by simp, ?_⟩, hb⟩
  rw [show (⟨(txL r.t.t).toArray⟩ : ByteArray).size = (txL r.t.t).length from List.size_toArray]; exact tx_len (right_small ht)
 have hcv : ∀ W : World, (convert 55 9 (.slice (some ⟨W.heap.size, 0, none⟩) 1 1)).run Tryz.prog (W.alloc (.cells #[Value.int .u8 2] 5)) = .ok (.string ⟨#[2]⟩) (W.alloc (.cells #[Value.int .u8 2] 5)) := fun W => kStr 2 W
 rw [hr] at C1
 clear hr ht hp hf hk
 go_enter Tryz.func6, Tryz.ntmps6
 go_wp2_with fail
 refine (C1.out _ HB0.out).mono ?_
 rintro e w1 ⟨rfl, hb1⟩
 have HB1 := hide (HB0.out.trans (hb1.mono HB0.out.size))
 have BX1 := hide (BX0.out.below hb1)
 clear hb1 BX0 HB0
 have HB2 : Hid (Below w.heap.size w (w1.alloc (.cells #[.int .u8 2] 5))) := HB1.out.alloc HB1.out.size _
 have BX2 : Hid (Bx (w1.alloc (.cells #[.int .u8 2] 5)) w.heap.size [.int .i64 r.k, .int .i64 r.t.t.id, .int .i64 r.t.t.st, .int .i64 r.t.t.snap, .int .i64 r.t.t.cs, .slice r.t.ra r.t.t.rs.length r.t.rc, .slice r.t.wa r.t.t.ws.length r.t.wc, .bool r.t.t.out, .string r.t.t.nm, .string r.nm, .bool r.yes, .slice r.b.va r.b.vs.length r.b.vc, .slice r.b.pa r.b.ps.length r.b.pc, .slice r.b.qa r.b.qs.length r.b.qc, .int .i64 r.b.cs, .int .i64 r.b.nx]) := BX1.out.alloc _
 have HR2 := hide (HP.out.below HB2.out)
 have CS : Hid (∀ (u : ByteArray) W, u.size ≤ 20000 → Calls Tryz.prog 17 #[.string u] W fun e w' => e = .returned (.tuple #[.string (sealB u), .bool true]) ∧ Below W.heap.size W w') := fun u W h => sseal_yes u h W
 have x0 := BX1.out.c0
 rw [HK.out] at x0
 have y0 := BX2.out.c0
 have y1 := BX2.out.c1
 have y2 := BX2.out.c2
 have y3 := BX2.out.c3
 have y4 := BX2.out.c4
 have y5 := BX2.out.c5
 have y6 := BX2.out.c6
 have y7 := BX2.out.c7
 have y8 := BX2.out.c8
 rw [show r.k = 2 from HK.out] at y0
 go_wp2_with fail
 refine (CT.out _ HR2.out).mono ?_
 rintro e w3 ⟨g, rfl, ⟨hg, hgz⟩, hb⟩
 have HG := hide hg
 have HB3 := hide (HB2.out.trans (hb.mono HB2.out.size))
 clear hg hb x0 y0 y1 y2 y3 y4 y5 y6 y7 y8
 have hz1 : (⟨#[2]⟩ : ByteArray).size = 1 := rfl
 have HU : Hid ((⟨#[2]⟩ ++ g : ByteArray) = ⟨(rcL r).toArray⟩) := by
  refine ba_of ?_
  rw [ba_app, HG.out, HL.out]
 have hs1 : (⟨#[2]⟩ ++ g : ByteArray).size ≤ 15005 := by rw [ba_len (by rw [HU.out])]; exact HZ.out
 have hs2 : (⟨#[2]⟩ : ByteArray).size + g.size ≤ 15005 := by rw [← ByteArray.size_append]; exact hs1
 have CS1 := hide (fun W => CS.out (⟨#[2]⟩ ++ g) W (by omega))
 rw [HU.out] at CS1
 clear hz1
 go_wp2_with fail
 rw [HU.out]
 refine (CS1.out _).mono ?_
 rintro e w4 ⟨rfl, hb⟩
 have HB4 := hide (HB3.out.trans (hb.mono HB3.out.size))
 clear hb
 go_wp2
 go_ret2
 exact ⟨by rw [HV.out]; rfl, HB4.out⟩

set_option maxRecDepth 100000 in
set_option maxHeartbeats 2000000 in
theorem srct3 (r : Rc) (hr : recB r = true) (hk : r.k = 3) (ht : keyB r.nm = true) (_hf : RcFit r) (w : World) (hp : RcRows w r) (C1 : Hid (∀ W, Below w.heap.size w W → Calls Tryz.prog 16 #[.agg #[.int .i64 r.k, .int .i64 r.t.t.id, .int .i64 r.t.t.st, .int .i64 r.t.t.snap, .int .i64 r.t.t.cs, .slice r.t.ra r.t.t.rs.length r.t.rc, .slice r.t.wa r.t.t.ws.length r.t.wc, .bool r.t.t.out, .string r.t.t.nm, .string r.nm, .bool r.yes, .slice r.b.va r.b.vs.length r.b.vc, .slice r.b.pa r.b.ps.length r.b.pc, .slice r.b.qa r.b.qs.length r.b.qc, .int .i64 r.b.cs, .int .i64 r.b.nx]] W fun e w' => e = .returned (.bool (recB r)) ∧ Below W.heap.size W w')) :
  Calls Tryz.prog 6 #[.agg #[.int .i64 r.k, .int .i64 r.t.t.id, .int .i64 r.t.t.st, .int .i64 r.t.t.snap, .int .i64 r.t.t.cs, .slice r.t.ra r.t.t.rs.length r.t.rc, .slice r.t.wa r.t.t.ws.length r.t.wc, .bool r.t.t.out, .string r.t.t.nm, .string r.nm, .bool r.yes, .slice r.b.va r.b.vs.length r.b.vc, .slice r.b.pa r.b.ps.length r.b.pc, .slice r.b.qa r.b.qs.length r.b.qc, .int .i64 r.b.cs, .int .i64 r.b.nx]] w fun e w' => e = .returned (rctV r) ∧ Below w.heap.size w w' := by
 have HP : Hid (RcRows w r) := hp
 have BX0 := hide (Bx.new w [.int .i64 r.k, .int .i64 r.t.t.id, .int .i64 r.t.t.st, .int .i64 r.t.t.snap, .int .i64 r.t.t.cs, .slice r.t.ra r.t.t.rs.length r.t.rc, .slice r.t.wa r.t.t.ws.length r.t.wc, .bool r.t.t.out, .string r.t.t.nm, .string r.nm, .bool r.yes, .slice r.b.va r.b.vs.length r.b.vc, .slice r.b.pa r.b.ps.length r.b.pc, .slice r.b.qa r.b.qs.length r.b.qc, .int .i64 r.b.cs, .int .i64 r.b.nx] 44)
 have HB0 : Hid (Below w.heap.size w (w.alloc (.cells #[.int .i64 r.k, .int .i64 r.t.t.id, .int .i64 r.t.t.st, .int .i64 r.t.t.snap, .int .i64 r.t.t.cs, .slice r.t.ra r.t.t.rs.length r.t.rc, .slice r.t.wa r.t.t.ws.length r.t.wc, .bool r.t.t.out, .string r.t.t.nm, .string r.nm, .bool r.yes, .slice r.b.va r.b.vs.length r.b.vc, .slice r.b.pa r.b.ps.length r.b.pc, .slice r.b.qa r.b.qs.length r.b.qc, .int .i64 r.b.cs, .int .i64 r.b.nx] 44))) := (belowRefl w).alloc (Nat.le_refl _) _
 have HV : Hid (rctV r = .tuple #[.string (sealB ⟨(rcL r).toArray⟩), .bool true]) := by show _ = _; unfold rctV; rw [hr]; rfl
 have HL : Hid (rcL r = [3] ++ (shL r.nm ++ bitL r.yes)) := by show _ = _; unfold rcL noteL; rw [if_pos hk, hk, show (3 : Int).toNat = 3 from rfl, WM.varL_small 3 (by omega)]; rfl
 have HZ : Hid ((rcL r).length ≤ 15005) := rc_len hr
 have HK := hide hk
 have HKey : Hid (r.nm.size ≤ 3) := key_small ht
 have hcv : ∀ W : World, (convert 55 9 (.slice (some ⟨W.heap.size, 0, none⟩) 1 1)).run Tryz.prog (W.alloc (.cells #[Value.int .u8 3] 5)) = .ok (.string ⟨#[3]⟩) (W.alloc (.cells #[Value.int .u8 3] 5)) := fun W => kStr 3 W
 rw [hr] at C1
 clear hr ht hp _hf hk
 go_enter Tryz.func6, Tryz.ntmps6
 go_wp2_with fail
 refine (C1.out _ HB0.out).mono ?_
 rintro e w1 ⟨rfl, hb1⟩
 have HB1 := hide (HB0.out.trans (hb1.mono HB0.out.size))
 have BX1 := hide (BX0.out.below hb1)
 clear hb1 BX0 HB0
 have HB2 : Hid (Below w.heap.size w (w1.alloc (.cells #[.int .u8 3] 5))) := HB1.out.alloc HB1.out.size _
 have BX2 : Hid (Bx (w1.alloc (.cells #[.int .u8 3] 5)) w.heap.size [.int .i64 r.k, .int .i64 r.t.t.id, .int .i64 r.t.t.st, .int .i64 r.t.t.snap, .int .i64 r.t.t.cs, .slice r.t.ra r.t.t.rs.length r.t.rc, .slice r.t.wa r.t.t.ws.length r.t.wc, .bool r.t.t.out, .string r.t.t.nm, .string r.nm, .bool r.yes, .slice r.b.va r.b.vs.length r.b.vc, .slice r.b.pa r.b.ps.length r.b.pc, .slice r.b.qa r.b.qs.length r.b.qc, .int .i64 r.b.cs, .int .i64 r.b.nx]) := BX1.out.alloc _
 have HR2 := hide (HP.out.below HB2.out)
 have CS : Hid (∀ (u : ByteArray) W, u.size ≤ 20000 → Calls Tryz.prog 17 #[.string u] W fun e w' => e = .returned (.tuple #[.string (sealB u), .bool true]) ∧ Below W.heap.size W w') := fun u W h => sseal_yes u h W
 have x0 := BX1.out.c0
 rw [HK.out] at x0
 have y0 := BX2.out.c0
 rw [show r.k = 3 from HK.out] at y0
 go_wp2
 clear x0 y0
 generalize hWW : (w1.alloc (.cells #[.int .u8 3] 5)) = W2 at *
 clear hWW
 obtain ⟨u0, hu0⟩ : ∃ u0 : ByteArray, u0 = ⟨#[3]⟩ := ⟨_, rfl⟩
 have HU0 : Hid (u0.data.toList = [3]) := by show _ = _; rw [hu0]
 have hz0 : u0.size ≤ 1 := by rw [hu0]; exact Nat.le_refl _
 rw [← hu0]
 clear hu0
 refine wp_region_held_drew (S := fun w' => w'.cell? ⟨w.heap.size, 9, none⟩ = some (.string r.nm) ∧ w'.cell? ⟨w.heap.size, 10, none⟩ = some (.bool r.yes)) (by kernel_rfl) ⟨BX2.out.c9, BX2.out.c10⟩ (fun hHeld => ?_)
 (refine ti 0 ?_; simp only [Act.put, tA, tB, tD, tE, tF])
 (refine ti 1 ?_; simp only [Act.put, tA, tB, tC, tD, tE, tF])
 (refine ti 2 ?_; simp only [Act.put, tA, tB, tC, tD, tE, tF])
 (refine ti 5 ?_; simp only [Act.put, tA, tB, tC, tD, tE, tF])
 (refine ti 6 ?_; simp only [Act.put, tA, tB, tC, tD, tE, tF])
 refine wpAnyH_ready (rs := [3]) (by kernel_rfl) (by simp) ?_
 refine AllReadyH.cons rfl (fun K hK => ?_) AllReadyH.nil
 go_simp
 go_wp2_with fail
 refine (sshort r.nm (by have := HKey.out; omega) _).mono ?_
 rintro e y0 ⟨g0, rfl, hg, hb⟩
 have HG0 := hide hg
 have hgz0 : g0.size ≤ 20005 := by rw [ba_len HG0.out]; exact sh_len (by have := HKey.out; omega)
 have hgz1 : g0.size ≤ 8 := by rw [ba_len HG0.out]; exact sh_small HKey.out (by omega)
 have hbu := undrew hb
 have BX3 := hide (BX2.out.below hbu)
 have HB3 := hide (HB2.out.trans (hbu.mono HB2.out.size))
 clear hg hb hbu
 go_wp2_with fail
 refine hK.out _ _ ⟨BX3.out.c9, BX3.out.c10⟩ (fun hHeldx0 => ?_)
 clear hK K
 have hcz0 : (u0 ++ g0).size ≤ 9 := by rw [ByteArray.size_append]; omega
 (refine tk 4 ?_ rfl (Or.inl ⟨by rfl, ?_⟩) ?_; rotate_left; (focus (intro w hSw; (try dsimp only at hSw); go_simp; (try rw [if_neg (by omega)]); (try with_reducible rfl); done)); simp only [Act.put, tA, tB, tC, tD, tE, tF])
 generalize hse : u0 ++ g0 = c0 at *
 have HC0 : Hid (c0.data.toList = u0.data.toList ++ g0.data.toList) := by show _ = _; rw [← hse, ba_app]
 clear hse
 refine wpAnyH_ready (rs := [7]) (by kernel_rfl) (by simp) ?_
 refine AllReadyH.cons rfl (fun K hK => ?_) AllReadyH.nil
 go_simp
 go_wp2_with fail
 refine (sbit r.yes _).mono ?_
 rintro e y1 ⟨g1, rfl, hg, rfl⟩
 have HG1 := hide hg
 have hgz2 : g1.size ≤ 1 := by rw [ba_len HG1.out, bit_len]; omega
 clear hg
 go_wp2_with fail
 refine hK.out _ _ ⟨BX3.out.c9, BX3.out.c10⟩ (fun hHeldx1 => ?_)
 clear hK K
 have hcz1 : (c0 ++ g1).size ≤ 10 := by rw [ByteArray.size_append]; omega
 (refine tk 8 ?_ rfl (Or.inl ⟨by rfl, ?_⟩) ?_; rotate_left; (focus (intro w hSw; (try dsimp only at hSw); go_simp; (try rw [if_neg (by omega)]); (try with_reducible rfl); done)); simp only [Act.put, tA, tB, tC, tD, tE, tF])
 generalize hse : c0 ++ g1 = c1 at *
 have HC1 : Hid (c1.data.toList = c0.data.toList ++ g1.data.toList) := by show _ = _; rw [← hse, ba_app]
 clear hse
 have HF : Hid (c1 = ⟨(rcL r).toArray⟩) := by
  refine ba_of ?_
  rw [HC1.out, HC0.out, HU0.out, HG0.out, HG1.out, HL.out]
  simp only [List.append_assoc]
 have CS1 := hide (fun W => CS.out c1 W (by omega))
 rw [HF.out] at CS1 ⊢
 refine wpAnyH_ready (rs := [9]) (by kernel_rfl) (by simp) ?_
 refine AllReadyH.cons rfl (fun K hK => ?_) AllReadyH.nil
 go_simp
 go_wp2_with fail
 refine (CS1.out _).mono ?_
 rintro e y2 ⟨rfl, hb⟩
 have BX4 := hide (BX3.out.below hb)
 have HB4 := hide (HB3.out.trans (hb.mono HB3.out.size))
 clear hb
 go_wp2_with fail
 refine hK.out _ _ ⟨BX4.out.c9, BX4.out.c10⟩ (fun hHeldx2 => ?_)
 clear hK K
 (refine ti 10 ?_; simp only [Act.put, tA, tB, tC, tD, tE, tF])
 (refine ti 11 ?_; simp only [Act.put, tA, tB, tC, tD, tE, tF])
 (refine ti 12 ?_; simp only [Act.put, tA, tB, tC, tD, tE, tF])
 (refine ti 13 ?_; simp only [Act.put, tA, tB, tC, tD, tE, tF])
 refine wpAnyH_done (by kernel_rfl) ?_ _
 go_wp2
 go_ret2
 exact ⟨by rw [HV.out]; rfl, HB4.out⟩

set_option maxRecDepth 100000 in
set_option maxHeartbeats 2000000 in
theorem srct4 (r : Rc) (hr : recB r = true) (hk : r.k = 4) (ht : sbB r.b = true) (hf : RcFit r) (w : World) (hp : RcRows w r) (C1 : Hid (∀ W, Below w.heap.size w W → Calls Tryz.prog 16 #[.agg #[.int .i64 r.k, .int .i64 r.t.t.id, .int .i64 r.t.t.st, .int .i64 r.t.t.snap, .int .i64 r.t.t.cs, .slice r.t.ra r.t.t.rs.length r.t.rc, .slice r.t.wa r.t.t.ws.length r.t.wc, .bool r.t.t.out, .string r.t.t.nm, .string r.nm, .bool r.yes, .slice r.b.va r.b.vs.length r.b.vc, .slice r.b.pa r.b.ps.length r.b.pc, .slice r.b.qa r.b.qs.length r.b.qc, .int .i64 r.b.cs, .int .i64 r.b.nx]] W fun e w' => e = .returned (.bool (recB r)) ∧ Below W.heap.size W w')) :
  Calls Tryz.prog 6 #[.agg #[.int .i64 r.k, .int .i64 r.t.t.id, .int .i64 r.t.t.st, .int .i64 r.t.t.snap, .int .i64 r.t.t.cs, .slice r.t.ra r.t.t.rs.length r.t.rc, .slice r.t.wa r.t.t.ws.length r.t.wc, .bool r.t.t.out, .string r.t.t.nm, .string r.nm, .bool r.yes, .slice r.b.va r.b.vs.length r.b.vc, .slice r.b.pa r.b.ps.length r.b.pc, .slice r.b.qa r.b.qs.length r.b.qc, .int .i64 r.b.cs, .int .i64 r.b.nx]] w fun e w' => e = .returned (rctV r) ∧ Below w.heap.size w w' := by
 have HP : Hid (RcRows w r) := hp
 have BX0 := hide (Bx.new w [.int .i64 r.k, .int .i64 r.t.t.id, .int .i64 r.t.t.st, .int .i64 r.t.t.snap, .int .i64 r.t.t.cs, .slice r.t.ra r.t.t.rs.length r.t.rc, .slice r.t.wa r.t.t.ws.length r.t.wc, .bool r.t.t.out, .string r.t.t.nm, .string r.nm, .bool r.yes, .slice r.b.va r.b.vs.length r.b.vc, .slice r.b.pa r.b.ps.length r.b.pc, .slice r.b.qa r.b.qs.length r.b.qc, .int .i64 r.b.cs, .int .i64 r.b.nx] 44)
 have HB0 : Hid (Below w.heap.size w (w.alloc (.cells #[.int .i64 r.k, .int .i64 r.t.t.id, .int .i64 r.t.t.st, .int .i64 r.t.t.snap, .int .i64 r.t.t.cs, .slice r.t.ra r.t.t.rs.length r.t.rc, .slice r.t.wa r.t.t.ws.length r.t.wc, .bool r.t.t.out, .string r.t.t.nm, .string r.nm, .bool r.yes, .slice r.b.va r.b.vs.length r.b.vc, .slice r.b.pa r.b.ps.length r.b.pc, .slice r.b.qa r.b.qs.length r.b.qc, .int .i64 r.b.cs, .int .i64 r.b.nx] 44))) := (belowRefl w).alloc (Nat.le_refl _) _
 have HV : Hid (rctV r = .tuple #[.string (sealB ⟨(rcL r).toArray⟩), .bool true]) := by show _ = _; unfold rctV; rw [hr]; rfl
 have HL : Hid (rcL r = [4] ++ bsL r.b) := by show _ = _; unfold rcL noteL; rw [if_neg (by omega), if_pos hk, hk, show (4 : Int).toNat = 4 from rfl, WM.varL_small 4 (by omega)]; rfl
 have HZ : Hid ((rcL r).length ≤ 15005) := rc_len hr
 have HK := hide hk
 have CT : Hid (∀ W, RcRows W r → Calls Tryz.prog 20 #[.agg #[.slice r.b.va r.b.vs.length r.b.vc, .slice r.b.pa r.b.ps.length r.b.pc, .slice r.b.qa r.b.qs.length r.b.qc, .int .i64 r.b.cs, .int .i64 r.b.nx]] W fun e w' => ∃ g : ByteArray, e = .returned (.tuple #[.string g, .bool true]) ∧ (g.data.toList = bsL r.b ∧ g.size ≤ 15000) ∧ Below W.heap.size W w') := fun W h => by
  refine (sbtext r.b hf.b W h.b).mono ?_
  rintro e w' ⟨rfl, hb⟩
  refine ⟨⟨(bsL r.b).toArray⟩, by unfold btxV; rw [if_pos ht], ⟨by simp, ?_⟩, hb⟩
  rw [show (⟨(bsL r.b).toArray⟩ : ByteArray).size = (bsL r.b).length from List.size_toArray]; exact bs_len (base_small ht)
 have hcv : ∀ W : World, (convert 55 9 (.slice (some ⟨W.heap.size, 0, none⟩) 1 1)).run Tryz.prog (W.alloc (.cells #[Value.int .u8 4] 5)) = .ok (.string ⟨#[4]⟩) (W.alloc (.cells #[Value.int .u8 4] 5)) := fun W => kStr 4 W
 rw [hr] at C1
 clear hr ht hp hf hk
 go_enter Tryz.func6, Tryz.ntmps6
 go_wp2_with fail
 refine (C1.out _ HB0.out).mono ?_
 rintro e w1 ⟨rfl, hb1⟩
 have HB1 := hide (HB0.out.trans (hb1.mono HB0.out.size))
 have BX1 := hide (BX0.out.below hb1)
 clear hb1 BX0 HB0
 have HB2 : Hid (Below w.heap.size w (w1.alloc (.cells #[.int .u8 4] 5))) := HB1.out.alloc HB1.out.size _
 have BX2 : Hid (Bx (w1.alloc (.cells #[.int .u8 4] 5)) w.heap.size [.int .i64 r.k, .int .i64 r.t.t.id, .int .i64 r.t.t.st, .int .i64 r.t.t.snap, .int .i64 r.t.t.cs, .slice r.t.ra r.t.t.rs.length r.t.rc, .slice r.t.wa r.t.t.ws.length r.t.wc, .bool r.t.t.out, .string r.t.t.nm, .string r.nm, .bool r.yes, .slice r.b.va r.b.vs.length r.b.vc, .slice r.b.pa r.b.ps.length r.b.pc, .slice r.b.qa r.b.qs.length r.b.qc, .int .i64 r.b.cs, .int .i64 r.b.nx]) := BX1.out.alloc _
 have HR2 := hide (HP.out.below HB2.out)
 have CS : Hid (∀ (u : ByteArray) W, u.size ≤ 20000 → Calls Tryz.prog 17 #[.string u] W fun e w' => e = .returned (.tuple #[.string (sealB u), .bool true]) ∧ Below W.heap.size W w') := fun u W h => sseal_yes u h W
 have x0 := BX1.out.c0
 rw [HK.out] at x0
 have y0 := BX2.out.c0
 have y11 := BX2.out.c11
 have y12 := BX2.out.c12
 have y13 := BX2.out.c13
 have y14 := BX2.out.c14
 have y15 := BX2.out.c15
 rw [show r.k = 4 from HK.out] at y0
 go_wp2_with fail
 refine (CT.out _ HR2.out).mono ?_
 rintro e w3 ⟨g, rfl, ⟨hg, hgz⟩, hb⟩
 have HG := hide hg
 have HB3 := hide (HB2.out.trans (hb.mono HB2.out.size))
 clear hg hb x0 y0 y11 y12 y13 y14 y15
 have hz1 : (⟨#[4]⟩ : ByteArray).size = 1 := rfl
 have HU : Hid ((⟨#[4]⟩ ++ g : ByteArray) = ⟨(rcL r).toArray⟩) := by
  refine ba_of ?_
  rw [ba_app, HG.out, HL.out]
 have hs1 : (⟨#[4]⟩ ++ g : ByteArray).size ≤ 15005 := by rw [ba_len (by rw [HU.out])]; exact HZ.out
 have hs2 : (⟨#[4]⟩ : ByteArray).size + g.size ≤ 15005 := by rw [← ByteArray.size_append]; exact hs1
 have CS1 := hide (fun W => CS.out (⟨#[4]⟩ ++ g) W (by omega))
 rw [HU.out] at CS1
 clear hz1
 go_wp2_with fail
 rw [HU.out]
 refine (CS1.out _).mono ?_
 rintro e w4 ⟨rfl, hb⟩
 have HB4 := hide (HB3.out.trans (hb.mono HB3.out.size))
 clear hb
 go_wp2
 go_ret2
 exact ⟨by rw [HV.out]; rfl, HB4.out⟩

theorem srct (r : Rc) (hf : RcFit r) (w : World) (hp : RcRows w r) :
  Calls Tryz.prog 6 #[.agg #[.int .i64 r.k, .int .i64 r.t.t.id, .int .i64 r.t.t.st, .int .i64 r.t.t.snap, .int .i64 r.t.t.cs, .slice r.t.ra r.t.t.rs.length r.t.rc, .slice r.t.wa r.t.t.ws.length r.t.wc, .bool r.t.t.out, .string r.t.t.nm, .string r.nm, .bool r.yes, .slice r.b.va r.b.vs.length r.b.vc, .slice r.b.pa r.b.ps.length r.b.pc, .slice r.b.qa r.b.qs.length r.b.qc, .int .i64 r.b.cs, .int .i64 r.b.nx]] w fun e w' => e = .returned (rctV r) ∧ Below w.heap.size w w' := by
 have C1 : Hid (∀ W, Below w.heap.size w W → Calls Tryz.prog 16 #[.agg #[.int .i64 r.k, .int .i64 r.t.t.id, .int .i64 r.t.t.st, .int .i64 r.t.t.snap, .int .i64 r.t.t.cs, .slice r.t.ra r.t.t.rs.length r.t.rc, .slice r.t.wa r.t.t.ws.length r.t.wc, .bool r.t.t.out, .string r.t.t.nm, .string r.nm, .bool r.yes, .slice r.b.va r.b.vs.length r.b.vc, .slice r.b.pa r.b.ps.length r.b.pc, .slice r.b.qa r.b.qs.length r.b.qc, .int .i64 r.b.cs, .int .i64 r.b.nx]] W fun e w' => e = .returned (.bool (recB r)) ∧ Below W.heap.size W w') := fun W h => srec r hf W (hp.below h)
 cases hr : recB r
 ·exact srct_no r hr w C1
 ·rcases rec_cases hr with ⟨e, ht, _⟩ | ⟨e, ht, _⟩ | ⟨e, ht⟩ | ⟨e, ht⟩
  ·exact srct1 r hr e ht hf w hp C1
  ·exact srct2 r hr e ht hf w hp C1
  ·exact srct3 r hr e ht hf w hp C1
  ·exact srct4 r hr e ht hf w hp C1

end Go.Proofs.YtpnnncfbodfnhaaGreatDoor
