/- Drawn for a law of transactions: DrawTxnText, DrawOwnGet, DrawWriteKey. -/
import Derived.Test.YtnljmdodpffmoaaGreatPc01
import Derived.Test.YtnljmdodpffmoaaGreatPc13
import Derived.Test.YtnljmdodpffmoaaGreatPc33
import Derived.Deep.RegionHeld3
namespace Go.Proofs.YtnljmdodpffmoaaGreat
open Go.RowKit
open KM
attribute [local go_sem ↓] Go.wp_at_zero Go.wp_at_succ

set_option maxRecDepth 100000 in
set_option maxHeartbeats 4000000 in
theorem dTxnText (len cap : Nat) (a : Option Addr) (hl : len ≤ 1048576) (w : World) (hr : CodeRow w a len) :
  Calls Tryz.prog 5 #[.slice a len cap] w fun e w' => ∃ (t : Tx) (ra : Option Addr) (rc : Nat) (wa : Option Addr) (wc : Nat), TxA t ∧ e = .returned (.agg #[.int .i64 t.id, .int .i64 t.st, .int .i64 t.snap, .int .i64 t.cs, .slice ra t.rs.length rc, .slice wa t.ws.length wc, .bool t.out, .string t.nm]) ∧ GOwn encR 36 w' w.heap.size (.slice ra t.rs.length rc) t.rs ∧ GOwn encW 42 w' w.heap.size (.slice wa t.ws.length wc) t.ws ∧ Below w.heap.size w w' := by
 have R10 : Hid (Bx (w.alloc (.cells #[.int .i64 0, .int .i64 0, .int .i64 0, .int .i64 0, .slice none 0 0, .slice none 0 0, .bool false, .string ⟨#[]⟩] 27)) (w.heap.size) [.int .i64 0, .int .i64 0, .int .i64 0, .int .i64 0, .slice none 0 0, .slice none 0 0, .bool false, .string ⟨#[]⟩]) := Bx.new w [.int .i64 0, .int .i64 0, .int .i64 0, .int .i64 0, .slice none 0 0, .slice none 0 0, .bool false, .string ⟨#[]⟩] 27
 have HB0 : Hid (Below w.heap.size w (w.alloc (.cells #[.int .i64 0, .int .i64 0, .int .i64 0, .int .i64 0, .slice none 0 0, .slice none 0 0, .bool false, .string ⟨#[]⟩] 27))) := (belowRefl w).alloc (Nat.le_refl _) _
 have HR := hide (hr.below HB0.out)
 have hz0 : w.heap.size < (w.alloc (.cells #[.int .i64 0, .int .i64 0, .int .i64 0, .int .i64 0, .slice none 0 0, .slice none 0 0, .bool false, .string ⟨#[]⟩] 27)).heap.size := by simp
 clear hr
 go_enter Tryz.func5, Tryz.ntmps5
 go_wp2_with fail
 generalize (w.alloc (.cells #[.int .i64 0, .int .i64 0, .int .i64 0, .int .i64 0, .slice none 0 0, .slice none 0 0, .bool false, .string ⟨#[]⟩] 27)) = v0 at *
 refine (drNew len cap a hl _ HR.out).mono ?_
 rintro e v1 ⟨rfl, hc, hb⟩
 have hz1 : v0.heap.size ≤ v1.heap.size := hb.size
 have hlc := hc.lt
 have R11 := hide (R10.out.below hb)
 have HB1 := hide (HB0.out.trans (hb.mono HB0.out.size))
 clear R10 HB0
 have D1 : Hid (Dn v1 v1 (v0.heap.size) a len cap) := Dn.start hc
 clear hb hc HR
 go_wp2_with fail
 refine (drAnyT v0.heap.size len cap a _ D1.out.c).mono ?_
 rintro e v2 ⟨t1, ra1, rc1, wa1, wc1, ht, rfl, ho1, ho2, d⟩
 have HT1 := hide ht
 have hsv2 := d.size
 have R12 := hide (R11.out.keptD d (by omega))
 have HB2 := hide (d.out HB1.out (by omega) (by omega))
 have D2 := hide (D1.out.step d)
 clear R11 HB1 D1
 clear d ht
 have OR12 : Hid (Lies encR 36 v2 (v1.heap.size) (v2.heap.size) (.slice ra1 t1.rs.length rc1) (t1.rs)) := Lies.of ho1
 have OW12 : Hid (Lies encW 42 v2 (v1.heap.size) (v2.heap.size) (.slice wa1 t1.ws.length wc1) (t1.ws)) := Lies.of ho2
 clear ho1 ho2
 clear D2
 have q0_ := R12.out.c0
 have fq0 := R12.out.fz 0
 have q1_ := R12.out.c1
 have fq1 := R12.out.fz 1
 have q2_ := R12.out.c2
 have fq2 := R12.out.fz 2
 have q3_ := R12.out.c3
 have fq3 := R12.out.fz 3
 have q4_ := R12.out.c4
 have fq4 := R12.out.fz 4
 have q5_ := R12.out.c5
 have fq5 := R12.out.fz 5
 have q6_ := R12.out.c6
 have fq6 := R12.out.fz 6
 have q7_ := R12.out.c7
 have fq7 := R12.out.fz 7
 go_wp2
 clear q0_ fq0 q1_ fq1 q2_ fq2 q3_ fq3 q4_ fq4 q5_ fq5 q6_ fq6 q7_ fq7
 have R13 := hide (R12.out.s8P (.int .i64 t1.id) (.int .i64 t1.st) (.int .i64 t1.snap) (.int .i64 t1.cs) (.slice ra1 t1.rs.length rc1) (.slice wa1 t1.ws.length wc1) (.bool t1.out) (.string t1.nm))
 have HB3 := hide (below_s8P HB2.out (ob := w.heap.size) (by omega) (.int .i64 t1.id) (.int .i64 t1.st) (.int .i64 t1.snap) (.int .i64 t1.cs) (.slice ra1 t1.rs.length rc1) (.slice wa1 t1.ws.length wc1) (.bool t1.out) (.string t1.nm))
 have OR13 : Hid (Lies encR 36 ((((((((v2.setCell ⟨w.heap.size, 0, none⟩ (.int .i64 t1.id)).setCell ⟨w.heap.size, 1, none⟩ (.int .i64 t1.st)).setCell ⟨w.heap.size, 2, none⟩ (.int .i64 t1.snap)).setCell ⟨w.heap.size, 3, none⟩ (.int .i64 t1.cs)).setCell ⟨w.heap.size, 4, none⟩ (.slice ra1 t1.rs.length rc1)).setCell ⟨w.heap.size, 5, none⟩ (.slice wa1 t1.ws.length wc1)).setCell ⟨w.heap.size, 6, none⟩ (.bool t1.out)).setCell ⟨w.heap.size, 7, none⟩ (.string t1.nm)) (v1.heap.size) (v2.heap.size) (.slice ra1 t1.rs.length rc1) (t1.rs)) := ⟨own_s8P OR12.out.own (ob := w.heap.size) (by omega) (.int .i64 t1.id) (.int .i64 t1.st) (.int .i64 t1.snap) (.int .i64 t1.cs) (.slice ra1 t1.rs.length rc1) (.slice wa1 t1.ws.length wc1) (.bool t1.out) (.string t1.nm), OR12.out.up⟩
 have OW13 : Hid (Lies encW 42 ((((((((v2.setCell ⟨w.heap.size, 0, none⟩ (.int .i64 t1.id)).setCell ⟨w.heap.size, 1, none⟩ (.int .i64 t1.st)).setCell ⟨w.heap.size, 2, none⟩ (.int .i64 t1.snap)).setCell ⟨w.heap.size, 3, none⟩ (.int .i64 t1.cs)).setCell ⟨w.heap.size, 4, none⟩ (.slice ra1 t1.rs.length rc1)).setCell ⟨w.heap.size, 5, none⟩ (.slice wa1 t1.ws.length wc1)).setCell ⟨w.heap.size, 6, none⟩ (.bool t1.out)).setCell ⟨w.heap.size, 7, none⟩ (.string t1.nm)) (v1.heap.size) (v2.heap.size) (.slice wa1 t1.ws.length wc1) (t1.ws)) := ⟨own_s8P OW12.out.own (ob := w.heap.size) (by omega) (.int .i64 t1.id) (.int .i64 t1.st) (.int .i64 t1.snap) (.int .i64 t1.cs) (.slice ra1 t1.rs.length rc1) (.slice wa1 t1.ws.length wc1) (.bool t1.out) (.string t1.nm), OW12.out.up⟩
 clear R12 HB2 OR12 OW12
 generalize ((((((((v2.setCell ⟨w.heap.size, 0, none⟩ (.int .i64 t1.id)).setCell ⟨w.heap.size, 1, none⟩ (.int .i64 t1.st)).setCell ⟨w.heap.size, 2, none⟩ (.int .i64 t1.snap)).setCell ⟨w.heap.size, 3, none⟩ (.int .i64 t1.cs)).setCell ⟨w.heap.size, 4, none⟩ (.slice ra1 t1.rs.length rc1)).setCell ⟨w.heap.size, 5, none⟩ (.slice wa1 t1.ws.length wc1)).setCell ⟨w.heap.size, 6, none⟩ (.bool t1.out)).setCell ⟨w.heap.size, 7, none⟩ (.string t1.nm)) = v3 at *
 have q0_ := R13.out.c0
 have fq0 := R13.out.fz 0
 have q1_ := R13.out.c1
 have fq1 := R13.out.fz 1
 have q2_ := R13.out.c2
 have fq2 := R13.out.fz 2
 have q3_ := R13.out.c3
 have fq3 := R13.out.fz 3
 have q4_ := R13.out.c4
 have fq4 := R13.out.fz 4
 have q5_ := R13.out.c5
 have fq5 := R13.out.fz 5
 have q6_ := R13.out.c6
 have fq6 := R13.out.fz 6
 have q7_ := R13.out.c7
 have fq7 := R13.out.fz 7
 refine bodyPost_ret (v := .agg #[.int .i64 t1.id, .int .i64 t1.st, .int .i64 t1.snap, .int .i64 t1.cs, .slice ra1 t1.rs.length rc1, .slice wa1 t1.ws.length wc1, .bool t1.out, .string t1.nm]) (by simp [results, Tryz.results5, go_sem, q0_, q1_, q2_, q3_, q4_, q5_, q6_, q7_]) rfl ⟨t1, ra1, rc1, wa1, wc1, HT1.out, rfl, OR13.out.own.mono (by omega), OW13.out.own.mono (by omega), HB3.out⟩

set_option maxRecDepth 100000 in
set_option maxHeartbeats 4000000 in
theorem dOwnGet (len cap : Nat) (a : Option Addr) (hl : len ≤ 1048576) (w : World) (hr : CodeRow w a len) :
  Calls Tryz.prog 16 #[.slice a len cap] w fun e w' => ∃ (t : Tx) (ra : Option Addr) (rc : Nat) (wa : Option Addr) (wc : Nat) (vs : List Vr) (a1 : Option Addr) (c1 : Nat) (ke : ByteArray), TxA t ∧ VFit vs ∧ vs.length ≤ 24 ∧ KeyD ke ∧ e = .returned (.tuple #[.agg #[.int .i64 t.id, .int .i64 t.st, .int .i64 t.snap, .int .i64 t.cs, .slice ra t.rs.length rc, .slice wa t.ws.length wc, .bool t.out, .string t.nm], .slice a1 vs.length c1, .string ke]) ∧ GOwn encR 36 w' w.heap.size (.slice ra t.rs.length rc) t.rs ∧ GOwn encW 42 w' w.heap.size (.slice wa t.ws.length wc) t.ws ∧ GOwn encV 134 w' w.heap.size (.slice a1 vs.length c1) vs ∧ Below w.heap.size w w' := by
 have R10 : Hid (Bx (w.alloc (.cells #[.int .i64 0, .int .i64 0, .int .i64 0, .int .i64 0, .slice none 0 0, .slice none 0 0, .bool false, .string ⟨#[]⟩] 27)) (w.heap.size) [.int .i64 0, .int .i64 0, .int .i64 0, .int .i64 0, .slice none 0 0, .slice none 0 0, .bool false, .string ⟨#[]⟩]) := Bx.new w [.int .i64 0, .int .i64 0, .int .i64 0, .int .i64 0, .slice none 0 0, .slice none 0 0, .bool false, .string ⟨#[]⟩] 27
 have HB0 : Hid (Below w.heap.size w (w.alloc (.cells #[.int .i64 0, .int .i64 0, .int .i64 0, .int .i64 0, .slice none 0 0, .slice none 0 0, .bool false, .string ⟨#[]⟩] 27))) := (belowRefl w).alloc (Nat.le_refl _) _
 have HR := hide (hr.below HB0.out)
 have hz0 : w.heap.size < (w.alloc (.cells #[.int .i64 0, .int .i64 0, .int .i64 0, .int .i64 0, .slice none 0 0, .slice none 0 0, .bool false, .string ⟨#[]⟩] 27)).heap.size := by simp
 clear hr
 go_enter Tryz.func16, Tryz.ntmps16
 go_wp2_with fail
 generalize (w.alloc (.cells #[.int .i64 0, .int .i64 0, .int .i64 0, .int .i64 0, .slice none 0 0, .slice none 0 0, .bool false, .string ⟨#[]⟩] 27)) = v0 at *
 refine (drNew len cap a hl _ HR.out).mono ?_
 rintro e v1 ⟨rfl, hc, hb⟩
 have hz1 : v0.heap.size ≤ v1.heap.size := hb.size
 have hlc := hc.lt
 have R11 := hide (R10.out.below hb)
 have HB1 := hide (HB0.out.trans (hb.mono HB0.out.size))
 clear R10 HB0
 have D1 : Hid (Dn v1 v1 (v0.heap.size) a len cap) := Dn.start hc
 clear hb hc HR
 go_wp2_with fail
 refine (drKey v0.heap.size len cap a _ D1.out.c).mono ?_
 rintro e v2 ⟨ke, hke, rfl, d⟩
 have HKE := hide hke
 have hsv2 := d.size
 have R12 := hide (R11.out.keptD d (by omega))
 have HB2 := hide (d.out HB1.out (by omega) (by omega))
 have D2 := hide (D1.out.step d)
 clear R11 HB1 D1
 clear d
 clear hke
 go_wp2_with fail
 refine (drAnyT v0.heap.size len cap a _ D2.out.c).mono ?_
 rintro e v3 ⟨t1, ra1, rc1, wa1, wc1, ht, rfl, ho1, ho2, d⟩
 have HT1 := hide ht
 have hsv3 := d.size
 have R13 := hide (R12.out.keptD d (by omega))
 have HB3 := hide (d.out HB2.out (by omega) (by omega))
 have D3 := hide (D2.out.step d)
 clear R12 HB2 D2
 clear d ht
 have OR13 : Hid (Lies encR 36 v3 (v2.heap.size) (v3.heap.size) (.slice ra1 t1.rs.length rc1) (t1.rs)) := Lies.of ho1
 have OW13 : Hid (Lies encW 42 v3 (v2.heap.size) (v3.heap.size) (.slice wa1 t1.ws.length wc1) (t1.ws)) := Lies.of ho2
 clear ho1 ho2
 go_upto_region 4 with fail
 have hb : Below v3.heap.size v3 (v3.alloc (.cells #[.int .i64 t1.id, .int .i64 t1.st, .int .i64 t1.snap, .int .i64 t1.cs, .slice ra1 t1.rs.length rc1, .slice wa1 t1.ws.length wc1, .bool t1.out, .string t1.nm] 27)) := (belowRefl v3).alloc (Nat.le_refl _) _
 have R14 := hide (R13.out.below hb)
 have HB4 := hide (HB3.out.trans (hb.mono HB3.out.size))
 have D4 := hide (D3.out.below hb)
 have OR14 := hide (OR13.out.below hb)
 have OW14 := hide (OW13.out.below hb)
 clear R13 HB3 D3 OR13 OW13
 have B14 := hide (Bx.new v3 [.int .i64 t1.id, .int .i64 t1.st, .int .i64 t1.snap, .int .i64 t1.cs, .slice ra1 t1.rs.length rc1, .slice wa1 t1.ws.length wc1, .bool t1.out, .string t1.nm] 27)
 clear hb
 generalize (v3.alloc (.cells #[.int .i64 t1.id, .int .i64 t1.st, .int .i64 t1.snap, .int .i64 t1.cs, .slice ra1 t1.rs.length rc1, .slice wa1 t1.ws.length wc1, .bool t1.out, .string t1.nm] 27)) = v4 at *
 have hlv4 : v3.heap.size < v4.heap.size := B14.out.lt
 refine wp_region_held_drew (S := fun w' => w'.cell? ⟨v3.heap.size, 0, none⟩ = some (.int .i64 t1.id) ∧ w'.cell? ⟨v3.heap.size, 1, none⟩ = some (.int .i64 t1.st) ∧ w'.cell? ⟨v3.heap.size, 2, none⟩ = some (.int .i64 t1.snap) ∧ w'.cell? ⟨v3.heap.size, 3, none⟩ = some (.int .i64 t1.cs) ∧ w'.cell? ⟨v3.heap.size, 4, none⟩ = some (.slice ra1 t1.rs.length rc1) ∧ w'.cell? ⟨v3.heap.size, 5, none⟩ = some (.slice wa1 t1.ws.length wc1) ∧ w'.cell? ⟨v3.heap.size, 6, none⟩ = some (.bool t1.out) ∧ w'.cell? ⟨v3.heap.size, 7, none⟩ = some (.string t1.nm)) (by kernel_rfl) ⟨B14.out.c0, B14.out.c1, B14.out.c2, B14.out.c3, B14.out.c4, B14.out.c5, B14.out.c6, B14.out.c7⟩ (fun hHeld => ?_)
 (refine tk 0 ?_ rfl (Or.inl ⟨by rfl, ?_⟩) ?_; rotate_left; (focus (intro w h; (try dsimp only at h); go_simp; (try with_reducible rfl))); simp only [Act.put, tA, tB, tD, tE, tF])
 (refine tk 1 ?_ rfl (Or.inl ⟨by rfl, ?_⟩) ?_; rotate_left; (focus (intro w h; (try dsimp only at h); go_simp; (try with_reducible rfl))); simp only [Act.put, tA, tB, tC, tD, tE, tF])
 (refine tk 3 ?_ rfl (Or.inl ⟨by rfl, ?_⟩) ?_; rotate_left; (focus (intro w h; (try dsimp only at h); go_simp; (try with_reducible rfl))); simp only [Act.put, tA, tB, tC, tD, tE, tF])
 refine wpAnyH_ready (rs := [2]) (by kernel_rfl) (by simp) ?_
 refine AllReadyH.cons rfl (fun K hK => ?_) AllReadyH.nil
 go_simp
 go_wp2_with fail
 have R15 := hide (R14.out.below (belowRefl v4).drew)
 have HB5 := hide (HB4.out.trans ((belowRefl v4).drew.mono HB4.out.size))
 have D5 := hide (D4.out.below (belowRefl v4).drew)
 have OR15 := hide (OR14.out.below (belowRefl v4).drew)
 have OW15 := hide (OW14.out.below (belowRefl v4).drew)
 have B15 := hide (B14.out.below (belowRefl v4).drew)
 clear R14 HB4 D4 OR14 OW14 B14
 have hd6 : v4.heap.size ≤ v4.drew.heap.size := Nat.le_refl _
 clear hHeld
 generalize v4.drew = u1 at *
 refine (drAnyV v0.heap.size len cap a _ D5.out.c).mono ?_
 rintro e u2 ⟨vs, a1, c1, hvs, hvl, rfl, hov, d⟩
 have HVS := hide hvs
 have HVL := hide hvl
 have hsu2 := d.size
 have R16 := hide (R15.out.keptD d (by omega))
 have HB6 := hide (d.out HB5.out (by omega) (by omega))
 have D6 := hide (D5.out.step d)
 have OR16 : Hid (Lies encR 36 u2 (v2.heap.size) (v3.heap.size) (.slice ra1 t1.rs.length rc1) (t1.rs)) := ⟨OR15.out.own.keptD d (by omega), OR15.out.up⟩
 have OW16 : Hid (Lies encW 42 u2 (v2.heap.size) (v3.heap.size) (.slice wa1 t1.ws.length wc1) (t1.ws)) := ⟨OW15.out.own.keptD d (by omega), OW15.out.up⟩
 have B16 := hide (B15.out.keptD d (by omega))
 clear R15 HB5 D5 OR15 OW15 B15
 have OV6 : Hid (Lies encV 134 u2 (u1.heap.size) (u2.heap.size) (.slice a1 vs.length c1) (vs)) := Lies.of hov
 clear d hvs hvl hov
 go_wp2_with fail
 refine hK.out _ _ ⟨B16.out.c0, B16.out.c1, B16.out.c2, B16.out.c3, B16.out.c4, B16.out.c5, B16.out.c6, B16.out.c7⟩ (fun hHeld => ?_)
 clear hK K
 clear D6
 have q0_ := R16.out.c0
 have fq0 := R16.out.fz 0
 have q1_ := R16.out.c1
 have fq1 := R16.out.fz 1
 have q2_ := R16.out.c2
 have fq2 := R16.out.fz 2
 have q3_ := R16.out.c3
 have fq3 := R16.out.fz 3
 have q4_ := R16.out.c4
 have fq4 := R16.out.fz 4
 have q5_ := R16.out.c5
 have fq5 := R16.out.fz 5
 have q6_ := R16.out.c6
 have fq6 := R16.out.fz 6
 have q7_ := R16.out.c7
 have fq7 := R16.out.fz 7
 refine wpAnyH_ready (rs := [4]) (by kernel_rfl) (by simp) ?_
 refine AllReadyH.cons rfl (fun K hK => ?_) AllReadyH.nil
 go_simp
 clear q0_ fq0 q1_ fq1 q2_ fq2 q3_ fq3 q4_ fq4 q5_ fq5 q6_ fq6 q7_ fq7
 have R17 := hide (R16.out.s8P (.int .i64 t1.id) (.int .i64 t1.st) (.int .i64 t1.snap) (.int .i64 t1.cs) (.slice ra1 t1.rs.length rc1) (.slice wa1 t1.ws.length wc1) (.bool t1.out) (.string t1.nm))
 have HB7 := hide (below_s8P HB6.out (ob := w.heap.size) (by omega) (.int .i64 t1.id) (.int .i64 t1.st) (.int .i64 t1.snap) (.int .i64 t1.cs) (.slice ra1 t1.rs.length rc1) (.slice wa1 t1.ws.length wc1) (.bool t1.out) (.string t1.nm))
 have OR17 : Hid (Lies encR 36 ((((((((u2.setCell ⟨w.heap.size, 0, none⟩ (.int .i64 t1.id)).setCell ⟨w.heap.size, 1, none⟩ (.int .i64 t1.st)).setCell ⟨w.heap.size, 2, none⟩ (.int .i64 t1.snap)).setCell ⟨w.heap.size, 3, none⟩ (.int .i64 t1.cs)).setCell ⟨w.heap.size, 4, none⟩ (.slice ra1 t1.rs.length rc1)).setCell ⟨w.heap.size, 5, none⟩ (.slice wa1 t1.ws.length wc1)).setCell ⟨w.heap.size, 6, none⟩ (.bool t1.out)).setCell ⟨w.heap.size, 7, none⟩ (.string t1.nm)) (v2.heap.size) (v3.heap.size) (.slice ra1 t1.rs.length rc1) (t1.rs)) := ⟨own_s8P OR16.out.own (ob := w.heap.size) (by omega) (.int .i64 t1.id) (.int .i64 t1.st) (.int .i64 t1.snap) (.int .i64 t1.cs) (.slice ra1 t1.rs.length rc1) (.slice wa1 t1.ws.length wc1) (.bool t1.out) (.string t1.nm), OR16.out.up⟩
 have OW17 : Hid (Lies encW 42 ((((((((u2.setCell ⟨w.heap.size, 0, none⟩ (.int .i64 t1.id)).setCell ⟨w.heap.size, 1, none⟩ (.int .i64 t1.st)).setCell ⟨w.heap.size, 2, none⟩ (.int .i64 t1.snap)).setCell ⟨w.heap.size, 3, none⟩ (.int .i64 t1.cs)).setCell ⟨w.heap.size, 4, none⟩ (.slice ra1 t1.rs.length rc1)).setCell ⟨w.heap.size, 5, none⟩ (.slice wa1 t1.ws.length wc1)).setCell ⟨w.heap.size, 6, none⟩ (.bool t1.out)).setCell ⟨w.heap.size, 7, none⟩ (.string t1.nm)) (v2.heap.size) (v3.heap.size) (.slice wa1 t1.ws.length wc1) (t1.ws)) := ⟨own_s8P OW16.out.own (ob := w.heap.size) (by omega) (.int .i64 t1.id) (.int .i64 t1.st) (.int .i64 t1.snap) (.int .i64 t1.cs) (.slice ra1 t1.rs.length rc1) (.slice wa1 t1.ws.length wc1) (.bool t1.out) (.string t1.nm), OW16.out.up⟩
 have B17 := hide (B16.out.o8P (ob := w.heap.size) (by omega) (.int .i64 t1.id) (.int .i64 t1.st) (.int .i64 t1.snap) (.int .i64 t1.cs) (.slice ra1 t1.rs.length rc1) (.slice wa1 t1.ws.length wc1) (.bool t1.out) (.string t1.nm))
 have OV7 : Hid (Lies encV 134 ((((((((u2.setCell ⟨w.heap.size, 0, none⟩ (.int .i64 t1.id)).setCell ⟨w.heap.size, 1, none⟩ (.int .i64 t1.st)).setCell ⟨w.heap.size, 2, none⟩ (.int .i64 t1.snap)).setCell ⟨w.heap.size, 3, none⟩ (.int .i64 t1.cs)).setCell ⟨w.heap.size, 4, none⟩ (.slice ra1 t1.rs.length rc1)).setCell ⟨w.heap.size, 5, none⟩ (.slice wa1 t1.ws.length wc1)).setCell ⟨w.heap.size, 6, none⟩ (.bool t1.out)).setCell ⟨w.heap.size, 7, none⟩ (.string t1.nm)) (u1.heap.size) (u2.heap.size) (.slice a1 vs.length c1) (vs)) := ⟨own_s8P OV6.out.own (ob := w.heap.size) (by omega) (.int .i64 t1.id) (.int .i64 t1.st) (.int .i64 t1.snap) (.int .i64 t1.cs) (.slice ra1 t1.rs.length rc1) (.slice wa1 t1.ws.length wc1) (.bool t1.out) (.string t1.nm), OV6.out.up⟩
 clear R16 HB6 OR16 OW16 B16 OV6
 generalize ((((((((u2.setCell ⟨w.heap.size, 0, none⟩ (.int .i64 t1.id)).setCell ⟨w.heap.size, 1, none⟩ (.int .i64 t1.st)).setCell ⟨w.heap.size, 2, none⟩ (.int .i64 t1.snap)).setCell ⟨w.heap.size, 3, none⟩ (.int .i64 t1.cs)).setCell ⟨w.heap.size, 4, none⟩ (.slice ra1 t1.rs.length rc1)).setCell ⟨w.heap.size, 5, none⟩ (.slice wa1 t1.ws.length wc1)).setCell ⟨w.heap.size, 6, none⟩ (.bool t1.out)).setCell ⟨w.heap.size, 7, none⟩ (.string t1.nm)) = u3 at *
 (try go_wp2_with fail)
 refine hK.out _ _ ⟨B17.out.c0, B17.out.c1, B17.out.c2, B17.out.c3, B17.out.c4, B17.out.c5, B17.out.c6, B17.out.c7⟩ (fun hHeld => ?_)
 clear hK K
 (refine tk 5 ?_ rfl (Or.inl ⟨by rfl, ?_⟩) ?_; rotate_left; (focus (intro w h; (try dsimp only at h); go_simp; (try with_reducible rfl))); simp only [Act.put, tA, tB, tC, tD, tE, tF])
 (refine tk 6 ?_ rfl (Or.inl ⟨by rfl, ?_⟩) ?_; rotate_left; (focus (intro w h; (try dsimp only at h); go_simp; (try with_reducible rfl))); simp only [Act.put, tA, tB, tC, tD, tE, tF])
 refine wpAnyH_done (by kernel_rfl) ?_ _
 go_wp2
 have q0_ := R17.out.c0
 have fq0 := R17.out.fz 0
 have q1_ := R17.out.c1
 have fq1 := R17.out.fz 1
 have q2_ := R17.out.c2
 have fq2 := R17.out.fz 2
 have q3_ := R17.out.c3
 have fq3 := R17.out.fz 3
 have q4_ := R17.out.c4
 have fq4 := R17.out.fz 4
 have q5_ := R17.out.c5
 have fq5 := R17.out.fz 5
 have q6_ := R17.out.c6
 have fq6 := R17.out.fz 6
 have q7_ := R17.out.c7
 have fq7 := R17.out.fz 7
 refine bodyPost_ret (v := .tuple #[.agg #[.int .i64 t1.id, .int .i64 t1.st, .int .i64 t1.snap, .int .i64 t1.cs, .slice ra1 t1.rs.length rc1, .slice wa1 t1.ws.length wc1, .bool t1.out, .string t1.nm], .slice a1 vs.length c1, .string ke]) (by simp [results, Tryz.results16, go_sem, q0_, q1_, q2_, q3_, q4_, q5_, q6_, q7_]) rfl ⟨t1, ra1, rc1, wa1, wc1, vs, a1, c1, ke, HT1.out, HVS.out, HVL.out, HKE.out, rfl, OR17.out.own.mono (by omega), OW17.out.own.mono (by omega), OV7.out.own.mono (by omega), HB7.out⟩

set_option maxRecDepth 100000 in
set_option maxHeartbeats 4000000 in
theorem dWriteKey (len cap : Nat) (a : Option Addr) (hl : len ≤ 1048576) (w : World) (hr : CodeRow w a len) :
  Calls Tryz.prog 13 #[.slice a len cap] w fun e w' => ∃ (t : Tx) (ra : Option Addr) (rc : Nat) (wa : Option Addr) (wc : Nat) (x : Wt), TxA t ∧ WtA x ∧ e = .returned (.tuple #[.agg #[.int .i64 t.id, .int .i64 t.st, .int .i64 t.snap, .int .i64 t.cs, .slice ra t.rs.length rc, .slice wa t.ws.length wc, .bool t.out, .string t.nm], .agg #[.string x.1, .string x.2.1, .bool x.2.2]]) ∧ GOwn encR 36 w' w.heap.size (.slice ra t.rs.length rc) t.rs ∧ GOwn encW 42 w' w.heap.size (.slice wa t.ws.length wc) t.ws ∧ Below w.heap.size w w' := by
 have R10 : Hid (Bx ((w.alloc (.cells #[.int .i64 0, .int .i64 0, .int .i64 0, .int .i64 0, .slice none 0 0, .slice none 0 0, .bool false, .string ⟨#[]⟩] 27)).alloc (.cells #[.string ⟨#[]⟩, .string ⟨#[]⟩, .bool false] 42)) (w.heap.size) [.int .i64 0, .int .i64 0, .int .i64 0, .int .i64 0, .slice none 0 0, .slice none 0 0, .bool false, .string ⟨#[]⟩]) := (Bx.new w [.int .i64 0, .int .i64 0, .int .i64 0, .int .i64 0, .slice none 0 0, .slice none 0 0, .bool false, .string ⟨#[]⟩] 27).alloc _
 have R20 : Hid (Bx ((w.alloc (.cells #[.int .i64 0, .int .i64 0, .int .i64 0, .int .i64 0, .slice none 0 0, .slice none 0 0, .bool false, .string ⟨#[]⟩] 27)).alloc (.cells #[.string ⟨#[]⟩, .string ⟨#[]⟩, .bool false] 42)) (w.heap.size + 1) [.string ⟨#[]⟩, .string ⟨#[]⟩, .bool false]) := by have h := Bx.new (w.alloc (.cells #[.int .i64 0, .int .i64 0, .int .i64 0, .int .i64 0, .slice none 0 0, .slice none 0 0, .bool false, .string ⟨#[]⟩] 27)) [.string ⟨#[]⟩, .string ⟨#[]⟩, .bool false] 42; rw [World.size_alloc] at h; exact h
 have HB0 : Hid (Below w.heap.size w ((w.alloc (.cells #[.int .i64 0, .int .i64 0, .int .i64 0, .int .i64 0, .slice none 0 0, .slice none 0 0, .bool false, .string ⟨#[]⟩] 27)).alloc (.cells #[.string ⟨#[]⟩, .string ⟨#[]⟩, .bool false] 42))) := ((belowRefl w).alloc (Nat.le_refl _) _).alloc (by simp) _
 have HR := hide (hr.below HB0.out)
 have hz0 : w.heap.size + 1 < ((w.alloc (.cells #[.int .i64 0, .int .i64 0, .int .i64 0, .int .i64 0, .slice none 0 0, .slice none 0 0, .bool false, .string ⟨#[]⟩] 27)).alloc (.cells #[.string ⟨#[]⟩, .string ⟨#[]⟩, .bool false] 42)).heap.size := by simp
 clear hr
 go_enter Tryz.func13, Tryz.ntmps13
 go_wp2_with fail
 generalize ((w.alloc (.cells #[.int .i64 0, .int .i64 0, .int .i64 0, .int .i64 0, .slice none 0 0, .slice none 0 0, .bool false, .string ⟨#[]⟩] 27)).alloc (.cells #[.string ⟨#[]⟩, .string ⟨#[]⟩, .bool false] 42)) = v0 at *
 refine (drNew len cap a hl _ HR.out).mono ?_
 rintro e v1 ⟨rfl, hc, hb⟩
 have hz1 : v0.heap.size ≤ v1.heap.size := hb.size
 have hlc := hc.lt
 have R11 := hide (R10.out.below hb)
 have R21 := hide (R20.out.below hb)
 have HB1 := hide (HB0.out.trans (hb.mono HB0.out.size))
 clear R10 R20 HB0
 have D1 : Hid (Dn v1 v1 (v0.heap.size) a len cap) := Dn.start hc
 clear hb hc HR
 go_wp2_with fail
 refine (drBelow v0.heap.size len cap a 3 (by omega) (by omega) _ D1.out.c).mono ?_
 rintro e v2 ⟨n, hn, rfl, d⟩
 have hsv2 := d.size
 have R12 := hide (R11.out.keptD d (by omega))
 have R22 := hide (R21.out.keptD d (by omega))
 have HB2 := hide (d.out HB1.out (by omega) (by omega))
 have D2 := hide (D1.out.step d)
 clear R11 R21 HB1 D1
 clear d
 go_wp2_with fail
 refine (drAny v0.heap.size len cap a _ D2.out.c).mono ?_
 rintro e v3 ⟨x, hx, rfl, d⟩
 have HX := hide hx
 have hsv3 := d.size
 have R13 := hide (R12.out.keptD d (by omega))
 have R23 := hide (R22.out.keptD d (by omega))
 have HB3 := hide (d.out HB2.out (by omega) (by omega))
 have D3 := hide (D2.out.step d)
 clear R12 R22 HB2 D2
 clear d
 clear hx
 go_upto_region 4 with fail
 have hb : Below v3.heap.size v3 (v3.alloc (.cells #[.string x.1, .string x.2.1, .bool x.2.2] 42)) := (belowRefl v3).alloc (Nat.le_refl _) _
 have R14 := hide (R13.out.below hb)
 have R24 := hide (R23.out.below hb)
 have HB4 := hide (HB3.out.trans (hb.mono HB3.out.size))
 have D4 := hide (D3.out.below hb)
 clear R13 R23 HB3 D3
 have B24 : Hid (Bx (v3.alloc (.cells #[.string x.1, .string x.2.1, .bool x.2.2] 42)) (v3.heap.size) [.string x.1, .string x.2.1, .bool x.2.2]) := Bx.new v3 [.string x.1, .string x.2.1, .bool x.2.2] 42
 clear hb
 generalize (v3.alloc (.cells #[.string x.1, .string x.2.1, .bool x.2.2] 42)) = v4 at *
 have hlv4 : v3.heap.size < v4.heap.size := B24.out.lt
 go_wp2_with fail
 refine (drAnyT v0.heap.size len cap a _ D4.out.c).mono ?_
 rintro e v5 ⟨t1, ra1, rc1, wa1, wc1, ht, rfl, ho1, ho2, d⟩
 have HT1 := hide ht
 have hsv5 := d.size
 have R15 := hide (R14.out.keptD d (by omega))
 have R25 := hide (R24.out.keptD d (by omega))
 have HB5 := hide (d.out HB4.out (by omega) (by omega))
 have D5 := hide (D4.out.step d)
 have B25 := hide (B24.out.keptD d (by omega))
 clear R14 R24 HB4 D4 B24
 clear d ht
 have OR15 : Hid (Lies encR 36 v5 (v4.heap.size) (v5.heap.size) (.slice ra1 t1.rs.length rc1) (t1.rs)) := Lies.of ho1
 have OW15 : Hid (Lies encW 42 v5 (v4.heap.size) (v5.heap.size) (.slice wa1 t1.ws.length wc1) (t1.ws)) := Lies.of ho2
 clear ho1 ho2
 go_upto_region 5 with fail
 have hb : Below v5.heap.size v5 (v5.alloc (.cells #[.int .i64 t1.id, .int .i64 t1.st, .int .i64 t1.snap, .int .i64 t1.cs, .slice ra1 t1.rs.length rc1, .slice wa1 t1.ws.length wc1, .bool t1.out, .string t1.nm] 27)) := (belowRefl v5).alloc (Nat.le_refl _) _
 have R16 := hide (R15.out.below hb)
 have R26 := hide (R25.out.below hb)
 have HB6 := hide (HB5.out.trans (hb.mono HB5.out.size))
 have D6 := hide (D5.out.below hb)
 have B26 := hide (B25.out.below hb)
 have OR16 := hide (OR15.out.below hb)
 have OW16 := hide (OW15.out.below hb)
 clear R15 R25 HB5 D5 B25 OR15 OW15
 have B16 := hide (Bx.new v5 [.int .i64 t1.id, .int .i64 t1.st, .int .i64 t1.snap, .int .i64 t1.cs, .slice ra1 t1.rs.length rc1, .slice wa1 t1.ws.length wc1, .bool t1.out, .string t1.nm] 27)
 clear hb
 generalize (v5.alloc (.cells #[.int .i64 t1.id, .int .i64 t1.st, .int .i64 t1.snap, .int .i64 t1.cs, .slice ra1 t1.rs.length rc1, .slice wa1 t1.ws.length wc1, .bool t1.out, .string t1.nm] 27)) = v6 at *
 have hlv6 : v5.heap.size < v6.heap.size := B16.out.lt
 by_cases h0 : 0 < n
 ·have h0' : (0 : Int) < (n : Int) := by omega
  go_wp2_with fail
  refine (drWrites v0.heap.size len cap a _ D6.out.c).mono ?_
  rintro e u1 ⟨ws, wa, wc, hws, hwl, rfl, ho, d⟩
  have HWS := hide hws
  have hsu1 := d.size
  have R17 := hide (R16.out.keptD d (by omega))
  have R27 := hide (R26.out.keptD d (by omega))
  have HB7 := hide (d.out HB6.out (by omega) (by omega))
  have D7 := hide (D6.out.step d)
  have B27 := hide (B26.out.keptD d (by omega))
  have OR17 : Hid (Lies encR 36 u1 (v4.heap.size) (v5.heap.size) (.slice ra1 t1.rs.length rc1) (t1.rs)) := ⟨OR16.out.own.keptD d (by omega), OR16.out.up⟩
  have OW17 : Hid (Lies encW 42 u1 (v4.heap.size) (v5.heap.size) (.slice wa1 t1.ws.length wc1) (t1.ws)) := ⟨OW16.out.own.keptD d (by omega), OW16.out.up⟩
  have B17 := hide (B16.out.keptD d (by omega))
  clear R16 R26 HB6 D6 B26 OR16 OW16 B16
  have OW37 : Hid (Lies encW 42 u1 (v6.heap.size) (u1.heap.size) (.slice wa ws.length wc) (ws)) := Lies.of ho
  clear d ho hws
  clear OR17
  clear OW17
  have q0_ := B17.out.c0
  have fq0 := B17.out.fz 0
  have q1_ := B17.out.c1
  have fq1 := B17.out.fz 1
  have q2_ := B17.out.c2
  have fq2 := B17.out.fz 2
  have q3_ := B17.out.c3
  have fq3 := B17.out.fz 3
  have q4_ := B17.out.c4
  have fq4 := B17.out.fz 4
  have q5_ := B17.out.c5
  have fq5 := B17.out.fz 5
  have q6_ := B17.out.c6
  have fq6 := B17.out.fz 6
  have q7_ := B17.out.c7
  have fq7 := B17.out.fz 7
  go_upto_region 7 with fail
  clear q0_ fq0 q1_ fq1 q2_ fq2 q3_ fq3 q4_ fq4 q5_ fq5 q6_ fq6 q7_ fq7
  have R18 := hide (R17.out.o8P (ob := v5.heap.size) (by omega) (.int .i64 1) (.int .i64 1) (.int .i64 2) (.int .i64 0) (.slice none 0 0) (.slice wa ws.length wc) (.bool false) (.string ⟨#[]⟩))
  have R28 := hide (R27.out.o8P (ob := v5.heap.size) (by omega) (.int .i64 1) (.int .i64 1) (.int .i64 2) (.int .i64 0) (.slice none 0 0) (.slice wa ws.length wc) (.bool false) (.string ⟨#[]⟩))
  have HB8 := hide (below_s8P HB7.out (ob := v5.heap.size) (by omega) (.int .i64 1) (.int .i64 1) (.int .i64 2) (.int .i64 0) (.slice none 0 0) (.slice wa ws.length wc) (.bool false) (.string ⟨#[]⟩))
  have D8 : Hid (Dn v1 ((((((((u1.setCell ⟨v5.heap.size, 0, none⟩ (.int .i64 1)).setCell ⟨v5.heap.size, 1, none⟩ (.int .i64 1)).setCell ⟨v5.heap.size, 2, none⟩ (.int .i64 2)).setCell ⟨v5.heap.size, 3, none⟩ (.int .i64 0)).setCell ⟨v5.heap.size, 4, none⟩ (.slice none 0 0)).setCell ⟨v5.heap.size, 5, none⟩ (.slice wa ws.length wc)).setCell ⟨v5.heap.size, 6, none⟩ (.bool false)).setCell ⟨v5.heap.size, 7, none⟩ (.string ⟨#[]⟩)) (v0.heap.size) a len cap) := D7.out.belowB (below_s8P (Below.refl _ _) (ob := v5.heap.size) (by omega) (.int .i64 1) (.int .i64 1) (.int .i64 2) (.int .i64 0) (.slice none 0 0) (.slice wa ws.length wc) (.bool false) (.string ⟨#[]⟩))
  have B28 := hide (B27.out.o8P (ob := v5.heap.size) (by omega) (.int .i64 1) (.int .i64 1) (.int .i64 2) (.int .i64 0) (.slice none 0 0) (.slice wa ws.length wc) (.bool false) (.string ⟨#[]⟩))
  have B18 := hide (B17.out.s8P (.int .i64 1) (.int .i64 1) (.int .i64 2) (.int .i64 0) (.slice none 0 0) (.slice wa ws.length wc) (.bool false) (.string ⟨#[]⟩))
  have OW38 : Hid (Lies encW 42 ((((((((u1.setCell ⟨v5.heap.size, 0, none⟩ (.int .i64 1)).setCell ⟨v5.heap.size, 1, none⟩ (.int .i64 1)).setCell ⟨v5.heap.size, 2, none⟩ (.int .i64 2)).setCell ⟨v5.heap.size, 3, none⟩ (.int .i64 0)).setCell ⟨v5.heap.size, 4, none⟩ (.slice none 0 0)).setCell ⟨v5.heap.size, 5, none⟩ (.slice wa ws.length wc)).setCell ⟨v5.heap.size, 6, none⟩ (.bool false)).setCell ⟨v5.heap.size, 7, none⟩ (.string ⟨#[]⟩)) (v6.heap.size) (u1.heap.size) (.slice wa ws.length wc) (ws)) := ⟨own_s8P OW37.out.own (ob := v5.heap.size) (by omega) (.int .i64 1) (.int .i64 1) (.int .i64 2) (.int .i64 0) (.slice none 0 0) (.slice wa ws.length wc) (.bool false) (.string ⟨#[]⟩), OW37.out.up⟩
  clear R17 R27 HB7 D7 B27 B17 OW37
  generalize ((((((((u1.setCell ⟨v5.heap.size, 0, none⟩ (.int .i64 1)).setCell ⟨v5.heap.size, 1, none⟩ (.int .i64 1)).setCell ⟨v5.heap.size, 2, none⟩ (.int .i64 2)).setCell ⟨v5.heap.size, 3, none⟩ (.int .i64 0)).setCell ⟨v5.heap.size, 4, none⟩ (.slice none 0 0)).setCell ⟨v5.heap.size, 5, none⟩ (.slice wa ws.length wc)).setCell ⟨v5.heap.size, 6, none⟩ (.bool false)).setCell ⟨v5.heap.size, 7, none⟩ (.string ⟨#[]⟩)) = u2 at *
  refine wp_region_held_drew (S := fun w' => w'.cell? ⟨v5.heap.size, 0, none⟩ = some (.int .i64 1) ∧ w'.cell? ⟨v5.heap.size, 1, none⟩ = some (.int .i64 1) ∧ w'.cell? ⟨v5.heap.size, 2, none⟩ = some (.int .i64 2) ∧ w'.cell? ⟨v5.heap.size, 3, none⟩ = some (.int .i64 0) ∧ w'.cell? ⟨v5.heap.size, 4, none⟩ = some (.slice none 0 0) ∧ w'.cell? ⟨v5.heap.size, 5, none⟩ = some (.slice wa ws.length wc) ∧ w'.cell? ⟨v5.heap.size, 6, none⟩ = some (.bool false) ∧ w'.cell? ⟨v5.heap.size, 7, none⟩ = some (.string ⟨#[]⟩) ∧ w'.cell? ⟨v3.heap.size, 0, none⟩ = some (.string x.1) ∧ w'.cell? ⟨v3.heap.size, 1, none⟩ = some (.string x.2.1) ∧ w'.cell? ⟨v3.heap.size, 2, none⟩ = some (.bool x.2.2)) (by kernel_rfl) ⟨B18.out.c0, B18.out.c1, B18.out.c2, B18.out.c3, B18.out.c4, B18.out.c5, B18.out.c6, B18.out.c7, B28.out.c0, B28.out.c1, B28.out.c2⟩ (fun hHeld => ?_)
  (refine tk 0 ?_ rfl (Or.inl ⟨by rfl, ?_⟩) ?_; rotate_left; (focus (intro w h; (try dsimp only at h); go_simp; (try with_reducible rfl))); simp only [Act.put, tA, tB, tD, tE, tF])
  (refine tk 1 ?_ rfl (Or.inl ⟨by rfl, ?_⟩) ?_; rotate_left; (focus (intro w h; (try dsimp only at h); go_simp; (try with_reducible rfl))); simp only [Act.put, tA, tB, tC, tD, tE, tF])
  have R19 := hide (R18.out.below (belowRefl u2).drew)
  have R29 := hide (R28.out.below (belowRefl u2).drew)
  have HB9 := hide (HB8.out.trans ((belowRefl u2).drew.mono HB8.out.size))
  have D9 := hide (D8.out.below (belowRefl u2).drew)
  have B29 := hide (B28.out.below (belowRefl u2).drew)
  have B19 := hide (B18.out.below (belowRefl u2).drew)
  have OW39 := hide (OW38.out.below (belowRefl u2).drew)
  clear R18 R28 HB8 D8 B28 B18 OW38
  have hd6 : u2.heap.size ≤ u2.drew.heap.size := Nat.le_refl _
  clear hHeld
  generalize u2.drew = u7 at *
  clear D9
  have q0_ := R19.out.c0
  have fq0 := R19.out.fz 0
  have q1_ := R19.out.c1
  have fq1 := R19.out.fz 1
  have q2_ := R19.out.c2
  have fq2 := R19.out.fz 2
  have q3_ := R19.out.c3
  have fq3 := R19.out.fz 3
  have q4_ := R19.out.c4
  have fq4 := R19.out.fz 4
  have q5_ := R19.out.c5
  have fq5 := R19.out.fz 5
  have q6_ := R19.out.c6
  have fq6 := R19.out.fz 6
  have q7_ := R19.out.c7
  have fq7 := R19.out.fz 7
  refine wpAnyH_ready (rs := [2]) (by kernel_rfl) (by simp) ?_
  refine AllReadyH.cons rfl (fun K hK => ?_) AllReadyH.nil
  go_simp
  clear q0_ fq0 q1_ fq1 q2_ fq2 q3_ fq3 q4_ fq4 q5_ fq5 q6_ fq6 q7_ fq7
  have R110 := hide (R19.out.s8P (.int .i64 1) (.int .i64 1) (.int .i64 2) (.int .i64 0) (.slice none 0 0) (.slice wa ws.length wc) (.bool false) (.string ⟨#[]⟩))
  have R210 := hide (R29.out.o8P (ob := w.heap.size) (by omega) (.int .i64 1) (.int .i64 1) (.int .i64 2) (.int .i64 0) (.slice none 0 0) (.slice wa ws.length wc) (.bool false) (.string ⟨#[]⟩))
  have HB10 := hide (below_s8P HB9.out (ob := w.heap.size) (by omega) (.int .i64 1) (.int .i64 1) (.int .i64 2) (.int .i64 0) (.slice none 0 0) (.slice wa ws.length wc) (.bool false) (.string ⟨#[]⟩))
  have B210 := hide (B29.out.o8P (ob := w.heap.size) (by omega) (.int .i64 1) (.int .i64 1) (.int .i64 2) (.int .i64 0) (.slice none 0 0) (.slice wa ws.length wc) (.bool false) (.string ⟨#[]⟩))
  have B110 := hide (B19.out.o8P (ob := w.heap.size) (by omega) (.int .i64 1) (.int .i64 1) (.int .i64 2) (.int .i64 0) (.slice none 0 0) (.slice wa ws.length wc) (.bool false) (.string ⟨#[]⟩))
  have OW310 : Hid (Lies encW 42 ((((((((u7.setCell ⟨w.heap.size, 0, none⟩ (.int .i64 1)).setCell ⟨w.heap.size, 1, none⟩ (.int .i64 1)).setCell ⟨w.heap.size, 2, none⟩ (.int .i64 2)).setCell ⟨w.heap.size, 3, none⟩ (.int .i64 0)).setCell ⟨w.heap.size, 4, none⟩ (.slice none 0 0)).setCell ⟨w.heap.size, 5, none⟩ (.slice wa ws.length wc)).setCell ⟨w.heap.size, 6, none⟩ (.bool false)).setCell ⟨w.heap.size, 7, none⟩ (.string ⟨#[]⟩)) (v6.heap.size) (u1.heap.size) (.slice wa ws.length wc) (ws)) := ⟨own_s8P OW39.out.own (ob := w.heap.size) (by omega) (.int .i64 1) (.int .i64 1) (.int .i64 2) (.int .i64 0) (.slice none 0 0) (.slice wa ws.length wc) (.bool false) (.string ⟨#[]⟩), OW39.out.up⟩
  clear R19 R29 HB9 B29 B19 OW39
  generalize ((((((((u7.setCell ⟨w.heap.size, 0, none⟩ (.int .i64 1)).setCell ⟨w.heap.size, 1, none⟩ (.int .i64 1)).setCell ⟨w.heap.size, 2, none⟩ (.int .i64 2)).setCell ⟨w.heap.size, 3, none⟩ (.int .i64 0)).setCell ⟨w.heap.size, 4, none⟩ (.slice none 0 0)).setCell ⟨w.heap.size, 5, none⟩ (.slice wa ws.length wc)).setCell ⟨w.heap.size, 6, none⟩ (.bool false)).setCell ⟨w.heap.size, 7, none⟩ (.string ⟨#[]⟩)) = u8 at *
  (try go_wp2_with fail)
  refine hK.out _ _ ⟨B110.out.c0, B110.out.c1, B110.out.c2, B110.out.c3, B110.out.c4, B110.out.c5, B110.out.c6, B110.out.c7, B210.out.c0, B210.out.c1, B210.out.c2⟩ (fun hHeld => ?_)
  clear hK K
  have p0_ := R210.out.c0
  have fp0 := R210.out.fz 0
  have p1_ := R210.out.c1
  have fp1 := R210.out.fz 1
  have p2_ := R210.out.c2
  have fp2 := R210.out.fz 2
  refine wpAnyH_ready (rs := [3]) (by kernel_rfl) (by simp) ?_
  refine AllReadyH.cons rfl (fun K hK => ?_) AllReadyH.nil
  go_simp
  clear p0_ fp0 p1_ fp1 p2_ fp2
  have R111 : Hid (Bx (u8.setCell ⟨w.heap.size + 1, 0, none⟩ (.string x.1)) (w.heap.size) [.int .i64 1, .int .i64 1, .int .i64 2, .int .i64 0, .slice none 0 0, .slice wa ws.length wc, .bool false, .string ⟨#[]⟩]) := R110.out.setO (p := ⟨w.heap.size + 1, 0, none⟩) (by show w.heap.size + 1 ≠ w.heap.size; omega) _
  have R211 : Hid (Bx (u8.setCell ⟨w.heap.size + 1, 0, none⟩ (.string x.1)) (w.heap.size + 1) [.string x.1, .string ⟨#[]⟩, .bool false]) := R210.out.set 0 _
  have HB11 : Hid (Below w.heap.size w (u8.setCell ⟨w.heap.size + 1, 0, none⟩ (.string x.1))) := HB10.out.setCell (by show w.heap.size ≤ w.heap.size + 1; omega) _
  have B211 : Hid (Bx (u8.setCell ⟨w.heap.size + 1, 0, none⟩ (.string x.1)) (v3.heap.size) [.string x.1, .string x.2.1, .bool x.2.2]) := B210.out.setO (p := ⟨w.heap.size + 1, 0, none⟩) (by show w.heap.size + 1 ≠ v3.heap.size; omega) _
  have B111 : Hid (Bx (u8.setCell ⟨w.heap.size + 1, 0, none⟩ (.string x.1)) (v5.heap.size) [.int .i64 1, .int .i64 1, .int .i64 2, .int .i64 0, .slice none 0 0, .slice wa ws.length wc, .bool false, .string ⟨#[]⟩]) := B110.out.setO (p := ⟨w.heap.size + 1, 0, none⟩) (by show w.heap.size + 1 ≠ v5.heap.size; omega) _
  have OW311 : Hid (Lies encW 42 (u8.setCell ⟨w.heap.size + 1, 0, none⟩ (.string x.1)) (v6.heap.size) (u1.heap.size) (.slice wa ws.length wc) (ws)) := OW310.out.setxP (a := ⟨w.heap.size + 1, 0, none⟩) (fun b hb => (by have := OW310.out.lo b hb; show w.heap.size + 1 ≠ b; omega)) _
  clear R110 R210 HB10 B210 B110 OW310
  have R112 : Hid (Bx ((u8.setCell ⟨w.heap.size + 1, 0, none⟩ (.string x.1)).setCell ⟨w.heap.size + 1, 1, none⟩ (.string x.2.1)) (w.heap.size) [.int .i64 1, .int .i64 1, .int .i64 2, .int .i64 0, .slice none 0 0, .slice wa ws.length wc, .bool false, .string ⟨#[]⟩]) := R111.out.setO (p := ⟨w.heap.size + 1, 1, none⟩) (by show w.heap.size + 1 ≠ w.heap.size; omega) _
  have R212 : Hid (Bx ((u8.setCell ⟨w.heap.size + 1, 0, none⟩ (.string x.1)).setCell ⟨w.heap.size + 1, 1, none⟩ (.string x.2.1)) (w.heap.size + 1) [.string x.1, .string x.2.1, .bool false]) := R211.out.set 1 _
  have HB12 : Hid (Below w.heap.size w ((u8.setCell ⟨w.heap.size + 1, 0, none⟩ (.string x.1)).setCell ⟨w.heap.size + 1, 1, none⟩ (.string x.2.1))) := HB11.out.setCell (by show w.heap.size ≤ w.heap.size + 1; omega) _
  have B212 : Hid (Bx ((u8.setCell ⟨w.heap.size + 1, 0, none⟩ (.string x.1)).setCell ⟨w.heap.size + 1, 1, none⟩ (.string x.2.1)) (v3.heap.size) [.string x.1, .string x.2.1, .bool x.2.2]) := B211.out.setO (p := ⟨w.heap.size + 1, 1, none⟩) (by show w.heap.size + 1 ≠ v3.heap.size; omega) _
  have B112 : Hid (Bx ((u8.setCell ⟨w.heap.size + 1, 0, none⟩ (.string x.1)).setCell ⟨w.heap.size + 1, 1, none⟩ (.string x.2.1)) (v5.heap.size) [.int .i64 1, .int .i64 1, .int .i64 2, .int .i64 0, .slice none 0 0, .slice wa ws.length wc, .bool false, .string ⟨#[]⟩]) := B111.out.setO (p := ⟨w.heap.size + 1, 1, none⟩) (by show w.heap.size + 1 ≠ v5.heap.size; omega) _
  have OW312 : Hid (Lies encW 42 ((u8.setCell ⟨w.heap.size + 1, 0, none⟩ (.string x.1)).setCell ⟨w.heap.size + 1, 1, none⟩ (.string x.2.1)) (v6.heap.size) (u1.heap.size) (.slice wa ws.length wc) (ws)) := OW311.out.setxP (a := ⟨w.heap.size + 1, 1, none⟩) (fun b hb => (by have := OW311.out.lo b hb; show w.heap.size + 1 ≠ b; omega)) _
  clear R111 R211 HB11 B211 B111 OW311
  have R113 : Hid (Bx (((u8.setCell ⟨w.heap.size + 1, 0, none⟩ (.string x.1)).setCell ⟨w.heap.size + 1, 1, none⟩ (.string x.2.1)).setCell ⟨w.heap.size + 1, 2, none⟩ (.bool x.2.2)) (w.heap.size) [.int .i64 1, .int .i64 1, .int .i64 2, .int .i64 0, .slice none 0 0, .slice wa ws.length wc, .bool false, .string ⟨#[]⟩]) := R112.out.setO (p := ⟨w.heap.size + 1, 2, none⟩) (by show w.heap.size + 1 ≠ w.heap.size; omega) _
  have R213 : Hid (Bx (((u8.setCell ⟨w.heap.size + 1, 0, none⟩ (.string x.1)).setCell ⟨w.heap.size + 1, 1, none⟩ (.string x.2.1)).setCell ⟨w.heap.size + 1, 2, none⟩ (.bool x.2.2)) (w.heap.size + 1) [.string x.1, .string x.2.1, .bool x.2.2]) := R212.out.set 2 _
  have HB13 : Hid (Below w.heap.size w (((u8.setCell ⟨w.heap.size + 1, 0, none⟩ (.string x.1)).setCell ⟨w.heap.size + 1, 1, none⟩ (.string x.2.1)).setCell ⟨w.heap.size + 1, 2, none⟩ (.bool x.2.2))) := HB12.out.setCell (by show w.heap.size ≤ w.heap.size + 1; omega) _
  have B213 : Hid (Bx (((u8.setCell ⟨w.heap.size + 1, 0, none⟩ (.string x.1)).setCell ⟨w.heap.size + 1, 1, none⟩ (.string x.2.1)).setCell ⟨w.heap.size + 1, 2, none⟩ (.bool x.2.2)) (v3.heap.size) [.string x.1, .string x.2.1, .bool x.2.2]) := B212.out.setO (p := ⟨w.heap.size + 1, 2, none⟩) (by show w.heap.size + 1 ≠ v3.heap.size; omega) _
  have B113 : Hid (Bx (((u8.setCell ⟨w.heap.size + 1, 0, none⟩ (.string x.1)).setCell ⟨w.heap.size + 1, 1, none⟩ (.string x.2.1)).setCell ⟨w.heap.size + 1, 2, none⟩ (.bool x.2.2)) (v5.heap.size) [.int .i64 1, .int .i64 1, .int .i64 2, .int .i64 0, .slice none 0 0, .slice wa ws.length wc, .bool false, .string ⟨#[]⟩]) := B112.out.setO (p := ⟨w.heap.size + 1, 2, none⟩) (by show w.heap.size + 1 ≠ v5.heap.size; omega) _
  have OW313 : Hid (Lies encW 42 (((u8.setCell ⟨w.heap.size + 1, 0, none⟩ (.string x.1)).setCell ⟨w.heap.size + 1, 1, none⟩ (.string x.2.1)).setCell ⟨w.heap.size + 1, 2, none⟩ (.bool x.2.2)) (v6.heap.size) (u1.heap.size) (.slice wa ws.length wc) (ws)) := OW312.out.setxP (a := ⟨w.heap.size + 1, 2, none⟩) (fun b hb => (by have := OW312.out.lo b hb; show w.heap.size + 1 ≠ b; omega)) _
  clear R112 R212 HB12 B212 B112 OW312
  generalize (((u8.setCell ⟨w.heap.size + 1, 0, none⟩ (.string x.1)).setCell ⟨w.heap.size + 1, 1, none⟩ (.string x.2.1)).setCell ⟨w.heap.size + 1, 2, none⟩ (.bool x.2.2)) = u9 at *
  (try go_wp2_with fail)
  refine hK.out _ _ ⟨B113.out.c0, B113.out.c1, B113.out.c2, B113.out.c3, B113.out.c4, B113.out.c5, B113.out.c6, B113.out.c7, B213.out.c0, B213.out.c1, B213.out.c2⟩ (fun hHeld => ?_)
  clear hK K
  refine wpAnyH_done (by kernel_rfl) ?_ _
  go_wp2
  have q0_ := R113.out.c0
  have fq0 := R113.out.fz 0
  have q1_ := R113.out.c1
  have fq1 := R113.out.fz 1
  have q2_ := R113.out.c2
  have fq2 := R113.out.fz 2
  have q3_ := R113.out.c3
  have fq3 := R113.out.fz 3
  have q4_ := R113.out.c4
  have fq4 := R113.out.fz 4
  have q5_ := R113.out.c5
  have fq5 := R113.out.fz 5
  have q6_ := R113.out.c6
  have fq6 := R113.out.fz 6
  have q7_ := R113.out.c7
  have fq7 := R113.out.fz 7
  have p0_ := R213.out.c0
  have p1_ := R213.out.c1
  have p2_ := R213.out.c2
  refine bodyPost_ret (v := .tuple #[.agg #[.int .i64 1, .int .i64 1, .int .i64 2, .int .i64 0, .slice none 0 0, .slice wa ws.length wc, .bool false, .string ⟨#[]⟩], .agg #[.string x.1, .string x.2.1, .bool x.2.2]]) (by simp [results, Tryz.results13, go_sem, q0_, q1_, q2_, q3_, q4_, q5_, q6_, q7_, p0_, p1_, p2_]) rfl ⟨⟨1, 1, 2, 0, [], ws, false, ⟨#[]⟩⟩, none, 0, wa, wc, x, ⟨⟨by show (0 : Nat) ≤ _; omega, fun r hr => by simp at hr, by show ws.length ≤ _; omega, HWS.out.fit, by show (⟨#[]⟩ : ByteArray).size ≤ 1048576; decide⟩, by show (0 : Nat) ≤ 4; omega, by show ws.length ≤ 4; omega⟩, HX.out, rfl, GOwn.nil _ _, OW313.out.own.mono (by omega), HB13.out⟩
 ·have h0' : ¬ (0 : Int) < (n : Int) := by omega
  go_upto_region 7 with fail
  refine wp_region_held_drew (S := fun w' => w'.cell? ⟨v5.heap.size, 0, none⟩ = some (.int .i64 t1.id) ∧ w'.cell? ⟨v5.heap.size, 1, none⟩ = some (.int .i64 t1.st) ∧ w'.cell? ⟨v5.heap.size, 2, none⟩ = some (.int .i64 t1.snap) ∧ w'.cell? ⟨v5.heap.size, 3, none⟩ = some (.int .i64 t1.cs) ∧ w'.cell? ⟨v5.heap.size, 4, none⟩ = some (.slice ra1 t1.rs.length rc1) ∧ w'.cell? ⟨v5.heap.size, 5, none⟩ = some (.slice wa1 t1.ws.length wc1) ∧ w'.cell? ⟨v5.heap.size, 6, none⟩ = some (.bool t1.out) ∧ w'.cell? ⟨v5.heap.size, 7, none⟩ = some (.string t1.nm) ∧ w'.cell? ⟨v3.heap.size, 0, none⟩ = some (.string x.1) ∧ w'.cell? ⟨v3.heap.size, 1, none⟩ = some (.string x.2.1) ∧ w'.cell? ⟨v3.heap.size, 2, none⟩ = some (.bool x.2.2)) (by kernel_rfl) ⟨B16.out.c0, B16.out.c1, B16.out.c2, B16.out.c3, B16.out.c4, B16.out.c5, B16.out.c6, B16.out.c7, B26.out.c0, B26.out.c1, B26.out.c2⟩ (fun hHeld => ?_)
  (refine tk 0 ?_ rfl (Or.inl ⟨by rfl, ?_⟩) ?_; rotate_left; (focus (intro w h; (try dsimp only at h); go_simp; (try with_reducible rfl))); simp only [Act.put, tA, tB, tD, tE, tF])
  (refine tk 1 ?_ rfl (Or.inl ⟨by rfl, ?_⟩) ?_; rotate_left; (focus (intro w h; (try dsimp only at h); go_simp; (try with_reducible rfl))); simp only [Act.put, tA, tB, tC, tD, tE, tF])
  have R17 := hide (R16.out.below (belowRefl v6).drew)
  have R27 := hide (R26.out.below (belowRefl v6).drew)
  have HB7 := hide (HB6.out.trans ((belowRefl v6).drew.mono HB6.out.size))
  have D7 := hide (D6.out.below (belowRefl v6).drew)
  have B27 := hide (B26.out.below (belowRefl v6).drew)
  have OR17 := hide (OR16.out.below (belowRefl v6).drew)
  have OW17 := hide (OW16.out.below (belowRefl v6).drew)
  have B17 := hide (B16.out.below (belowRefl v6).drew)
  clear R16 R26 HB6 D6 B26 OR16 OW16 B16
  have hd6 : v6.heap.size ≤ v6.drew.heap.size := Nat.le_refl _
  clear hHeld
  generalize v6.drew = u7 at *
  clear D7
  have q0_ := R17.out.c0
  have fq0 := R17.out.fz 0
  have q1_ := R17.out.c1
  have fq1 := R17.out.fz 1
  have q2_ := R17.out.c2
  have fq2 := R17.out.fz 2
  have q3_ := R17.out.c3
  have fq3 := R17.out.fz 3
  have q4_ := R17.out.c4
  have fq4 := R17.out.fz 4
  have q5_ := R17.out.c5
  have fq5 := R17.out.fz 5
  have q6_ := R17.out.c6
  have fq6 := R17.out.fz 6
  have q7_ := R17.out.c7
  have fq7 := R17.out.fz 7
  refine wpAnyH_ready (rs := [2]) (by kernel_rfl) (by simp) ?_
  refine AllReadyH.cons rfl (fun K hK => ?_) AllReadyH.nil
  go_simp
  clear q0_ fq0 q1_ fq1 q2_ fq2 q3_ fq3 q4_ fq4 q5_ fq5 q6_ fq6 q7_ fq7
  have R18 := hide (R17.out.s8P (.int .i64 t1.id) (.int .i64 t1.st) (.int .i64 t1.snap) (.int .i64 t1.cs) (.slice ra1 t1.rs.length rc1) (.slice wa1 t1.ws.length wc1) (.bool t1.out) (.string t1.nm))
  have R28 := hide (R27.out.o8P (ob := w.heap.size) (by omega) (.int .i64 t1.id) (.int .i64 t1.st) (.int .i64 t1.snap) (.int .i64 t1.cs) (.slice ra1 t1.rs.length rc1) (.slice wa1 t1.ws.length wc1) (.bool t1.out) (.string t1.nm))
  have HB8 := hide (below_s8P HB7.out (ob := w.heap.size) (by omega) (.int .i64 t1.id) (.int .i64 t1.st) (.int .i64 t1.snap) (.int .i64 t1.cs) (.slice ra1 t1.rs.length rc1) (.slice wa1 t1.ws.length wc1) (.bool t1.out) (.string t1.nm))
  have B28 := hide (B27.out.o8P (ob := w.heap.size) (by omega) (.int .i64 t1.id) (.int .i64 t1.st) (.int .i64 t1.snap) (.int .i64 t1.cs) (.slice ra1 t1.rs.length rc1) (.slice wa1 t1.ws.length wc1) (.bool t1.out) (.string t1.nm))
  have OR18 : Hid (Lies encR 36 ((((((((u7.setCell ⟨w.heap.size, 0, none⟩ (.int .i64 t1.id)).setCell ⟨w.heap.size, 1, none⟩ (.int .i64 t1.st)).setCell ⟨w.heap.size, 2, none⟩ (.int .i64 t1.snap)).setCell ⟨w.heap.size, 3, none⟩ (.int .i64 t1.cs)).setCell ⟨w.heap.size, 4, none⟩ (.slice ra1 t1.rs.length rc1)).setCell ⟨w.heap.size, 5, none⟩ (.slice wa1 t1.ws.length wc1)).setCell ⟨w.heap.size, 6, none⟩ (.bool t1.out)).setCell ⟨w.heap.size, 7, none⟩ (.string t1.nm)) (v4.heap.size) (v5.heap.size) (.slice ra1 t1.rs.length rc1) (t1.rs)) := ⟨own_s8P OR17.out.own (ob := w.heap.size) (by omega) (.int .i64 t1.id) (.int .i64 t1.st) (.int .i64 t1.snap) (.int .i64 t1.cs) (.slice ra1 t1.rs.length rc1) (.slice wa1 t1.ws.length wc1) (.bool t1.out) (.string t1.nm), OR17.out.up⟩
  have OW18 : Hid (Lies encW 42 ((((((((u7.setCell ⟨w.heap.size, 0, none⟩ (.int .i64 t1.id)).setCell ⟨w.heap.size, 1, none⟩ (.int .i64 t1.st)).setCell ⟨w.heap.size, 2, none⟩ (.int .i64 t1.snap)).setCell ⟨w.heap.size, 3, none⟩ (.int .i64 t1.cs)).setCell ⟨w.heap.size, 4, none⟩ (.slice ra1 t1.rs.length rc1)).setCell ⟨w.heap.size, 5, none⟩ (.slice wa1 t1.ws.length wc1)).setCell ⟨w.heap.size, 6, none⟩ (.bool t1.out)).setCell ⟨w.heap.size, 7, none⟩ (.string t1.nm)) (v4.heap.size) (v5.heap.size) (.slice wa1 t1.ws.length wc1) (t1.ws)) := ⟨own_s8P OW17.out.own (ob := w.heap.size) (by omega) (.int .i64 t1.id) (.int .i64 t1.st) (.int .i64 t1.snap) (.int .i64 t1.cs) (.slice ra1 t1.rs.length rc1) (.slice wa1 t1.ws.length wc1) (.bool t1.out) (.string t1.nm), OW17.out.up⟩
  have B18 := hide (B17.out.o8P (ob := w.heap.size) (by omega) (.int .i64 t1.id) (.int .i64 t1.st) (.int .i64 t1.snap) (.int .i64 t1.cs) (.slice ra1 t1.rs.length rc1) (.slice wa1 t1.ws.length wc1) (.bool t1.out) (.string t1.nm))
  clear R17 R27 HB7 B27 OR17 OW17 B17
  generalize ((((((((u7.setCell ⟨w.heap.size, 0, none⟩ (.int .i64 t1.id)).setCell ⟨w.heap.size, 1, none⟩ (.int .i64 t1.st)).setCell ⟨w.heap.size, 2, none⟩ (.int .i64 t1.snap)).setCell ⟨w.heap.size, 3, none⟩ (.int .i64 t1.cs)).setCell ⟨w.heap.size, 4, none⟩ (.slice ra1 t1.rs.length rc1)).setCell ⟨w.heap.size, 5, none⟩ (.slice wa1 t1.ws.length wc1)).setCell ⟨w.heap.size, 6, none⟩ (.bool t1.out)).setCell ⟨w.heap.size, 7, none⟩ (.string t1.nm)) = u8 at *
  (try go_wp2_with fail)
  refine hK.out _ _ ⟨B18.out.c0, B18.out.c1, B18.out.c2, B18.out.c3, B18.out.c4, B18.out.c5, B18.out.c6, B18.out.c7, B28.out.c0, B28.out.c1, B28.out.c2⟩ (fun hHeld => ?_)
  clear hK K
  have p0_ := R28.out.c0
  have fp0 := R28.out.fz 0
  have p1_ := R28.out.c1
  have fp1 := R28.out.fz 1
  have p2_ := R28.out.c2
  have fp2 := R28.out.fz 2
  refine wpAnyH_ready (rs := [3]) (by kernel_rfl) (by simp) ?_
  refine AllReadyH.cons rfl (fun K hK => ?_) AllReadyH.nil
  go_simp
  clear p0_ fp0 p1_ fp1 p2_ fp2
  have R19 : Hid (Bx (u8.setCell ⟨w.heap.size + 1, 0, none⟩ (.string x.1)) (w.heap.size) [.int .i64 t1.id, .int .i64 t1.st, .int .i64 t1.snap, .int .i64 t1.cs, .slice ra1 t1.rs.length rc1, .slice wa1 t1.ws.length wc1, .bool t1.out, .string t1.nm]) := R18.out.setO (p := ⟨w.heap.size + 1, 0, none⟩) (by show w.heap.size + 1 ≠ w.heap.size; omega) _
  have R29 : Hid (Bx (u8.setCell ⟨w.heap.size + 1, 0, none⟩ (.string x.1)) (w.heap.size + 1) [.string x.1, .string ⟨#[]⟩, .bool false]) := R28.out.set 0 _
  have HB9 : Hid (Below w.heap.size w (u8.setCell ⟨w.heap.size + 1, 0, none⟩ (.string x.1))) := HB8.out.setCell (by show w.heap.size ≤ w.heap.size + 1; omega) _
  have B29 : Hid (Bx (u8.setCell ⟨w.heap.size + 1, 0, none⟩ (.string x.1)) (v3.heap.size) [.string x.1, .string x.2.1, .bool x.2.2]) := B28.out.setO (p := ⟨w.heap.size + 1, 0, none⟩) (by show w.heap.size + 1 ≠ v3.heap.size; omega) _
  have OR19 : Hid (Lies encR 36 (u8.setCell ⟨w.heap.size + 1, 0, none⟩ (.string x.1)) (v4.heap.size) (v5.heap.size) (.slice ra1 t1.rs.length rc1) (t1.rs)) := OR18.out.setxP (a := ⟨w.heap.size + 1, 0, none⟩) (fun b hb => (by have := OR18.out.lo b hb; show w.heap.size + 1 ≠ b; omega)) _
  have OW19 : Hid (Lies encW 42 (u8.setCell ⟨w.heap.size + 1, 0, none⟩ (.string x.1)) (v4.heap.size) (v5.heap.size) (.slice wa1 t1.ws.length wc1) (t1.ws)) := OW18.out.setxP (a := ⟨w.heap.size + 1, 0, none⟩) (fun b hb => (by have := OW18.out.lo b hb; show w.heap.size + 1 ≠ b; omega)) _
  have B19 : Hid (Bx (u8.setCell ⟨w.heap.size + 1, 0, none⟩ (.string x.1)) (v5.heap.size) [.int .i64 t1.id, .int .i64 t1.st, .int .i64 t1.snap, .int .i64 t1.cs, .slice ra1 t1.rs.length rc1, .slice wa1 t1.ws.length wc1, .bool t1.out, .string t1.nm]) := B18.out.setO (p := ⟨w.heap.size + 1, 0, none⟩) (by show w.heap.size + 1 ≠ v5.heap.size; omega) _
  clear R18 R28 HB8 B28 OR18 OW18 B18
  have R110 : Hid (Bx ((u8.setCell ⟨w.heap.size + 1, 0, none⟩ (.string x.1)).setCell ⟨w.heap.size + 1, 1, none⟩ (.string x.2.1)) (w.heap.size) [.int .i64 t1.id, .int .i64 t1.st, .int .i64 t1.snap, .int .i64 t1.cs, .slice ra1 t1.rs.length rc1, .slice wa1 t1.ws.length wc1, .bool t1.out, .string t1.nm]) := R19.out.setO (p := ⟨w.heap.size + 1, 1, none⟩) (by show w.heap.size + 1 ≠ w.heap.size; omega) _
  have R210 : Hid (Bx ((u8.setCell ⟨w.heap.size + 1, 0, none⟩ (.string x.1)).setCell ⟨w.heap.size + 1, 1, none⟩ (.string x.2.1)) (w.heap.size + 1) [.string x.1, .string x.2.1, .bool false]) := R29.out.set 1 _
  have HB10 : Hid (Below w.heap.size w ((u8.setCell ⟨w.heap.size + 1, 0, none⟩ (.string x.1)).setCell ⟨w.heap.size + 1, 1, none⟩ (.string x.2.1))) := HB9.out.setCell (by show w.heap.size ≤ w.heap.size + 1; omega) _
  have B210 : Hid (Bx ((u8.setCell ⟨w.heap.size + 1, 0, none⟩ (.string x.1)).setCell ⟨w.heap.size + 1, 1, none⟩ (.string x.2.1)) (v3.heap.size) [.string x.1, .string x.2.1, .bool x.2.2]) := B29.out.setO (p := ⟨w.heap.size + 1, 1, none⟩) (by show w.heap.size + 1 ≠ v3.heap.size; omega) _
  have OR110 : Hid (Lies encR 36 ((u8.setCell ⟨w.heap.size + 1, 0, none⟩ (.string x.1)).setCell ⟨w.heap.size + 1, 1, none⟩ (.string x.2.1)) (v4.heap.size) (v5.heap.size) (.slice ra1 t1.rs.length rc1) (t1.rs)) := OR19.out.setxP (a := ⟨w.heap.size + 1, 1, none⟩) (fun b hb => (by have := OR19.out.lo b hb; show w.heap.size + 1 ≠ b; omega)) _
  have OW110 : Hid (Lies encW 42 ((u8.setCell ⟨w.heap.size + 1, 0, none⟩ (.string x.1)).setCell ⟨w.heap.size + 1, 1, none⟩ (.string x.2.1)) (v4.heap.size) (v5.heap.size) (.slice wa1 t1.ws.length wc1) (t1.ws)) := OW19.out.setxP (a := ⟨w.heap.size + 1, 1, none⟩) (fun b hb => (by have := OW19.out.lo b hb; show w.heap.size + 1 ≠ b; omega)) _
  have B110 : Hid (Bx ((u8.setCell ⟨w.heap.size + 1, 0, none⟩ (.string x.1)).setCell ⟨w.heap.size + 1, 1, none⟩ (.string x.2.1)) (v5.heap.size) [.int .i64 t1.id, .int .i64 t1.st, .int .i64 t1.snap, .int .i64 t1.cs, .slice ra1 t1.rs.length rc1, .slice wa1 t1.ws.length wc1, .bool t1.out, .string t1.nm]) := B19.out.setO (p := ⟨w.heap.size + 1, 1, none⟩) (by show w.heap.size + 1 ≠ v5.heap.size; omega) _
  clear R19 R29 HB9 B29 OR19 OW19 B19
  have R111 : Hid (Bx (((u8.setCell ⟨w.heap.size + 1, 0, none⟩ (.string x.1)).setCell ⟨w.heap.size + 1, 1, none⟩ (.string x.2.1)).setCell ⟨w.heap.size + 1, 2, none⟩ (.bool x.2.2)) (w.heap.size) [.int .i64 t1.id, .int .i64 t1.st, .int .i64 t1.snap, .int .i64 t1.cs, .slice ra1 t1.rs.length rc1, .slice wa1 t1.ws.length wc1, .bool t1.out, .string t1.nm]) := R110.out.setO (p := ⟨w.heap.size + 1, 2, none⟩) (by show w.heap.size + 1 ≠ w.heap.size; omega) _
  have R211 : Hid (Bx (((u8.setCell ⟨w.heap.size + 1, 0, none⟩ (.string x.1)).setCell ⟨w.heap.size + 1, 1, none⟩ (.string x.2.1)).setCell ⟨w.heap.size + 1, 2, none⟩ (.bool x.2.2)) (w.heap.size + 1) [.string x.1, .string x.2.1, .bool x.2.2]) := R210.out.set 2 _
  have HB11 : Hid (Below w.heap.size w (((u8.setCell ⟨w.heap.size + 1, 0, none⟩ (.string x.1)).setCell ⟨w.heap.size + 1, 1, none⟩ (.string x.2.1)).setCell ⟨w.heap.size + 1, 2, none⟩ (.bool x.2.2))) := HB10.out.setCell (by show w.heap.size ≤ w.heap.size + 1; omega) _
  have B211 : Hid (Bx (((u8.setCell ⟨w.heap.size + 1, 0, none⟩ (.string x.1)).setCell ⟨w.heap.size + 1, 1, none⟩ (.string x.2.1)).setCell ⟨w.heap.size + 1, 2, none⟩ (.bool x.2.2)) (v3.heap.size) [.string x.1, .string x.2.1, .bool x.2.2]) := B210.out.setO (p := ⟨w.heap.size + 1, 2, none⟩) (by show w.heap.size + 1 ≠ v3.heap.size; omega) _
  have OR111 : Hid (Lies encR 36 (((u8.setCell ⟨w.heap.size + 1, 0, none⟩ (.string x.1)).setCell ⟨w.heap.size + 1, 1, none⟩ (.string x.2.1)).setCell ⟨w.heap.size + 1, 2, none⟩ (.bool x.2.2)) (v4.heap.size) (v5.heap.size) (.slice ra1 t1.rs.length rc1) (t1.rs)) := OR110.out.setxP (a := ⟨w.heap.size + 1, 2, none⟩) (fun b hb => (by have := OR110.out.lo b hb; show w.heap.size + 1 ≠ b; omega)) _
  have OW111 : Hid (Lies encW 42 (((u8.setCell ⟨w.heap.size + 1, 0, none⟩ (.string x.1)).setCell ⟨w.heap.size + 1, 1, none⟩ (.string x.2.1)).setCell ⟨w.heap.size + 1, 2, none⟩ (.bool x.2.2)) (v4.heap.size) (v5.heap.size) (.slice wa1 t1.ws.length wc1) (t1.ws)) := OW110.out.setxP (a := ⟨w.heap.size + 1, 2, none⟩) (fun b hb => (by have := OW110.out.lo b hb; show w.heap.size + 1 ≠ b; omega)) _
  have B111 : Hid (Bx (((u8.setCell ⟨w.heap.size + 1, 0, none⟩ (.string x.1)).setCell ⟨w.heap.size + 1, 1, none⟩ (.string x.2.1)).setCell ⟨w.heap.size + 1, 2, none⟩ (.bool x.2.2)) (v5.heap.size) [.int .i64 t1.id, .int .i64 t1.st, .int .i64 t1.snap, .int .i64 t1.cs, .slice ra1 t1.rs.length rc1, .slice wa1 t1.ws.length wc1, .bool t1.out, .string t1.nm]) := B110.out.setO (p := ⟨w.heap.size + 1, 2, none⟩) (by show w.heap.size + 1 ≠ v5.heap.size; omega) _
  clear R110 R210 HB10 B210 OR110 OW110 B110
  generalize (((u8.setCell ⟨w.heap.size + 1, 0, none⟩ (.string x.1)).setCell ⟨w.heap.size + 1, 1, none⟩ (.string x.2.1)).setCell ⟨w.heap.size + 1, 2, none⟩ (.bool x.2.2)) = u9 at *
  (try go_wp2_with fail)
  refine hK.out _ _ ⟨B111.out.c0, B111.out.c1, B111.out.c2, B111.out.c3, B111.out.c4, B111.out.c5, B111.out.c6, B111.out.c7, B211.out.c0, B211.out.c1, B211.out.c2⟩ (fun hHeld => ?_)
  clear hK K
  refine wpAnyH_done (by kernel_rfl) ?_ _
  go_wp2
  have q0_ := R111.out.c0
  have fq0 := R111.out.fz 0
  have q1_ := R111.out.c1
  have fq1 := R111.out.fz 1
  have q2_ := R111.out.c2
  have fq2 := R111.out.fz 2
  have q3_ := R111.out.c3
  have fq3 := R111.out.fz 3
  have q4_ := R111.out.c4
  have fq4 := R111.out.fz 4
  have q5_ := R111.out.c5
  have fq5 := R111.out.fz 5
  have q6_ := R111.out.c6
  have fq6 := R111.out.fz 6
  have q7_ := R111.out.c7
  have fq7 := R111.out.fz 7
  have p0_ := R211.out.c0
  have p1_ := R211.out.c1
  have p2_ := R211.out.c2
  refine bodyPost_ret (v := .tuple #[.agg #[.int .i64 t1.id, .int .i64 t1.st, .int .i64 t1.snap, .int .i64 t1.cs, .slice ra1 t1.rs.length rc1, .slice wa1 t1.ws.length wc1, .bool t1.out, .string t1.nm], .agg #[.string x.1, .string x.2.1, .bool x.2.2]]) (by simp [results, Tryz.results13, go_sem, q0_, q1_, q2_, q3_, q4_, q5_, q6_, q7_, p0_, p1_, p2_]) rfl ⟨t1, ra1, rc1, wa1, wc1, x, HT1.out, HX.out, rfl, OR111.out.own.mono (by omega), OW111.out.own.mono (by omega), HB11.out⟩

end Go.Proofs.YtnljmdodpffmoaaGreat
