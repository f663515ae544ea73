/- Two drawn ones: DrawTxns, l08Pair, DrawAhead. -/
import Derived.Test.YtbajpnbodhhmjaaGreatPs01
import Derived.Test.YtbajpnbodhhmjaaGreatPs31
import Derived.Test.YtbajpnbodhhmjaaGreatProg
import Derived.WalkKit
import Derived.WalkSpells
import Derived.WalkLawsBesides
import Derived.Deep.QuietTactic
import Derived.BigQuiet
import Derived.Deep.RegionHeld3
import Derived.Deep.DrawnRows
import Derived.Deep.AppendLies
import Derived.Test.YtbajpnbodhhmjaaGreatPs02
import Derived.Sort.OwnSorted
import Derived.Lib.RowBridge
import Derived.Test.YtbajpnbodhhmjaaGreatPs08
import Derived.Deep.RegionHeld
import Derived.Test.YtbajpnbodhhmjaaGreatPs03
import Derived.Maps.OwnSet
import Derived.StringKeys
import Derived.Test.YtbajpnbodhhmjaaGreatPs05
import Derived.Test.YtbajpnbodhhmjaaGreatPs09
namespace Go.Proofs.YtbajpnbodhhmjaaGreat
open Go.RowKit
open KM
attribute [local go_sem ↓] Go.wp_at_zero Go.wp_at_succ

set_option maxRecDepth 100000 in
set_option maxHeartbeats 4000000 in
theorem dPair (len cap : Nat) (a : Option Addr) (hl : len ≤ 1048576) (w : World) (hr : CodeRow w a len) :
  Calls Tryz.prog 32 #[.slice a len cap] w fun e w' => ∃ x y : Ta, TxA x.t ∧ TxA y.t ∧  e = .returned (.tuple #[.agg #[.int .i64 x.t.id, .int .i64 x.t.st, .int .i64 x.t.snap, .int .i64 x.t.cs, .slice x.ra x.t.rs.length x.rc, .slice x.wa x.t.ws.length x.wc, .bool x.t.out, .string x.t.nm], .agg #[.int .i64 y.t.id, .int .i64 y.t.st, .int .i64 y.t.snap, .int .i64 y.t.cs, .slice y.ra y.t.rs.length y.rc, .slice y.wa y.t.ws.length y.wc, .bool y.t.out, .string y.t.nm]]) ∧ TOwn w' w.heap.size x ∧ TOwn w' w.heap.size y ∧ Below w.heap.size w w' := by
 have R10 : Hid (Bx ((w.alloc (.cells #[.int .i64 0, .int .i64 0, .int .i64 0, .int .i64 0, .slice none 0 0, .slice none 0 0, .bool false, .string ⟨#[]⟩] 30)).alloc (.cells #[.int .i64 0, .int .i64 0, .int .i64 0, .int .i64 0, .slice none 0 0, .slice none 0 0, .bool false, .string ⟨#[]⟩] 30)) (w.heap.size) [.int .i64 0, .int .i64 0, .int .i64 0, .int .i64 0, .slice none 0 0, .slice none 0 0, .bool false, .string ⟨#[]⟩]) := (Bx.new w [.int .i64 0, .int .i64 0, .int .i64 0, .int .i64 0, .slice none 0 0, .slice none 0 0, .bool false, .string ⟨#[]⟩] 30).alloc _
 have R20 : Hid (Bx ((w.alloc (.cells #[.int .i64 0, .int .i64 0, .int .i64 0, .int .i64 0, .slice none 0 0, .slice none 0 0, .bool false, .string ⟨#[]⟩] 30)).alloc (.cells #[.int .i64 0, .int .i64 0, .int .i64 0, .int .i64 0, .slice none 0 0, .slice none 0 0, .bool false, .string ⟨#[]⟩] 30)) (w.heap.size + 1) [.int .i64 0, .int .i64 0, .int .i64 0, .int .i64 0, .slice none 0 0, .slice none 0 0, .bool false, .string ⟨#[]⟩]) := by have h := Bx.new (w.alloc (.cells #[.int .i64 0, .int .i64 0, .int .i64 0, .int .i64 0, .slice none 0 0, .slice none 0 0, .bool false, .string ⟨#[]⟩] 30)) [.int .i64 0, .int .i64 0, .int .i64 0, .int .i64 0, .slice none 0 0, .slice none 0 0, .bool false, .string ⟨#[]⟩] 30; simpa [Hid] using h
 have HB0 : Hid (Below w.heap.size w ((w.alloc (.cells #[.int .i64 0, .int .i64 0, .int .i64 0, .int .i64 0, .slice none 0 0, .slice none 0 0, .bool false, .string ⟨#[]⟩] 30)).alloc (.cells #[.int .i64 0, .int .i64 0, .int .i64 0, .int .i64 0, .slice none 0 0, .slice none 0 0, .bool false, .string ⟨#[]⟩] 30))) := ((belowRefl w).alloc (Nat.le_refl _) _).alloc (by simp) _
 have HR : Hid (CodeRow ((w.alloc (.cells #[.int .i64 0, .int .i64 0, .int .i64 0, .int .i64 0, .slice none 0 0, .slice none 0 0, .bool false, .string ⟨#[]⟩] 30)).alloc (.cells #[.int .i64 0, .int .i64 0, .int .i64 0, .int .i64 0, .slice none 0 0, .slice none 0 0, .bool false, .string ⟨#[]⟩] 30)) a len) := hr.below HB0.out
 have hz0 : w.heap.size + 1 < ((w.alloc (.cells #[.int .i64 0, .int .i64 0, .int .i64 0, .int .i64 0, .slice none 0 0, .slice none 0 0, .bool false, .string ⟨#[]⟩] 30)).alloc (.cells #[.int .i64 0, .int .i64 0, .int .i64 0, .int .i64 0, .slice none 0 0, .slice none 0 0, .bool false, .string ⟨#[]⟩] 30)).heap.size := by simp
 clear hr
 go_enter Tryz.func32, Tryz.ntmps32
 go_wp2_with fail
 generalize ((w.alloc (.cells #[.int .i64 0, .int .i64 0, .int .i64 0, .int .i64 0, .slice none 0 0, .slice none 0 0, .bool false, .string ⟨#[]⟩] 30)).alloc (.cells #[.int .i64 0, .int .i64 0, .int .i64 0, .int .i64 0, .slice none 0 0, .slice none 0 0, .bool false, .string ⟨#[]⟩] 30)) = v0 at *
 refine (drNew len cap a hl _ HR.out).mono ?_
 rintro e v1 ⟨rfl, hc, hb⟩
 have hz1 : v0.heap.size ≤ v1.heap.size := hb.size
 have hlc := hc.lt
 have R11 : Hid (Bx v1 (w.heap.size) [.int .i64 0, .int .i64 0, .int .i64 0, .int .i64 0, .slice none 0 0, .slice none 0 0, .bool false, .string ⟨#[]⟩]) := R10.out.below hb
 have R21 : Hid (Bx v1 (w.heap.size + 1) [.int .i64 0, .int .i64 0, .int .i64 0, .int .i64 0, .slice none 0 0, .slice none 0 0, .bool false, .string ⟨#[]⟩]) := R20.out.below hb
 have HB1 : Hid (Below w.heap.size w v1) := HB0.out.trans (hb.mono HB0.out.size)
 clear R10 R20 HB0
 have D1 : Hid (Dn v1 v1 (v0.heap.size) a len cap) := Dn.start hc
 clear hb hc HR
 go_wp2_with fail
 refine (drAnyT v0.heap.size len cap a _ D1.out.c).mono ?_
 rintro e v2 ⟨t1, ra1, rc1, wa1, wc1, ht, rfl, ho1, ho2, d⟩
 have HT1 := hide ht
 have hsv2 := d.size
 have R12 : Hid (Bx v2 (w.heap.size) [.int .i64 0, .int .i64 0, .int .i64 0, .int .i64 0, .slice none 0 0, .slice none 0 0, .bool false, .string ⟨#[]⟩]) := R11.out.keptD d (by omega)
 have R22 : Hid (Bx v2 (w.heap.size + 1) [.int .i64 0, .int .i64 0, .int .i64 0, .int .i64 0, .slice none 0 0, .slice none 0 0, .bool false, .string ⟨#[]⟩]) := R21.out.keptD d (by omega)
 have HB2 : Hid (Below w.heap.size w v2) := d.out HB1.out (by omega) (by omega)
 have D2 : Hid (Dn v1 v2 (v0.heap.size) a len cap) := D1.out.step d
 clear R11 R21 HB1 D1
 clear d ht
 have OR12 : Hid (Lies encR 35 v2 (v1.heap.size) (v2.heap.size) (.slice ra1 t1.rs.length rc1) (t1.rs)) := Lies.of ho1
 have OW12 : Hid (Lies encW 55 v2 (v1.heap.size) (v2.heap.size) (.slice wa1 t1.ws.length wc1) (t1.ws)) := Lies.of ho2
 clear ho1 ho2
 go_upto_region 3 with fail
 have hb : Below v2.heap.size v2 (v2.alloc (.cells #[.int .i64 t1.id, .int .i64 t1.st, .int .i64 t1.snap, .int .i64 t1.cs, .slice ra1 t1.rs.length rc1, .slice wa1 t1.ws.length wc1, .bool t1.out, .string t1.nm] 30)) := (belowRefl v2).alloc (Nat.le_refl _) _
 have R13 : Hid (Bx (v2.alloc (.cells #[.int .i64 t1.id, .int .i64 t1.st, .int .i64 t1.snap, .int .i64 t1.cs, .slice ra1 t1.rs.length rc1, .slice wa1 t1.ws.length wc1, .bool t1.out, .string t1.nm] 30)) (w.heap.size) [.int .i64 0, .int .i64 0, .int .i64 0, .int .i64 0, .slice none 0 0, .slice none 0 0, .bool false, .string ⟨#[]⟩]) := R12.out.below hb
 have R23 : Hid (Bx (v2.alloc (.cells #[.int .i64 t1.id, .int .i64 t1.st, .int .i64 t1.snap, .int .i64 t1.cs, .slice ra1 t1.rs.length rc1, .slice wa1 t1.ws.length wc1, .bool t1.out, .string t1.nm] 30)) (w.heap.size + 1) [.int .i64 0, .int .i64 0, .int .i64 0, .int .i64 0, .slice none 0 0, .slice none 0 0, .bool false, .string ⟨#[]⟩]) := R22.out.below hb
 have HB3 : Hid (Below w.heap.size w (v2.alloc (.cells #[.int .i64 t1.id, .int .i64 t1.st, .int .i64 t1.snap, .int .i64 t1.cs, .slice ra1 t1.rs.length rc1, .slice wa1 t1.ws.length wc1, .bool t1.out, .string t1.nm] 30))) := HB2.out.trans (hb.mono HB2.out.size)
 have D3 : Hid (Dn v1 (v2.alloc (.cells #[.int .i64 t1.id, .int .i64 t1.st, .int .i64 t1.snap, .int .i64 t1.cs, .slice ra1 t1.rs.length rc1, .slice wa1 t1.ws.length wc1, .bool t1.out, .string t1.nm] 30)) (v0.heap.size) a len cap) := D2.out.below hb
 have OR13 : Hid (Lies encR 35 (v2.alloc (.cells #[.int .i64 t1.id, .int .i64 t1.st, .int .i64 t1.snap, .int .i64 t1.cs, .slice ra1 t1.rs.length rc1, .slice wa1 t1.ws.length wc1, .bool t1.out, .string t1.nm] 30)) (v1.heap.size) (v2.heap.size) (.slice ra1 t1.rs.length rc1) (t1.rs)) := OR12.out.below hb
 have OW13 : Hid (Lies encW 55 (v2.alloc (.cells #[.int .i64 t1.id, .int .i64 t1.st, .int .i64 t1.snap, .int .i64 t1.cs, .slice ra1 t1.rs.length rc1, .slice wa1 t1.ws.length wc1, .bool t1.out, .string t1.nm] 30)) (v1.heap.size) (v2.heap.size) (.slice wa1 t1.ws.length wc1) (t1.ws)) := OW12.out.below hb
 clear R12 R22 HB2 D2 OR12 OW12
 have B13 : Hid (Bx (v2.alloc (.cells #[.int .i64 t1.id, .int .i64 t1.st, .int .i64 t1.snap, .int .i64 t1.cs, .slice ra1 t1.rs.length rc1, .slice wa1 t1.ws.length wc1, .bool t1.out, .string t1.nm] 30)) (v2.heap.size) [.int .i64 t1.id, .int .i64 t1.st, .int .i64 t1.snap, .int .i64 t1.cs, .slice ra1 t1.rs.length rc1, .slice wa1 t1.ws.length wc1, .bool t1.out, .string t1.nm]) := Bx.new v2 [.int .i64 t1.id, .int .i64 t1.st, .int .i64 t1.snap, .int .i64 t1.cs, .slice ra1 t1.rs.length rc1, .slice wa1 t1.ws.length wc1, .bool t1.out, .string t1.nm] 30
 clear hb
 generalize (v2.alloc (.cells #[.int .i64 t1.id, .int .i64 t1.st, .int .i64 t1.snap, .int .i64 t1.cs, .slice ra1 t1.rs.length rc1, .slice wa1 t1.ws.length wc1, .bool t1.out, .string t1.nm] 30)) = v3 at *
 have hlv3 : v2.heap.size < v3.heap.size := B13.out.lt
 refine wp_region_held_drew (S := fun w' => w'.cell? ⟨v2.heap.size, 0, none⟩ = some (.int .i64 t1.id) ∧ w'.cell? ⟨v2.heap.size, 1, none⟩ = some (.int .i64 t1.st) ∧ w'.cell? ⟨v2.heap.size, 2, none⟩ = some (.int .i64 t1.snap) ∧ w'.cell? ⟨v2.heap.size, 3, none⟩ = some (.int .i64 t1.cs) ∧ w'.cell? ⟨v2.heap.size, 4, none⟩ = some (.slice ra1 t1.rs.length rc1) ∧ w'.cell? ⟨v2.heap.size, 5, none⟩ = some (.slice wa1 t1.ws.length wc1) ∧ w'.cell? ⟨v2.heap.size, 6, none⟩ = some (.bool t1.out) ∧ w'.cell? ⟨v2.heap.size, 7, none⟩ = some (.string t1.nm)) (by kernel_rfl) ⟨B13.out.c0, B13.out.c1, B13.out.c2, B13.out.c3, B13.out.c4, B13.out.c5, B13.out.c6, B13.out.c7⟩ (fun hHeld => ?_)
 (refine tk 0 ?_ rfl (Or.inl ⟨by rfl, ?_⟩) ?_; rotate_left; (focus (intro w h; (try dsimp only at h); go_simp; (try with_reducible rfl))); simp only [Act.put, tA, tB, tD, tE, tF])
 (refine tk 1 ?_ rfl (Or.inl ⟨by rfl, ?_⟩) ?_; rotate_left; (focus (intro w h; (try dsimp only at h); go_simp; (try with_reducible rfl))); simp only [Act.put, tA, tB, tC, tD, tE, tF])
 refine wpAnyH_ready (rs := [2]) (by kernel_rfl) (by simp) ?_
 refine AllReadyH.cons rfl (fun K hK => ?_) AllReadyH.nil
 go_simp
 go_wp2_with fail
 have R14 : Hid (Bx v3.drew (w.heap.size) [.int .i64 0, .int .i64 0, .int .i64 0, .int .i64 0, .slice none 0 0, .slice none 0 0, .bool false, .string ⟨#[]⟩]) := R13.out.below (belowRefl v3).drew
 have R24 : Hid (Bx v3.drew (w.heap.size + 1) [.int .i64 0, .int .i64 0, .int .i64 0, .int .i64 0, .slice none 0 0, .slice none 0 0, .bool false, .string ⟨#[]⟩]) := R23.out.below (belowRefl v3).drew
 have HB4 : Hid (Below w.heap.size w v3.drew) := HB3.out.trans ((belowRefl v3).drew.mono HB3.out.size)
 have D4 : Hid (Dn v1 v3.drew (v0.heap.size) a len cap) := D3.out.below (belowRefl v3).drew
 have OR14 : Hid (Lies encR 35 v3.drew (v1.heap.size) (v2.heap.size) (.slice ra1 t1.rs.length rc1) (t1.rs)) := OR13.out.below (belowRefl v3).drew
 have OW14 : Hid (Lies encW 55 v3.drew (v1.heap.size) (v2.heap.size) (.slice wa1 t1.ws.length wc1) (t1.ws)) := OW13.out.below (belowRefl v3).drew
 have B14 : Hid (Bx v3.drew (v2.heap.size) [.int .i64 t1.id, .int .i64 t1.st, .int .i64 t1.snap, .int .i64 t1.cs, .slice ra1 t1.rs.length rc1, .slice wa1 t1.ws.length wc1, .bool t1.out, .string t1.nm]) := B13.out.below (belowRefl v3).drew
 clear R13 R23 HB3 D3 OR13 OW13 B13
 have hd6 : v3.heap.size ≤ v3.drew.heap.size := Nat.le_refl _
 clear hHeld
 generalize v3.drew = v4 at *
 refine (drAnyT v0.heap.size len cap a _ D4.out.c).mono ?_
 rintro e v5 ⟨t2, ra2, rc2, wa2, wc2, ht, rfl, ho1, ho2, d⟩
 have HT2 := hide ht
 have hsv5 := d.size
 have R15 : Hid (Bx v5 (w.heap.size) [.int .i64 0, .int .i64 0, .int .i64 0, .int .i64 0, .slice none 0 0, .slice none 0 0, .bool false, .string ⟨#[]⟩]) := R14.out.keptD d (by omega)
 have R25 : Hid (Bx v5 (w.heap.size + 1) [.int .i64 0, .int .i64 0, .int .i64 0, .int .i64 0, .slice none 0 0, .slice none 0 0, .bool false, .string ⟨#[]⟩]) := R24.out.keptD d (by omega)
 have HB5 : Hid (Below w.heap.size w v5) := d.out HB4.out (by omega) (by omega)
 have D5 : Hid (Dn v1 v5 (v0.heap.size) a len cap) := D4.out.step d
 have OR15 : Hid (Lies encR 35 v5 (v1.heap.size) (v2.heap.size) (.slice ra1 t1.rs.length rc1) (t1.rs)) := ⟨OR14.out.own.keptD d (by omega), OR14.out.up⟩
 have OW15 : Hid (Lies encW 55 v5 (v1.heap.size) (v2.heap.size) (.slice wa1 t1.ws.length wc1) (t1.ws)) := ⟨OW14.out.own.keptD d (by omega), OW14.out.up⟩
 have B15 : Hid (Bx v5 (v2.heap.size) [.int .i64 t1.id, .int .i64 t1.st, .int .i64 t1.snap, .int .i64 t1.cs, .slice ra1 t1.rs.length rc1, .slice wa1 t1.ws.length wc1, .bool t1.out, .string t1.nm]) := B14.out.keptD d (by omega)
 clear R14 R24 HB4 D4 OR14 OW14 B14
 clear d ht
 have OR25 : Hid (Lies encR 35 v5 (v4.heap.size) (v5.heap.size) (.slice ra2 t2.rs.length rc2) (t2.rs)) := Lies.of ho1
 have OW25 : Hid (Lies encW 55 v5 (v4.heap.size) (v5.heap.size) (.slice wa2 t2.ws.length wc2) (t2.ws)) := Lies.of ho2
 clear ho1 ho2
 go_wp2_with fail
 refine hK.out _ _ ⟨B15.out.c0, B15.out.c1, B15.out.c2, B15.out.c3, B15.out.c4, B15.out.c5, B15.out.c6, B15.out.c7⟩ (fun hHeld => ?_)
 clear hK K
 clear D5
 have q0_ := R15.out.c0
 have fq0 := R15.out.fz 0
 have q1_ := R15.out.c1
 have fq1 := R15.out.fz 1
 have q2_ := R15.out.c2
 have fq2 := R15.out.fz 2
 have q3_ := R15.out.c3
 have fq3 := R15.out.fz 3
 have q4_ := R15.out.c4
 have fq4 := R15.out.fz 4
 have q5_ := R15.out.c5
 have fq5 := R15.out.fz 5
 have q6_ := R15.out.c6
 have fq6 := R15.out.fz 6
 have q7_ := R15.out.c7
 have fq7 := R15.out.fz 7
 refine wpAnyH_ready (rs := [3]) (by kernel_rfl) (by simp) ?_
 refine AllReadyH.cons rfl (fun K hK => ?_) AllReadyH.nil
 go_simp
 clear q0_ fq0 q1_ fq1 q2_ fq2 q3_ fq3 q4_ fq4 q5_ fq5 q6_ fq6 q7_ fq7
 have R16 : Hid (Bx ((((((((v5.setCell ⟨w.heap.size, 0, none⟩ (.int .i64 t1.id)).setCell ⟨w.heap.size, 1, none⟩ (.int .i64 t1.st)).setCell ⟨w.heap.size, 2, none⟩ (.int .i64 t1.snap)).setCell ⟨w.heap.size, 3, none⟩ (.int .i64 t1.cs)).setCell ⟨w.heap.size, 4, none⟩ (.slice ra1 t1.rs.length rc1)).setCell ⟨w.heap.size, 5, none⟩ (.slice wa1 t1.ws.length wc1)).setCell ⟨w.heap.size, 6, none⟩ (.bool t1.out)).setCell ⟨w.heap.size, 7, none⟩ (.string t1.nm)) (w.heap.size) [.int .i64 t1.id, .int .i64 t1.st, .int .i64 t1.snap, .int .i64 t1.cs, .slice ra1 t1.rs.length rc1, .slice wa1 t1.ws.length wc1, .bool t1.out, .string t1.nm]) := R15.out.s8P (.int .i64 t1.id) (.int .i64 t1.st) (.int .i64 t1.snap) (.int .i64 t1.cs) (.slice ra1 t1.rs.length rc1) (.slice wa1 t1.ws.length wc1) (.bool t1.out) (.string t1.nm)
 have R26 : Hid (Bx ((((((((v5.setCell ⟨w.heap.size, 0, none⟩ (.int .i64 t1.id)).setCell ⟨w.heap.size, 1, none⟩ (.int .i64 t1.st)).setCell ⟨w.heap.size, 2, none⟩ (.int .i64 t1.snap)).setCell ⟨w.heap.size, 3, none⟩ (.int .i64 t1.cs)).setCell ⟨w.heap.size, 4, none⟩ (.slice ra1 t1.rs.length rc1)).setCell ⟨w.heap.size, 5, none⟩ (.slice wa1 t1.ws.length wc1)).setCell ⟨w.heap.size, 6, none⟩ (.bool t1.out)).setCell ⟨w.heap.size, 7, none⟩ (.string t1.nm)) (w.heap.size + 1) [.int .i64 0, .int .i64 0, .int .i64 0, .int .i64 0, .slice none 0 0, .slice none 0 0, .bool false, .string ⟨#[]⟩]) := R25.out.o8P (ob := w.heap.size) (by omega) (.int .i64 t1.id) (.int .i64 t1.st) (.int .i64 t1.snap) (.int .i64 t1.cs) (.slice ra1 t1.rs.length rc1) (.slice wa1 t1.ws.length wc1) (.bool t1.out) (.string t1.nm)
 have HB6 : Hid (Below w.heap.size w ((((((((v5.setCell ⟨w.heap.size, 0, none⟩ (.int .i64 t1.id)).setCell ⟨w.heap.size, 1, none⟩ (.int .i64 t1.st)).setCell ⟨w.heap.size, 2, none⟩ (.int .i64 t1.snap)).setCell ⟨w.heap.size, 3, none⟩ (.int .i64 t1.cs)).setCell ⟨w.heap.size, 4, none⟩ (.slice ra1 t1.rs.length rc1)).setCell ⟨w.heap.size, 5, none⟩ (.slice wa1 t1.ws.length wc1)).setCell ⟨w.heap.size, 6, none⟩ (.bool t1.out)).setCell ⟨w.heap.size, 7, none⟩ (.string t1.nm))) := below_s8P HB5.out (ob := w.heap.size) (by omega) (.int .i64 t1.id) (.int .i64 t1.st) (.int .i64 t1.snap) (.int .i64 t1.cs) (.slice ra1 t1.rs.length rc1) (.slice wa1 t1.ws.length wc1) (.bool t1.out) (.string t1.nm)
 have OR16 : Hid (Lies encR 35 ((((((((v5.setCell ⟨w.heap.size, 0, none⟩ (.int .i64 t1.id)).setCell ⟨w.heap.size, 1, none⟩ (.int .i64 t1.st)).setCell ⟨w.heap.size, 2, none⟩ (.int .i64 t1.snap)).setCell ⟨w.heap.size, 3, none⟩ (.int .i64 t1.cs)).setCell ⟨w.heap.size, 4, none⟩ (.slice ra1 t1.rs.length rc1)).setCell ⟨w.heap.size, 5, none⟩ (.slice wa1 t1.ws.length wc1)).setCell ⟨w.heap.size, 6, none⟩ (.bool t1.out)).setCell ⟨w.heap.size, 7, none⟩ (.string t1.nm)) (v1.heap.size) (v2.heap.size) (.slice ra1 t1.rs.length rc1) (t1.rs)) := ⟨own_s8P OR15.out.own (ob := w.heap.size) (by omega) (.int .i64 t1.id) (.int .i64 t1.st) (.int .i64 t1.snap) (.int .i64 t1.cs) (.slice ra1 t1.rs.length rc1) (.slice wa1 t1.ws.length wc1) (.bool t1.out) (.string t1.nm), OR15.out.up⟩
 have OW16 : Hid (Lies encW 55 ((((((((v5.setCell ⟨w.heap.size, 0, none⟩ (.int .i64 t1.id)).setCell ⟨w.heap.size, 1, none⟩ (.int .i64 t1.st)).setCell ⟨w.heap.size, 2, none⟩ (.int .i64 t1.snap)).setCell ⟨w.heap.size, 3, none⟩ (.int .i64 t1.cs)).setCell ⟨w.heap.size, 4, none⟩ (.slice ra1 t1.rs.length rc1)).setCell ⟨w.heap.size, 5, none⟩ (.slice wa1 t1.ws.length wc1)).setCell ⟨w.heap.size, 6, none⟩ (.bool t1.out)).setCell ⟨w.heap.size, 7, none⟩ (.string t1.nm)) (v1.heap.size) (v2.heap.size) (.slice wa1 t1.ws.length wc1) (t1.ws)) := ⟨own_s8P OW15.out.own (ob := w.heap.size) (by omega) (.int .i64 t1.id) (.int .i64 t1.st) (.int .i64 t1.snap) (.int .i64 t1.cs) (.slice ra1 t1.rs.length rc1) (.slice wa1 t1.ws.length wc1) (.bool t1.out) (.string t1.nm), OW15.out.up⟩
 have B16 : Hid (Bx ((((((((v5.setCell ⟨w.heap.size, 0, none⟩ (.int .i64 t1.id)).setCell ⟨w.heap.size, 1, none⟩ (.int .i64 t1.st)).setCell ⟨w.heap.size, 2, none⟩ (.int .i64 t1.snap)).setCell ⟨w.heap.size, 3, none⟩ (.int .i64 t1.cs)).setCell ⟨w.heap.size, 4, none⟩ (.slice ra1 t1.rs.length rc1)).setCell ⟨w.heap.size, 5, none⟩ (.slice wa1 t1.ws.length wc1)).setCell ⟨w.heap.size, 6, none⟩ (.bool t1.out)).setCell ⟨w.heap.size, 7, none⟩ (.string t1.nm)) (v2.heap.size) [.int .i64 t1.id, .int .i64 t1.st, .int .i64 t1.snap, .int .i64 t1.cs, .slice ra1 t1.rs.length rc1, .slice wa1 t1.ws.length wc1, .bool t1.out, .string t1.nm]) := B15.out.o8P (ob := w.heap.size) (by omega) (.int .i64 t1.id) (.int .i64 t1.st) (.int .i64 t1.snap) (.int .i64 t1.cs) (.slice ra1 t1.rs.length rc1) (.slice wa1 t1.ws.length wc1) (.bool t1.out) (.string t1.nm)
 have OR26 : Hid (Lies encR 35 ((((((((v5.setCell ⟨w.heap.size, 0, none⟩ (.int .i64 t1.id)).setCell ⟨w.heap.size, 1, none⟩ (.int .i64 t1.st)).setCell ⟨w.heap.size, 2, none⟩ (.int .i64 t1.snap)).setCell ⟨w.heap.size, 3, none⟩ (.int .i64 t1.cs)).setCell ⟨w.heap.size, 4, none⟩ (.slice ra1 t1.rs.length rc1)).setCell ⟨w.heap.size, 5, none⟩ (.slice wa1 t1.ws.length wc1)).setCell ⟨w.heap.size, 6, none⟩ (.bool t1.out)).setCell ⟨w.heap.size, 7, none⟩ (.string t1.nm)) (v4.heap.size) (v5.heap.size) (.slice ra2 t2.rs.length rc2) (t2.rs)) := ⟨own_s8P OR25.out.own (ob := w.heap.size) (by omega) (.int .i64 t1.id) (.int .i64 t1.st) (.int .i64 t1.snap) (.int .i64 t1.cs) (.slice ra1 t1.rs.length rc1) (.slice wa1 t1.ws.length wc1) (.bool t1.out) (.string t1.nm), OR25.out.up⟩
 have OW26 : Hid (Lies encW 55 ((((((((v5.setCell ⟨w.heap.size, 0, none⟩ (.int .i64 t1.id)).setCell ⟨w.heap.size, 1, none⟩ (.int .i64 t1.st)).setCell ⟨w.heap.size, 2, none⟩ (.int .i64 t1.snap)).setCell ⟨w.heap.size, 3, none⟩ (.int .i64 t1.cs)).setCell ⟨w.heap.size, 4, none⟩ (.slice ra1 t1.rs.length rc1)).setCell ⟨w.heap.size, 5, none⟩ (.slice wa1 t1.ws.length wc1)).setCell ⟨w.heap.size, 6, none⟩ (.bool t1.out)).setCell ⟨w.heap.size, 7, none⟩ (.string t1.nm)) (v4.heap.size) (v5.heap.size) (.slice wa2 t2.ws.length wc2) (t2.ws)) := ⟨own_s8P OW25.out.own (ob := w.heap.size) (by omega) (.int .i64 t1.id) (.int .i64 t1.st) (.int .i64 t1.snap) (.int .i64 t1.cs) (.slice ra1 t1.rs.length rc1) (.slice wa1 t1.ws.length wc1) (.bool t1.out) (.string t1.nm), OW25.out.up⟩
 clear R15 R25 HB5 OR15 OW15 B15 OR25 OW25
 generalize ((((((((v5.setCell ⟨w.heap.size, 0, none⟩ (.int .i64 t1.id)).setCell ⟨w.heap.size, 1, none⟩ (.int .i64 t1.st)).setCell ⟨w.heap.size, 2, none⟩ (.int .i64 t1.snap)).setCell ⟨w.heap.size, 3, none⟩ (.int .i64 t1.cs)).setCell ⟨w.heap.size, 4, none⟩ (.slice ra1 t1.rs.length rc1)).setCell ⟨w.heap.size, 5, none⟩ (.slice wa1 t1.ws.length wc1)).setCell ⟨w.heap.size, 6, none⟩ (.bool t1.out)).setCell ⟨w.heap.size, 7, none⟩ (.string t1.nm)) = v8 at *
 (try go_wp2_with fail)
 refine hK.out _ _ ⟨B16.out.c0, B16.out.c1, B16.out.c2, B16.out.c3, B16.out.c4, B16.out.c5, B16.out.c6, B16.out.c7⟩ (fun hHeld => ?_)
 clear hK K
 have p0_ := R26.out.c0
 have fp0 := R26.out.fz 0
 have p1_ := R26.out.c1
 have fp1 := R26.out.fz 1
 have p2_ := R26.out.c2
 have fp2 := R26.out.fz 2
 have p3_ := R26.out.c3
 have fp3 := R26.out.fz 3
 have p4_ := R26.out.c4
 have fp4 := R26.out.fz 4
 have p5_ := R26.out.c5
 have fp5 := R26.out.fz 5
 have p6_ := R26.out.c6
 have fp6 := R26.out.fz 6
 have p7_ := R26.out.c7
 have fp7 := R26.out.fz 7
 refine wpAnyH_ready (rs := [4]) (by kernel_rfl) (by simp) ?_
 refine AllReadyH.cons rfl (fun K hK => ?_) AllReadyH.nil
 go_simp
 clear p0_ fp0 p1_ fp1 p2_ fp2 p3_ fp3 p4_ fp4 p5_ fp5 p6_ fp6 p7_ fp7
 have R17 : Hid (Bx ((((((((v8.setCell ⟨(w.heap.size + 1), 0, none⟩ (.int .i64 t2.id)).setCell ⟨(w.heap.size + 1), 1, none⟩ (.int .i64 t2.st)).setCell ⟨(w.heap.size + 1), 2, none⟩ (.int .i64 t2.snap)).setCell ⟨(w.heap.size + 1), 3, none⟩ (.int .i64 t2.cs)).setCell ⟨(w.heap.size + 1), 4, none⟩ (.slice ra2 t2.rs.length rc2)).setCell ⟨(w.heap.size + 1), 5, none⟩ (.slice wa2 t2.ws.length wc2)).setCell ⟨(w.heap.size + 1), 6, none⟩ (.bool t2.out)).setCell ⟨(w.heap.size + 1), 7, none⟩ (.string t2.nm)) (w.heap.size) [.int .i64 t1.id, .int .i64 t1.st, .int .i64 t1.snap, .int .i64 t1.cs, .slice ra1 t1.rs.length rc1, .slice wa1 t1.ws.length wc1, .bool t1.out, .string t1.nm]) := R16.out.o8P (ob := (w.heap.size + 1)) (by omega) (.int .i64 t2.id) (.int .i64 t2.st) (.int .i64 t2.snap) (.int .i64 t2.cs) (.slice ra2 t2.rs.length rc2) (.slice wa2 t2.ws.length wc2) (.bool t2.out) (.string t2.nm)
 have R27 : Hid (Bx ((((((((v8.setCell ⟨(w.heap.size + 1), 0, none⟩ (.int .i64 t2.id)).setCell ⟨(w.heap.size + 1), 1, none⟩ (.int .i64 t2.st)).setCell ⟨(w.heap.size + 1), 2, none⟩ (.int .i64 t2.snap)).setCell ⟨(w.heap.size + 1), 3, none⟩ (.int .i64 t2.cs)).setCell ⟨(w.heap.size + 1), 4, none⟩ (.slice ra2 t2.rs.length rc2)).setCell ⟨(w.heap.size + 1), 5, none⟩ (.slice wa2 t2.ws.length wc2)).setCell ⟨(w.heap.size + 1), 6, none⟩ (.bool t2.out)).setCell ⟨(w.heap.size + 1), 7, none⟩ (.string t2.nm)) (w.heap.size + 1) [.int .i64 t2.id, .int .i64 t2.st, .int .i64 t2.snap, .int .i64 t2.cs, .slice ra2 t2.rs.length rc2, .slice wa2 t2.ws.length wc2, .bool t2.out, .string t2.nm]) := R26.out.s8P (.int .i64 t2.id) (.int .i64 t2.st) (.int .i64 t2.snap) (.int .i64 t2.cs) (.slice ra2 t2.rs.length rc2) (.slice wa2 t2.ws.length wc2) (.bool t2.out) (.string t2.nm)
 have HB7 : Hid (Below w.heap.size w ((((((((v8.setCell ⟨(w.heap.size + 1), 0, none⟩ (.int .i64 t2.id)).setCell ⟨(w.heap.size + 1), 1, none⟩ (.int .i64 t2.st)).setCell ⟨(w.heap.size + 1), 2, none⟩ (.int .i64 t2.snap)).setCell ⟨(w.heap.size + 1), 3, none⟩ (.int .i64 t2.cs)).setCell ⟨(w.heap.size + 1), 4, none⟩ (.slice ra2 t2.rs.length rc2)).setCell ⟨(w.heap.size + 1), 5, none⟩ (.slice wa2 t2.ws.length wc2)).setCell ⟨(w.heap.size + 1), 6, none⟩ (.bool t2.out)).setCell ⟨(w.heap.size + 1), 7, none⟩ (.string t2.nm))) := below_s8P HB6.out (ob := (w.heap.size + 1)) (by omega) (.int .i64 t2.id) (.int .i64 t2.st) (.int .i64 t2.snap) (.int .i64 t2.cs) (.slice ra2 t2.rs.length rc2) (.slice wa2 t2.ws.length wc2) (.bool t2.out) (.string t2.nm)
 have OR17 : Hid (Lies encR 35 ((((((((v8.setCell ⟨(w.heap.size + 1), 0, none⟩ (.int .i64 t2.id)).setCell ⟨(w.heap.size + 1), 1, none⟩ (.int .i64 t2.st)).setCell ⟨(w.heap.size + 1), 2, none⟩ (.int .i64 t2.snap)).setCell ⟨(w.heap.size + 1), 3, none⟩ (.int .i64 t2.cs)).setCell ⟨(w.heap.size + 1), 4, none⟩ (.slice ra2 t2.rs.length rc2)).setCell ⟨(w.heap.size + 1), 5, none⟩ (.slice wa2 t2.ws.length wc2)).setCell ⟨(w.heap.size + 1), 6, none⟩ (.bool t2.out)).setCell ⟨(w.heap.size + 1), 7, none⟩ (.string t2.nm)) (v1.heap.size) (v2.heap.size) (.slice ra1 t1.rs.length rc1) (t1.rs)) := ⟨own_s8P OR16.out.own (ob := (w.heap.size + 1)) (by omega) (.int .i64 t2.id) (.int .i64 t2.st) (.int .i64 t2.snap) (.int .i64 t2.cs) (.slice ra2 t2.rs.length rc2) (.slice wa2 t2.ws.length wc2) (.bool t2.out) (.string t2.nm), OR16.out.up⟩
 have OW17 : Hid (Lies encW 55 ((((((((v8.setCell ⟨(w.heap.size + 1), 0, none⟩ (.int .i64 t2.id)).setCell ⟨(w.heap.size + 1), 1, none⟩ (.int .i64 t2.st)).setCell ⟨(w.heap.size + 1), 2, none⟩ (.int .i64 t2.snap)).setCell ⟨(w.heap.size + 1), 3, none⟩ (.int .i64 t2.cs)).setCell ⟨(w.heap.size + 1), 4, none⟩ (.slice ra2 t2.rs.length rc2)).setCell ⟨(w.heap.size + 1), 5, none⟩ (.slice wa2 t2.ws.length wc2)).setCell ⟨(w.heap.size + 1), 6, none⟩ (.bool t2.out)).setCell ⟨(w.heap.size + 1), 7, none⟩ (.string t2.nm)) (v1.heap.size) (v2.heap.size) (.slice wa1 t1.ws.length wc1) (t1.ws)) := ⟨own_s8P OW16.out.own (ob := (w.heap.size + 1)) (by omega) (.int .i64 t2.id) (.int .i64 t2.st) (.int .i64 t2.snap) (.int .i64 t2.cs) (.slice ra2 t2.rs.length rc2) (.slice wa2 t2.ws.length wc2) (.bool t2.out) (.string t2.nm), OW16.out.up⟩
 have B17 : Hid (Bx ((((((((v8.setCell ⟨(w.heap.size + 1), 0, none⟩ (.int .i64 t2.id)).setCell ⟨(w.heap.size + 1), 1, none⟩ (.int .i64 t2.st)).setCell ⟨(w.heap.size + 1), 2, none⟩ (.int .i64 t2.snap)).setCell ⟨(w.heap.size + 1), 3, none⟩ (.int .i64 t2.cs)).setCell ⟨(w.heap.size + 1), 4, none⟩ (.slice ra2 t2.rs.length rc2)).setCell ⟨(w.heap.size + 1), 5, none⟩ (.slice wa2 t2.ws.length wc2)).setCell ⟨(w.heap.size + 1), 6, none⟩ (.bool t2.out)).setCell ⟨(w.heap.size + 1), 7, none⟩ (.string t2.nm)) (v2.heap.size) [.int .i64 t1.id, .int .i64 t1.st, .int .i64 t1.snap, .int .i64 t1.cs, .slice ra1 t1.rs.length rc1, .slice wa1 t1.ws.length wc1, .bool t1.out, .string t1.nm]) := B16.out.o8P (ob := (w.heap.size + 1)) (by omega) (.int .i64 t2.id) (.int .i64 t2.st) (.int .i64 t2.snap) (.int .i64 t2.cs) (.slice ra2 t2.rs.length rc2) (.slice wa2 t2.ws.length wc2) (.bool t2.out) (.string t2.nm)
 have OR27 : Hid (Lies encR 35 ((((((((v8.setCell ⟨(w.heap.size + 1), 0, none⟩ (.int .i64 t2.id)).setCell ⟨(w.heap.size + 1), 1, none⟩ (.int .i64 t2.st)).setCell ⟨(w.heap.size + 1), 2, none⟩ (.int .i64 t2.snap)).setCell ⟨(w.heap.size + 1), 3, none⟩ (.int .i64 t2.cs)).setCell ⟨(w.heap.size + 1), 4, none⟩ (.slice ra2 t2.rs.length rc2)).setCell ⟨(w.heap.size + 1), 5, none⟩ (.slice wa2 t2.ws.length wc2)).setCell ⟨(w.heap.size + 1), 6, none⟩ (.bool t2.out)).setCell ⟨(w.heap.size + 1), 7, none⟩ (.string t2.nm)) (v4.heap.size) (v5.heap.size) (.slice ra2 t2.rs.length rc2) (t2.rs)) := ⟨own_s8P OR26.out.own (ob := (w.heap.size + 1)) (by omega) (.int .i64 t2.id) (.int .i64 t2.st) (.int .i64 t2.snap) (.int .i64 t2.cs) (.slice ra2 t2.rs.length rc2) (.slice wa2 t2.ws.length wc2) (.bool t2.out) (.string t2.nm), OR26.out.up⟩
 have OW27 : Hid (Lies encW 55 ((((((((v8.setCell ⟨(w.heap.size + 1), 0, none⟩ (.int .i64 t2.id)).setCell ⟨(w.heap.size + 1), 1, none⟩ (.int .i64 t2.st)).setCell ⟨(w.heap.size + 1), 2, none⟩ (.int .i64 t2.snap)).setCell ⟨(w.heap.size + 1), 3, none⟩ (.int .i64 t2.cs)).setCell ⟨(w.heap.size + 1), 4, none⟩ (.slice ra2 t2.rs.length rc2)).setCell ⟨(w.heap.size + 1), 5, none⟩ (.slice wa2 t2.ws.length wc2)).setCell ⟨(w.heap.size + 1), 6, none⟩ (.bool t2.out)).setCell ⟨(w.heap.size + 1), 7, none⟩ (.string t2.nm)) (v4.heap.size) (v5.heap.size) (.slice wa2 t2.ws.length wc2) (t2.ws)) := ⟨own_s8P OW26.out.own (ob := (w.heap.size + 1)) (by omega) (.int .i64 t2.id) (.int .i64 t2.st) (.int .i64 t2.snap) (.int .i64 t2.cs) (.slice ra2 t2.rs.length rc2) (.slice wa2 t2.ws.length wc2) (.bool t2.out) (.string t2.nm), OW26.out.up⟩
 clear R16 R26 HB6 OR16 OW16 B16 OR26 OW26
 generalize ((((((((v8.setCell ⟨(w.heap.size + 1), 0, none⟩ (.int .i64 t2.id)).setCell ⟨(w.heap.size + 1), 1, none⟩ (.int .i64 t2.st)).setCell ⟨(w.heap.size + 1), 2, none⟩ (.int .i64 t2.snap)).setCell ⟨(w.heap.size + 1), 3, none⟩ (.int .i64 t2.cs)).setCell ⟨(w.heap.size + 1), 4, none⟩ (.slice ra2 t2.rs.length rc2)).setCell ⟨(w.heap.size + 1), 5, none⟩ (.slice wa2 t2.ws.length wc2)).setCell ⟨(w.heap.size + 1), 6, none⟩ (.bool t2.out)).setCell ⟨(w.heap.size + 1), 7, none⟩ (.string t2.nm)) = v9 at *
 (try go_wp2_with fail)
 refine hK.out _ _ ⟨B17.out.c0, B17.out.c1, B17.out.c2, B17.out.c3, B17.out.c4, B17.out.c5, B17.out.c6, B17.out.c7⟩ (fun hHeld => ?_)
 clear hK K
 refine wpAnyH_done (by kernel_rfl) ?_ _
 go_wp2
 have q0_ := R17.out.c0
 have fq0 := R17.out.fz 0
 have q1_ := R17.out.c1
 have fq1 := R17.out.fz 1
 have q2_ := R17.out.c2
 have fq2 := R17.out.fz 2
 have q3_ := R17.out.c3
 have fq3 := R17.out.fz 3
 have q4_ := R17.out.c4
 have fq4 := R17.out.fz 4
 have q5_ := R17.out.c5
 have fq5 := R17.out.fz 5
 have q6_ := R17.out.c6
 have fq6 := R17.out.fz 6
 have q7_ := R17.out.c7
 have fq7 := R17.out.fz 7
 have p0_ := R27.out.c0
 have fp0 := R27.out.fz 0
 have p1_ := R27.out.c1
 have fp1 := R27.out.fz 1
 have p2_ := R27.out.c2
 have fp2 := R27.out.fz 2
 have p3_ := R27.out.c3
 have fp3 := R27.out.fz 3
 have p4_ := R27.out.c4
 have fp4 := R27.out.fz 4
 have p5_ := R27.out.c5
 have fp5 := R27.out.fz 5
 have p6_ := R27.out.c6
 have fp6 := R27.out.fz 6
 have p7_ := R27.out.c7
 have fp7 := R27.out.fz 7
 refine bodyPost_ret (v := .tuple #[.agg #[.int .i64 t1.id, .int .i64 t1.st, .int .i64 t1.snap, .int .i64 t1.cs, .slice ra1 t1.rs.length rc1, .slice wa1 t1.ws.length wc1, .bool t1.out, .string t1.nm], .agg #[.int .i64 t2.id, .int .i64 t2.st, .int .i64 t2.snap, .int .i64 t2.cs, .slice ra2 t2.rs.length rc2, .slice wa2 t2.ws.length wc2, .bool t2.out, .string t2.nm]]) (by simp [results, Tryz.results32, go_sem, q0_, q1_, q2_, q3_, q4_, q5_, q6_, q7_, p0_, p1_, p2_, p3_, p4_, p5_, p6_, p7_]) rfl ⟨⟨t1, ra1, rc1, wa1, wc1⟩, ⟨t2, ra2, rc2, wa2, wc2⟩, HT1.out, HT2.out, rfl, ⟨OR17.out.own.mono (by omega), OW17.out.own.mono (by omega)⟩, ⟨OR27.out.own.mono (by omega), OW27.out.own.mono (by omega)⟩, HB7.out⟩

end Go.Proofs.YtbajpnbodhhmjaaGreat
