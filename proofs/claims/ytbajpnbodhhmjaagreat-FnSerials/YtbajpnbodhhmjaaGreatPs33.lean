/- Cells that are drawn: l14Cells, DrawPlayOne, DrawViewOf. -/
import Derived.Test.YtbajpnbodhhmjaaGreatPs01
import Derived.Test.YtbajpnbodhhmjaaGreatPs28
import Derived.Test.YtbajpnbodhhmjaaGreatPs32
namespace Go.Proofs.YtbajpnbodhhmjaaGreat
open Go.RowKit
open KM
open VM
attribute [local go_sem ↓] Go.wp_at_zero Go.wp_at_succ

set_option maxRecDepth 100000 in
set_option maxHeartbeats 4000000 in
theorem scells (g len cap : Nat) (a : Option Addr) (w : World) (hc : CurI w g a len cap) :
  Calls Tryz.prog 30 #[.pointer (some ⟨g, 0, none⟩)] w fun e w' => ∃ (ms : List Rg) (a1 : Option Addr) (c1 : Nat), AscC ms ∧ RFit ms ∧ ms.length ≤ 9 ∧ e = .returned (.slice a1 ms.length c1) ∧ GOwn encR 62 w' w.heap.size (.slice a1 ms.length c1) ms ∧ Dn w w' g a len cap := by
 have HC : Hid (CurI w g a len cap) := hc
 have hgl : g < w.heap.size := hc.lt
 clear hc
 go_enter Tryz.func30, Tryz.ntmps30
 go_wp2
 go_loopw [3, 4] (fun v s wr => ∃ (k : Nat) (ms : List Rg), k ≤ 3 ∧ s = .int .i64 k ∧ Hid (ms.length ≤ 3 * k) ∧ Hid (AscC ms) ∧ Hid (RFit ms) ∧ Hid (GOwn encR 62 wr w.heap.size v ms) ∧ Hid (Dn w wr g a len cap)) (fun _ s _ => 4 - (intOf s).toNat)
 case atStart => exact ⟨0, [], by omega, rfl, Nat.le_refl _, List.Pairwise.nil, (fun x hx => by cases hx), GOwn.empty _ _ (Nat.le_refl _), (Dn.start HC.out).alloc _⟩
 case round =>
  obtain ⟨k, ms, hk, rfl, HL, HA, HF, HO, HD⟩ := hrel
  obtain ⟨a0, c0, rfl, _⟩ := HO.out.row
  obtain ⟨n0, hn0⟩ : ∃ n0, n0 = ms.length := ⟨_, rfl⟩
  rw [← hn0] at HO ⊢
  have HN0 : Hid (n0 = ms.length) := hn0
  have hn9 : n0 ≤ 9 := by have := HL.out; omega
  clear hn0
  go_wp2_with fail
  refine (drBelow g len cap a 4 (by omega) (by omega) _ HD.out.c).mono ?_
  rintro e w1 ⟨n, hn, rfl, d1⟩
  have D1 : Hid (Dn w w1 g a len cap) := HD.out.step d1
  have O1 := hide (HO.out.keptD d1 hgl)
  clear d1 HO HD
  by_cases hlt : k < n
  ·have hlt' : (k : Int) < (n : Int) := by omega
   have ew : IntKind.i64.wrap (1 + (k : Int)) = 1 + (k : Int) := by rw [IntKind.wrap_i64]; omega
   go_wp2_with fail
   refine (drWrites g len cap a _ D1.out.c).mono ?_
   rintro e w2 ⟨ws, wa, wc, hws, hwl, rfl, how, d2⟩
   have D2 : Hid (Dn w w2 g a len cap) := D1.out.step d2
   have O2 := hide (O1.out.keptD d2 hgl)
   have W2 := hide how
   have HWS := hide hws
   clear d2 how hws D1 O1
   go_wp2_with fail
   refine (splay ms a0 c0 n0 ⟨0, 0, 0, 0, [], ws, false, ⟨#[]⟩⟩ none wa 0 wc _ HN0.out (by omega) (by show ws.length ≤ _; omega) HA.out _ O2.out W2.out.grow).mono ?_
   rintro e w3 ⟨a3, c3, L3, rfl, hL3, ho3, hb3⟩
   have D3 : Hid (Dn w w3 g a len cap) := D2.out.below hb3
   have HL3 : Hid ((playB ms ws).length ≤ 3 * (k + 1)) := Nat.le_trans (playB_len _ _) (by have := HL.out; omega)
   have HA3 : Hid (AscC (playB ms ws)) := play_asc HA.out _
   have HF3 : Hid (RFit (playB ms ws)) := rfit_play _ _ HF.out HWS.out.fit
   have O3 : Hid (GOwn encR 62 w3 w.heap.size (.slice a3 L3 c3) (playB ms ws)) := ho3.mono D2.out.size
   clear hb3 ho3 hL3
   go_wp2
   go_roundw
   case rel => exact ⟨k + 1, _, by omega, by go_num, HL3, HA3, HF3, O3, D3⟩
   case measure => simp [intOf]; omega
  ·have hlt' : ¬ (k : Int) < (n : Int) := by omega
   have O9 : Hid (GOwn encR 62 w1 w.heap.size (.slice a0 ms.length c0) ms) := by show GOwn _ _ _ _ _ _; rw [← HN0.out]; exact O1.out
   have h9 : ms.length ≤ 9 := by rw [← HN0.out]; exact hn9
   go_wp2
   go_ret
   exact ⟨ms, a0, c0, HA.out, HF.out, h9, by simp [HN0.out], O9.out, D1.out⟩

set_option maxRecDepth 100000 in
set_option maxHeartbeats 4000000 in
theorem dPlay (len cap : Nat) (a : Option Addr) (hl : len ≤ 1048576) (w : World) (hr : CodeRow w a len) :
  Calls Tryz.prog 7 #[.slice a len cap] w fun e w' => ∃ (ms : List Rg) (a1 : Option Addr) (c1 : Nat) (x : Ta), AscC ms ∧ RFit ms ∧ ms.length ≤ 9 ∧ TxD x.t ∧ e = .returned (.tuple #[.slice a1 ms.length c1, .agg #[.int .i64 x.t.id, .int .i64 x.t.st, .int .i64 x.t.snap, .int .i64 x.t.cs, .slice x.ra x.t.rs.length x.rc, .slice x.wa x.t.ws.length x.wc, .bool x.t.out, .string x.t.nm]]) ∧ GOwn encR 62 w' w.heap.size (.slice a1 ms.length c1) ms ∧ TOwn w' w.heap.size x ∧ Below w.heap.size w w' := by
 have R10 : Hid (Bx (w.alloc (.cells #[.int .i64 0, .int .i64 0, .int .i64 0, .int .i64 0, .slice none 0 0, .slice none 0 0, .bool false, .string ⟨#[]⟩] 30)) (w.heap.size) [.int .i64 0, .int .i64 0, .int .i64 0, .int .i64 0, .slice none 0 0, .slice none 0 0, .bool false, .string ⟨#[]⟩]) := Bx.new w [.int .i64 0, .int .i64 0, .int .i64 0, .int .i64 0, .slice none 0 0, .slice none 0 0, .bool false, .string ⟨#[]⟩] 30
 have HB0 : Hid (Below w.heap.size w (w.alloc (.cells #[.int .i64 0, .int .i64 0, .int .i64 0, .int .i64 0, .slice none 0 0, .slice none 0 0, .bool false, .string ⟨#[]⟩] 30))) := (belowRefl w).alloc (Nat.le_refl _) _
 have HR : Hid (CodeRow (w.alloc (.cells #[.int .i64 0, .int .i64 0, .int .i64 0, .int .i64 0, .slice none 0 0, .slice none 0 0, .bool false, .string ⟨#[]⟩] 30)) a len) := hr.below HB0.out
 have hz0 : w.heap.size < (w.alloc (.cells #[.int .i64 0, .int .i64 0, .int .i64 0, .int .i64 0, .slice none 0 0, .slice none 0 0, .bool false, .string ⟨#[]⟩] 30)).heap.size := by simp
 clear hr
 go_enter Tryz.func7, Tryz.ntmps7
 go_wp2_with fail
 generalize (w.alloc (.cells #[.int .i64 0, .int .i64 0, .int .i64 0, .int .i64 0, .slice none 0 0, .slice none 0 0, .bool false, .string ⟨#[]⟩] 30)) = v0 at *
 refine (drNew len cap a hl _ HR.out).mono ?_
 rintro e v1 ⟨rfl, hc, hb⟩
 have hz1 : v0.heap.size ≤ v1.heap.size := hb.size
 have hlc := hc.lt
 have R11 : Hid (Bx v1 (w.heap.size) [.int .i64 0, .int .i64 0, .int .i64 0, .int .i64 0, .slice none 0 0, .slice none 0 0, .bool false, .string ⟨#[]⟩]) := R10.out.below hb
 have HB1 : Hid (Below w.heap.size w v1) := HB0.out.trans (hb.mono HB0.out.size)
 clear R10 HB0
 have D1 : Hid (Dn v1 v1 (v0.heap.size) a len cap) := Dn.start hc
 clear hb hc HR
 go_wp2_with fail
 refine (drTxn v0.heap.size len cap a _ D1.out.c).mono ?_
 rintro e v2 ⟨t1, ra1, rc1, wa1, wc1, ht, rfl, ho1, ho2, d⟩
 have HT1 := hide ht
 have hsv2 := d.size
 have R12 : Hid (Bx v2 (w.heap.size) [.int .i64 0, .int .i64 0, .int .i64 0, .int .i64 0, .slice none 0 0, .slice none 0 0, .bool false, .string ⟨#[]⟩]) := R11.out.keptD d (by omega)
 have HB2 : Hid (Below w.heap.size w v2) := d.out HB1.out (by omega) (by omega)
 have D2 : Hid (Dn v1 v2 (v0.heap.size) a len cap) := D1.out.step d
 clear R11 HB1 D1
 clear d ht
 have OR12 : Hid (Lies encR 35 v2 (v1.heap.size) (v2.heap.size) (.slice ra1 t1.rs.length rc1) (t1.rs)) := Lies.of ho1
 have OW12 : Hid (Lies encW 55 v2 (v1.heap.size) (v2.heap.size) (.slice wa1 t1.ws.length wc1) (t1.ws)) := Lies.of ho2
 clear ho1 ho2
 go_upto_region 3 with fail
 have hb : Below v2.heap.size v2 (v2.alloc (.cells #[.int .i64 t1.id, .int .i64 t1.st, .int .i64 t1.snap, .int .i64 t1.cs, .slice ra1 t1.rs.length rc1, .slice wa1 t1.ws.length wc1, .bool t1.out, .string t1.nm] 30)) := (belowRefl v2).alloc (Nat.le_refl _) _
 have R13 : Hid (Bx (v2.alloc (.cells #[.int .i64 t1.id, .int .i64 t1.st, .int .i64 t1.snap, .int .i64 t1.cs, .slice ra1 t1.rs.length rc1, .slice wa1 t1.ws.length wc1, .bool t1.out, .string t1.nm] 30)) (w.heap.size) [.int .i64 0, .int .i64 0, .int .i64 0, .int .i64 0, .slice none 0 0, .slice none 0 0, .bool false, .string ⟨#[]⟩]) := R12.out.below hb
 have HB3 : Hid (Below w.heap.size w (v2.alloc (.cells #[.int .i64 t1.id, .int .i64 t1.st, .int .i64 t1.snap, .int .i64 t1.cs, .slice ra1 t1.rs.length rc1, .slice wa1 t1.ws.length wc1, .bool t1.out, .string t1.nm] 30))) := HB2.out.trans (hb.mono HB2.out.size)
 have D3 : Hid (Dn v1 (v2.alloc (.cells #[.int .i64 t1.id, .int .i64 t1.st, .int .i64 t1.snap, .int .i64 t1.cs, .slice ra1 t1.rs.length rc1, .slice wa1 t1.ws.length wc1, .bool t1.out, .string t1.nm] 30)) (v0.heap.size) a len cap) := D2.out.below hb
 have OR13 : Hid (Lies encR 35 (v2.alloc (.cells #[.int .i64 t1.id, .int .i64 t1.st, .int .i64 t1.snap, .int .i64 t1.cs, .slice ra1 t1.rs.length rc1, .slice wa1 t1.ws.length wc1, .bool t1.out, .string t1.nm] 30)) (v1.heap.size) (v2.heap.size) (.slice ra1 t1.rs.length rc1) (t1.rs)) := OR12.out.below hb
 have OW13 : Hid (Lies encW 55 (v2.alloc (.cells #[.int .i64 t1.id, .int .i64 t1.st, .int .i64 t1.snap, .int .i64 t1.cs, .slice ra1 t1.rs.length rc1, .slice wa1 t1.ws.length wc1, .bool t1.out, .string t1.nm] 30)) (v1.heap.size) (v2.heap.size) (.slice wa1 t1.ws.length wc1) (t1.ws)) := OW12.out.below hb
 clear R12 HB2 D2 OR12 OW12
 have B13 : Hid (Bx (v2.alloc (.cells #[.int .i64 t1.id, .int .i64 t1.st, .int .i64 t1.snap, .int .i64 t1.cs, .slice ra1 t1.rs.length rc1, .slice wa1 t1.ws.length wc1, .bool t1.out, .string t1.nm] 30)) (v2.heap.size) [.int .i64 t1.id, .int .i64 t1.st, .int .i64 t1.snap, .int .i64 t1.cs, .slice ra1 t1.rs.length rc1, .slice wa1 t1.ws.length wc1, .bool t1.out, .string t1.nm]) := Bx.new v2 [.int .i64 t1.id, .int .i64 t1.st, .int .i64 t1.snap, .int .i64 t1.cs, .slice ra1 t1.rs.length rc1, .slice wa1 t1.ws.length wc1, .bool t1.out, .string t1.nm] 30
 clear hb
 generalize (v2.alloc (.cells #[.int .i64 t1.id, .int .i64 t1.st, .int .i64 t1.snap, .int .i64 t1.cs, .slice ra1 t1.rs.length rc1, .slice wa1 t1.ws.length wc1, .bool t1.out, .string t1.nm] 30)) = v3 at *
 have hlv3 : v2.heap.size < v3.heap.size := B13.out.lt
 refine wp_region_held_drew (S := fun w' => w'.cell? ⟨v2.heap.size, 0, none⟩ = some (.int .i64 t1.id) ∧ w'.cell? ⟨v2.heap.size, 1, none⟩ = some (.int .i64 t1.st) ∧ w'.cell? ⟨v2.heap.size, 2, none⟩ = some (.int .i64 t1.snap) ∧ w'.cell? ⟨v2.heap.size, 3, none⟩ = some (.int .i64 t1.cs) ∧ w'.cell? ⟨v2.heap.size, 4, none⟩ = some (.slice ra1 t1.rs.length rc1) ∧ w'.cell? ⟨v2.heap.size, 5, none⟩ = some (.slice wa1 t1.ws.length wc1) ∧ w'.cell? ⟨v2.heap.size, 6, none⟩ = some (.bool t1.out) ∧ w'.cell? ⟨v2.heap.size, 7, none⟩ = some (.string t1.nm)) (by kernel_rfl) ⟨B13.out.c0, B13.out.c1, B13.out.c2, B13.out.c3, B13.out.c4, B13.out.c5, B13.out.c6, B13.out.c7⟩ (fun hHeld => ?_)
 (refine tk 0 ?_ rfl (Or.inl ⟨by rfl, ?_⟩) ?_; rotate_left; (focus (intro w h; (try dsimp only at h); go_simp; (try with_reducible rfl))); simp only [Act.put, tA, tB, tD, tE, tF])
 (refine tk 2 ?_ rfl (Or.inl ⟨by rfl, ?_⟩) ?_; rotate_left; (focus (intro w h; (try dsimp only at h); go_simp; (try with_reducible rfl))); simp only [Act.put, tA, tB, tC, tD, tE, tF])
 refine wpAnyH_ready (rs := [1]) (by kernel_rfl) (by simp) ?_
 refine AllReadyH.cons rfl (fun K hK => ?_) AllReadyH.nil
 go_simp
 go_wp2_with fail
 have R14 : Hid (Bx v3.drew (w.heap.size) [.int .i64 0, .int .i64 0, .int .i64 0, .int .i64 0, .slice none 0 0, .slice none 0 0, .bool false, .string ⟨#[]⟩]) := R13.out.below (belowRefl v3).drew
 have HB4 : Hid (Below w.heap.size w v3.drew) := HB3.out.trans ((belowRefl v3).drew.mono HB3.out.size)
 have D4 : Hid (Dn v1 v3.drew (v0.heap.size) a len cap) := D3.out.below (belowRefl v3).drew
 have OR14 : Hid (Lies encR 35 v3.drew (v1.heap.size) (v2.heap.size) (.slice ra1 t1.rs.length rc1) (t1.rs)) := OR13.out.below (belowRefl v3).drew
 have OW14 : Hid (Lies encW 55 v3.drew (v1.heap.size) (v2.heap.size) (.slice wa1 t1.ws.length wc1) (t1.ws)) := OW13.out.below (belowRefl v3).drew
 have B14 : Hid (Bx v3.drew (v2.heap.size) [.int .i64 t1.id, .int .i64 t1.st, .int .i64 t1.snap, .int .i64 t1.cs, .slice ra1 t1.rs.length rc1, .slice wa1 t1.ws.length wc1, .bool t1.out, .string t1.nm]) := B13.out.below (belowRefl v3).drew
 clear R13 HB3 D3 OR13 OW13 B13
 have hd6 : v3.heap.size ≤ v3.drew.heap.size := Nat.le_refl _
 clear hHeld
 generalize v3.drew = v4 at *
 refine (scells v0.heap.size len cap a _ D4.out.c).mono ?_
 rintro e v5 ⟨ms, am, cm, hma, hmf, hml, rfl, hom, d⟩
 have HMA := hide hma
 have HMF := hide hmf
 clear hma hmf
 have hsv5 := d.size
 have R15 : Hid (Bx v5 (w.heap.size) [.int .i64 0, .int .i64 0, .int .i64 0, .int .i64 0, .slice none 0 0, .slice none 0 0, .bool false, .string ⟨#[]⟩]) := R14.out.keptD d (by omega)
 have HB5 : Hid (Below w.heap.size w v5) := d.out HB4.out (by omega) (by omega)
 have D5 : Hid (Dn v1 v5 (v0.heap.size) a len cap) := D4.out.step d
 have OR15 : Hid (Lies encR 35 v5 (v1.heap.size) (v2.heap.size) (.slice ra1 t1.rs.length rc1) (t1.rs)) := ⟨OR14.out.own.keptD d (by omega), OR14.out.up⟩
 have OW15 : Hid (Lies encW 55 v5 (v1.heap.size) (v2.heap.size) (.slice wa1 t1.ws.length wc1) (t1.ws)) := ⟨OW14.out.own.keptD d (by omega), OW14.out.up⟩
 have B15 : Hid (Bx v5 (v2.heap.size) [.int .i64 t1.id, .int .i64 t1.st, .int .i64 t1.snap, .int .i64 t1.cs, .slice ra1 t1.rs.length rc1, .slice wa1 t1.ws.length wc1, .bool t1.out, .string t1.nm]) := B14.out.keptD d (by omega)
 clear R14 HB4 D4 OR14 OW14 B14
 clear d
 have OM5 : Hid (Lies encR 62 v5 (v4.heap.size) (v5.heap.size) (.slice am ms.length cm) (ms)) := Lies.of hom
 clear hom
 go_wp2_with fail
 refine hK.out _ _ ⟨B15.out.c0, B15.out.c1, B15.out.c2, B15.out.c3, B15.out.c4, B15.out.c5, B15.out.c6, B15.out.c7⟩ (fun hHeld => ?_)
 clear hK K
 clear D5
 (refine tk 3 ?_ rfl (Or.inl ⟨by rfl, ?_⟩) ?_; rotate_left; (focus (intro w h; (try dsimp only at h); go_simp; (try with_reducible rfl))); simp only [Act.put, tA, tB, tC, tD, tE, tF])
 have q0_ := R15.out.c0
 have fq0 := R15.out.fz 0
 have q1_ := R15.out.c1
 have fq1 := R15.out.fz 1
 have q2_ := R15.out.c2
 have fq2 := R15.out.fz 2
 have q3_ := R15.out.c3
 have fq3 := R15.out.fz 3
 have q4_ := R15.out.c4
 have fq4 := R15.out.fz 4
 have q5_ := R15.out.c5
 have fq5 := R15.out.fz 5
 have q6_ := R15.out.c6
 have fq6 := R15.out.fz 6
 have q7_ := R15.out.c7
 have fq7 := R15.out.fz 7
 refine wpAnyH_ready (rs := [4]) (by kernel_rfl) (by simp) ?_
 refine AllReadyH.cons rfl (fun K hK => ?_) AllReadyH.nil
 go_simp
 clear q0_ fq0 q1_ fq1 q2_ fq2 q3_ fq3 q4_ fq4 q5_ fq5 q6_ fq6 q7_ fq7
 have R16 : Hid (Bx ((((((((v5.setCell ⟨w.heap.size, 0, none⟩ (.int .i64 t1.id)).setCell ⟨w.heap.size, 1, none⟩ (.int .i64 t1.st)).setCell ⟨w.heap.size, 2, none⟩ (.int .i64 t1.snap)).setCell ⟨w.heap.size, 3, none⟩ (.int .i64 t1.cs)).setCell ⟨w.heap.size, 4, none⟩ (.slice ra1 t1.rs.length rc1)).setCell ⟨w.heap.size, 5, none⟩ (.slice wa1 t1.ws.length wc1)).setCell ⟨w.heap.size, 6, none⟩ (.bool t1.out)).setCell ⟨w.heap.size, 7, none⟩ (.string t1.nm)) (w.heap.size) [.int .i64 t1.id, .int .i64 t1.st, .int .i64 t1.snap, .int .i64 t1.cs, .slice ra1 t1.rs.length rc1, .slice wa1 t1.ws.length wc1, .bool t1.out, .string t1.nm]) := R15.out.s8P (.int .i64 t1.id) (.int .i64 t1.st) (.int .i64 t1.snap) (.int .i64 t1.cs) (.slice ra1 t1.rs.length rc1) (.slice wa1 t1.ws.length wc1) (.bool t1.out) (.string t1.nm)
 have HB6 : Hid (Below w.heap.size w ((((((((v5.setCell ⟨w.heap.size, 0, none⟩ (.int .i64 t1.id)).setCell ⟨w.heap.size, 1, none⟩ (.int .i64 t1.st)).setCell ⟨w.heap.size, 2, none⟩ (.int .i64 t1.snap)).setCell ⟨w.heap.size, 3, none⟩ (.int .i64 t1.cs)).setCell ⟨w.heap.size, 4, none⟩ (.slice ra1 t1.rs.length rc1)).setCell ⟨w.heap.size, 5, none⟩ (.slice wa1 t1.ws.length wc1)).setCell ⟨w.heap.size, 6, none⟩ (.bool t1.out)).setCell ⟨w.heap.size, 7, none⟩ (.string t1.nm))) := below_s8P HB5.out (ob := w.heap.size) (by omega) (.int .i64 t1.id) (.int .i64 t1.st) (.int .i64 t1.snap) (.int .i64 t1.cs) (.slice ra1 t1.rs.length rc1) (.slice wa1 t1.ws.length wc1) (.bool t1.out) (.string t1.nm)
 have OR16 : Hid (Lies encR 35 ((((((((v5.setCell ⟨w.heap.size, 0, none⟩ (.int .i64 t1.id)).setCell ⟨w.heap.size, 1, none⟩ (.int .i64 t1.st)).setCell ⟨w.heap.size, 2, none⟩ (.int .i64 t1.snap)).setCell ⟨w.heap.size, 3, none⟩ (.int .i64 t1.cs)).setCell ⟨w.heap.size, 4, none⟩ (.slice ra1 t1.rs.length rc1)).setCell ⟨w.heap.size, 5, none⟩ (.slice wa1 t1.ws.length wc1)).setCell ⟨w.heap.size, 6, none⟩ (.bool t1.out)).setCell ⟨w.heap.size, 7, none⟩ (.string t1.nm)) (v1.heap.size) (v2.heap.size) (.slice ra1 t1.rs.length rc1) (t1.rs)) := ⟨own_s8P OR15.out.own (ob := w.heap.size) (by omega) (.int .i64 t1.id) (.int .i64 t1.st) (.int .i64 t1.snap) (.int .i64 t1.cs) (.slice ra1 t1.rs.length rc1) (.slice wa1 t1.ws.length wc1) (.bool t1.out) (.string t1.nm), OR15.out.up⟩
 have OW16 : Hid (Lies encW 55 ((((((((v5.setCell ⟨w.heap.size, 0, none⟩ (.int .i64 t1.id)).setCell ⟨w.heap.size, 1, none⟩ (.int .i64 t1.st)).setCell ⟨w.heap.size, 2, none⟩ (.int .i64 t1.snap)).setCell ⟨w.heap.size, 3, none⟩ (.int .i64 t1.cs)).setCell ⟨w.heap.size, 4, none⟩ (.slice ra1 t1.rs.length rc1)).setCell ⟨w.heap.size, 5, none⟩ (.slice wa1 t1.ws.length wc1)).setCell ⟨w.heap.size, 6, none⟩ (.bool t1.out)).setCell ⟨w.heap.size, 7, none⟩ (.string t1.nm)) (v1.heap.size) (v2.heap.size) (.slice wa1 t1.ws.length wc1) (t1.ws)) := ⟨own_s8P OW15.out.own (ob := w.heap.size) (by omega) (.int .i64 t1.id) (.int .i64 t1.st) (.int .i64 t1.snap) (.int .i64 t1.cs) (.slice ra1 t1.rs.length rc1) (.slice wa1 t1.ws.length wc1) (.bool t1.out) (.string t1.nm), OW15.out.up⟩
 have B16 : Hid (Bx ((((((((v5.setCell ⟨w.heap.size, 0, none⟩ (.int .i64 t1.id)).setCell ⟨w.heap.size, 1, none⟩ (.int .i64 t1.st)).setCell ⟨w.heap.size, 2, none⟩ (.int .i64 t1.snap)).setCell ⟨w.heap.size, 3, none⟩ (.int .i64 t1.cs)).setCell ⟨w.heap.size, 4, none⟩ (.slice ra1 t1.rs.length rc1)).setCell ⟨w.heap.size, 5, none⟩ (.slice wa1 t1.ws.length wc1)).setCell ⟨w.heap.size, 6, none⟩ (.bool t1.out)).setCell ⟨w.heap.size, 7, none⟩ (.string t1.nm)) (v2.heap.size) [.int .i64 t1.id, .int .i64 t1.st, .int .i64 t1.snap, .int .i64 t1.cs, .slice ra1 t1.rs.length rc1, .slice wa1 t1.ws.length wc1, .bool t1.out, .string t1.nm]) := B15.out.o8P (ob := w.heap.size) (by omega) (.int .i64 t1.id) (.int .i64 t1.st) (.int .i64 t1.snap) (.int .i64 t1.cs) (.slice ra1 t1.rs.length rc1) (.slice wa1 t1.ws.length wc1) (.bool t1.out) (.string t1.nm)
 have OM6 : Hid (Lies encR 62 ((((((((v5.setCell ⟨w.heap.size, 0, none⟩ (.int .i64 t1.id)).setCell ⟨w.heap.size, 1, none⟩ (.int .i64 t1.st)).setCell ⟨w.heap.size, 2, none⟩ (.int .i64 t1.snap)).setCell ⟨w.heap.size, 3, none⟩ (.int .i64 t1.cs)).setCell ⟨w.heap.size, 4, none⟩ (.slice ra1 t1.rs.length rc1)).setCell ⟨w.heap.size, 5, none⟩ (.slice wa1 t1.ws.length wc1)).setCell ⟨w.heap.size, 6, none⟩ (.bool t1.out)).setCell ⟨w.heap.size, 7, none⟩ (.string t1.nm)) (v4.heap.size) (v5.heap.size) (.slice am ms.length cm) (ms)) := ⟨own_s8P OM5.out.own (ob := w.heap.size) (by omega) (.int .i64 t1.id) (.int .i64 t1.st) (.int .i64 t1.snap) (.int .i64 t1.cs) (.slice ra1 t1.rs.length rc1) (.slice wa1 t1.ws.length wc1) (.bool t1.out) (.string t1.nm), OM5.out.up⟩
 clear R15 HB5 OR15 OW15 B15 OM5
 generalize ((((((((v5.setCell ⟨w.heap.size, 0, none⟩ (.int .i64 t1.id)).setCell ⟨w.heap.size, 1, none⟩ (.int .i64 t1.st)).setCell ⟨w.heap.size, 2, none⟩ (.int .i64 t1.snap)).setCell ⟨w.heap.size, 3, none⟩ (.int .i64 t1.cs)).setCell ⟨w.heap.size, 4, none⟩ (.slice ra1 t1.rs.length rc1)).setCell ⟨w.heap.size, 5, none⟩ (.slice wa1 t1.ws.length wc1)).setCell ⟨w.heap.size, 6, none⟩ (.bool t1.out)).setCell ⟨w.heap.size, 7, none⟩ (.string t1.nm)) = v8 at *
 (try go_wp2_with fail)
 refine hK.out _ _ ⟨B16.out.c0, B16.out.c1, B16.out.c2, B16.out.c3, B16.out.c4, B16.out.c5, B16.out.c6, B16.out.c7⟩ (fun hHeld => ?_)
 clear hK K
 refine wpAnyH_done (by kernel_rfl) ?_ _
 go_wp2
 have q0_ := R16.out.c0
 have fq0 := R16.out.fz 0
 have q1_ := R16.out.c1
 have fq1 := R16.out.fz 1
 have q2_ := R16.out.c2
 have fq2 := R16.out.fz 2
 have q3_ := R16.out.c3
 have fq3 := R16.out.fz 3
 have q4_ := R16.out.c4
 have fq4 := R16.out.fz 4
 have q5_ := R16.out.c5
 have fq5 := R16.out.fz 5
 have q6_ := R16.out.c6
 have fq6 := R16.out.fz 6
 have q7_ := R16.out.c7
 have fq7 := R16.out.fz 7
 refine bodyPost_ret (v := .tuple #[.slice am ms.length cm, .agg #[.int .i64 t1.id, .int .i64 t1.st, .int .i64 t1.snap, .int .i64 t1.cs, .slice ra1 t1.rs.length rc1, .slice wa1 t1.ws.length wc1, .bool t1.out, .string t1.nm]]) (by simp [results, Tryz.results7, go_sem, q0_, q1_, q2_, q3_, q4_, q5_, q6_, q7_]) rfl ⟨ms, am, cm, ⟨t1, ra1, rc1, wa1, wc1⟩, HMA.out, HMF.out, hml, HT1.out, rfl, OM6.out.own.mono (by omega), ⟨OR16.out.own.mono (by omega), OW16.out.own.mono (by omega)⟩, HB6.out⟩

set_option maxRecDepth 100000 in
set_option maxHeartbeats 4000000 in
theorem dView (len cap : Nat) (a : Option Addr) (hl : len ≤ 1048576) (w : World) (hr : CodeRow w a len) :
  Calls Tryz.prog 8 #[.slice a len cap] w fun e w' => ∃ (ms : List Rg) (a1 : Option Addr) (c1 : Nat) (rg : Rg), AscC ms ∧ RFit ms ∧ ms.length ≤ 9 ∧ RgD rg ∧ e = .returned (.tuple #[.slice a1 ms.length c1, .agg #[.string rg.1, .string rg.2]]) ∧ GOwn encR 62 w' w.heap.size (.slice a1 ms.length c1) ms ∧ Below w.heap.size w w' := by
 have R10 : Hid (Bx (w.alloc (.cells #[.string ⟨#[]⟩, .string ⟨#[]⟩] 35)) (w.heap.size) [.string ⟨#[]⟩, .string ⟨#[]⟩]) := Bx.new w [.string ⟨#[]⟩, .string ⟨#[]⟩] 35
 have HB0 : Hid (Below w.heap.size w (w.alloc (.cells #[.string ⟨#[]⟩, .string ⟨#[]⟩] 35))) := (belowRefl w).alloc (Nat.le_refl _) _
 have HR : Hid (CodeRow (w.alloc (.cells #[.string ⟨#[]⟩, .string ⟨#[]⟩] 35)) a len) := hr.below HB0.out
 have hz0 : w.heap.size < (w.alloc (.cells #[.string ⟨#[]⟩, .string ⟨#[]⟩] 35)).heap.size := by simp
 clear hr
 go_enter Tryz.func8, Tryz.ntmps8
 go_wp2_with fail
 generalize (w.alloc (.cells #[.string ⟨#[]⟩, .string ⟨#[]⟩] 35)) = v0 at *
 refine (drNew len cap a hl _ HR.out).mono ?_
 rintro e v1 ⟨rfl, hc, hb⟩
 have hz1 : v0.heap.size ≤ v1.heap.size := hb.size
 have hlc := hc.lt
 have R11 : Hid (Bx v1 (w.heap.size) [.string ⟨#[]⟩, .string ⟨#[]⟩]) := R10.out.below hb
 have HB1 : Hid (Below w.heap.size w v1) := HB0.out.trans (hb.mono HB0.out.size)
 clear R10 HB0
 have D1 : Hid (Dn v1 v1 (v0.heap.size) a len cap) := Dn.start hc
 clear hb hc HR
 go_wp2_with fail
 refine (drRange v0.heap.size len cap a _ D1.out.c).mono ?_
 rintro e v2 ⟨rg, hrg, rfl, d⟩
 have HRG := hide hrg
 clear hrg
 have hsv2 := d.size
 have R12 : Hid (Bx v2 (w.heap.size) [.string ⟨#[]⟩, .string ⟨#[]⟩]) := R11.out.keptD d (by omega)
 have HB2 : Hid (Below w.heap.size w v2) := d.out HB1.out (by omega) (by omega)
 have D2 : Hid (Dn v1 v2 (v0.heap.size) a len cap) := D1.out.step d
 clear R11 HB1 D1
 clear d
 go_upto_region 3 with fail
 have hb : Below v2.heap.size v2 (v2.alloc (.cells #[.string rg.1, .string rg.2] 35)) := (belowRefl v2).alloc (Nat.le_refl _) _
 have R13 : Hid (Bx (v2.alloc (.cells #[.string rg.1, .string rg.2] 35)) (w.heap.size) [.string ⟨#[]⟩, .string ⟨#[]⟩]) := R12.out.below hb
 have HB3 : Hid (Below w.heap.size w (v2.alloc (.cells #[.string rg.1, .string rg.2] 35))) := HB2.out.trans (hb.mono HB2.out.size)
 have D3 : Hid (Dn v1 (v2.alloc (.cells #[.string rg.1, .string rg.2] 35)) (v0.heap.size) a len cap) := D2.out.below hb
 clear R12 HB2 D2
 have B13 : Hid (Bx (v2.alloc (.cells #[.string rg.1, .string rg.2] 35)) (v2.heap.size) [.string rg.1, .string rg.2]) := Bx.new v2 [.string rg.1, .string rg.2] 35
 clear hb
 generalize (v2.alloc (.cells #[.string rg.1, .string rg.2] 35)) = v3 at *
 have hlv3 : v2.heap.size < v3.heap.size := B13.out.lt
 refine wp_region_held_drew (S := fun w' => w'.cell? ⟨v2.heap.size, 0, none⟩ = some (.string rg.1) ∧ w'.cell? ⟨v2.heap.size, 1, none⟩ = some (.string rg.2)) (by kernel_rfl) ⟨B13.out.c0, B13.out.c1⟩ (fun hHeld => ?_)
 (refine tk 0 ?_ rfl (Or.inl ⟨by rfl, ?_⟩) ?_; rotate_left; (focus (intro w h; (try dsimp only at h); go_simp; (try with_reducible rfl))); simp only [Act.put, tA, tB, tD, tE, tF])
 (refine tk 2 ?_ rfl (Or.inl ⟨by rfl, ?_⟩) ?_; rotate_left; (focus (intro w h; (try dsimp only at h); go_simp; (try with_reducible rfl))); simp only [Act.put, tA, tB, tC, tD, tE, tF])
 refine wpAnyH_ready (rs := [1]) (by kernel_rfl) (by simp) ?_
 refine AllReadyH.cons rfl (fun K hK => ?_) AllReadyH.nil
 go_simp
 go_wp2_with fail
 have R14 : Hid (Bx v3.drew (w.heap.size) [.string ⟨#[]⟩, .string ⟨#[]⟩]) := R13.out.below (belowRefl v3).drew
 have HB4 : Hid (Below w.heap.size w v3.drew) := HB3.out.trans ((belowRefl v3).drew.mono HB3.out.size)
 have D4 : Hid (Dn v1 v3.drew (v0.heap.size) a len cap) := D3.out.below (belowRefl v3).drew
 have B14 : Hid (Bx v3.drew (v2.heap.size) [.string rg.1, .string rg.2]) := B13.out.below (belowRefl v3).drew
 clear R13 HB3 D3 B13
 have hd6 : v3.heap.size ≤ v3.drew.heap.size := Nat.le_refl _
 clear hHeld
 generalize v3.drew = v4 at *
 refine (scells v0.heap.size len cap a _ D4.out.c).mono ?_
 rintro e v5 ⟨ms, am, cm, hma, hmf, hml, rfl, hom, d⟩
 have HMA := hide hma
 have HMF := hide hmf
 clear hma hmf
 have hsv5 := d.size
 have R15 : Hid (Bx v5 (w.heap.size) [.string ⟨#[]⟩, .string ⟨#[]⟩]) := R14.out.keptD d (by omega)
 have HB5 : Hid (Below w.heap.size w v5) := d.out HB4.out (by omega) (by omega)
 have D5 : Hid (Dn v1 v5 (v0.heap.size) a len cap) := D4.out.step d
 have B15 : Hid (Bx v5 (v2.heap.size) [.string rg.1, .string rg.2]) := B14.out.keptD d (by omega)
 clear R14 HB4 D4 B14
 clear d
 have OM5 : Hid (Lies encR 62 v5 (v4.heap.size) (v5.heap.size) (.slice am ms.length cm) (ms)) := Lies.of hom
 clear hom
 go_wp2_with fail
 refine hK.out _ _ ⟨B15.out.c0, B15.out.c1⟩ (fun hHeld => ?_)
 clear hK K
 clear D5
 (refine tk 3 ?_ rfl (Or.inl ⟨by rfl, ?_⟩) ?_; rotate_left; (focus (intro w h; (try dsimp only at h); go_simp; (try with_reducible rfl))); simp only [Act.put, tA, tB, tC, tD, tE, tF])
 have q0_ := R15.out.c0
 have fq0 := R15.out.fz 0
 have q1_ := R15.out.c1
 have fq1 := R15.out.fz 1
 refine wpAnyH_ready (rs := [4]) (by kernel_rfl) (by simp) ?_
 refine AllReadyH.cons rfl (fun K hK => ?_) AllReadyH.nil
 go_simp
 clear q0_ fq0 q1_ fq1
 have R16 : Hid (Bx (v5.setCell ⟨w.heap.size, 0, none⟩ (.string rg.1)) (w.heap.size) [.string rg.1, .string ⟨#[]⟩]) := R15.out.set 0 _
 have HB6 : Hid (Below w.heap.size w (v5.setCell ⟨w.heap.size, 0, none⟩ (.string rg.1))) := HB5.out.setCell (by show w.heap.size ≤ w.heap.size; omega) _
 have B16 : Hid (Bx (v5.setCell ⟨w.heap.size, 0, none⟩ (.string rg.1)) (v2.heap.size) [.string rg.1, .string rg.2]) := B15.out.setO (p := ⟨w.heap.size, 0, none⟩) (by show w.heap.size ≠ v2.heap.size; omega) _
 have OM6 : Hid (Lies encR 62 (v5.setCell ⟨w.heap.size, 0, none⟩ (.string rg.1)) (v4.heap.size) (v5.heap.size) (.slice am ms.length cm) (ms)) := OM5.out.setxP (a := ⟨w.heap.size, 0, none⟩) (fun b hb => (by have := OM5.out.lo b hb; show w.heap.size ≠ b; omega)) _
 clear R15 HB5 B15 OM5
 have R17 : Hid (Bx ((v5.setCell ⟨w.heap.size, 0, none⟩ (.string rg.1)).setCell ⟨w.heap.size, 1, none⟩ (.string rg.2)) (w.heap.size) [.string rg.1, .string rg.2]) := R16.out.set 1 _
 have HB7 : Hid (Below w.heap.size w ((v5.setCell ⟨w.heap.size, 0, none⟩ (.string rg.1)).setCell ⟨w.heap.size, 1, none⟩ (.string rg.2))) := HB6.out.setCell (by show w.heap.size ≤ w.heap.size; omega) _
 have B17 : Hid (Bx ((v5.setCell ⟨w.heap.size, 0, none⟩ (.string rg.1)).setCell ⟨w.heap.size, 1, none⟩ (.string rg.2)) (v2.heap.size) [.string rg.1, .string rg.2]) := B16.out.setO (p := ⟨w.heap.size, 1, none⟩) (by show w.heap.size ≠ v2.heap.size; omega) _
 have OM7 : Hid (Lies encR 62 ((v5.setCell ⟨w.heap.size, 0, none⟩ (.string rg.1)).setCell ⟨w.heap.size, 1, none⟩ (.string rg.2)) (v4.heap.size) (v5.heap.size) (.slice am ms.length cm) (ms)) := OM6.out.setxP (a := ⟨w.heap.size, 1, none⟩) (fun b hb => (by have := OM6.out.lo b hb; show w.heap.size ≠ b; omega)) _
 clear R16 HB6 B16 OM6
 generalize ((v5.setCell ⟨w.heap.size, 0, none⟩ (.string rg.1)).setCell ⟨w.heap.size, 1, none⟩ (.string rg.2)) = v8 at *
 (try go_wp2_with fail)
 refine hK.out _ _ ⟨B17.out.c0, B17.out.c1⟩ (fun hHeld => ?_)
 clear hK K
 refine wpAnyH_done (by kernel_rfl) ?_ _
 go_wp2
 have q0_ := R17.out.c0
 have fq0 := R17.out.fz 0
 have q1_ := R17.out.c1
 have fq1 := R17.out.fz 1
 refine bodyPost_ret (v := .tuple #[.slice am ms.length cm, .agg #[.string rg.1, .string rg.2]]) (by simp [results, Tryz.results8, go_sem, q0_, q1_]) rfl ⟨ms, am, cm, rg, HMA.out, HMF.out, hml, HRG.out, rfl, OM7.out.own.mono (by omega), HB7.out⟩

end Go.Proofs.YtbajpnbodhhmjaaGreat
