/- A drawn transaction and a range to look at: DrawReadRange. -/
import Derived.Test.YtnljmdodpffmoaaGreatPc01
import Derived.Test.YtnljmdodpffmoaaGreatPc34
import Derived.Deep.RegionHeld3
namespace Go.Proofs.YtnljmdodpffmoaaGreat
open Go.RowKit
open KM
attribute [local go_sem ↓] Go.wp_at_zero Go.wp_at_succ

set_option maxRecDepth 100000 in
set_option maxHeartbeats 1000000 in
theorem drKeyQ (g len cap : Nat) (a : Option Addr) (w : World) (hc : CurI w g a len cap) :
  Calls Tryz.prog 52 #[.pointer (some ⟨g, 0, none⟩)] w fun e w' => ∃ s, s ∈ keyL ∧ e = .returned (.string s) ∧ Dn w w' g a len cap := by
 have HC : Hid (CurI w g a len cap) := hc
 have hne : w.heap.size ≠ g := Nat.ne_of_gt hc.lt
 clear hc
 go_enter Tryz.func52, Tryz.ntmps52
 go_wp2_with fail
 refine (drPickN g len cap a keyL 5 w.heap.size 5 rfl (by omega) (by omega) _ (HC.out.alloc _) hne (Bx.new w (keyL.map Value.string) 9)).mono ?_
 rintro e w1 ⟨s, hs, rfl, d1⟩
 have D1 : Hid (Dn w w1 g a len cap) := ((Dn.start HC.out).alloc _).step d1
 have HS : Hid (s ∈ keyL) := hs
 clear d1 hs
 go_wp2
 go_ret
 exact ⟨s, HS.out, rfl, D1.out⟩

def RgQ (r : Rg) : Prop := r.1 ∈ keyL ∧ r.2 ∈ keyL ∧ le r.1 r.2 = true

set_option maxRecDepth 100000 in
set_option maxHeartbeats 1000000 in
theorem drRangeQ (g len cap : Nat) (a : Option Addr) (w : World) (hc : CurI w g a len cap) :
  Calls Tryz.prog 36 #[.pointer (some ⟨g, 0, none⟩)] w fun e w' => ∃ r : Rg, RgQ r ∧ e = .returned (.agg #[.string r.1, .string r.2]) ∧ Dn w w' g a len cap := by
 have HC : Hid (CurI w g a len cap) := hc
 have hne : w.heap.size ≠ g := Nat.ne_of_gt hc.lt
 clear hc
 go_enter Tryz.func36, Tryz.ntmps36
 go_wp2_with fail
 refine (drKeyQ g len cap a _ (HC.out.alloc _)).mono ?_
 rintro e w1 ⟨s, hs, rfl, d1⟩
 have D1 : Hid (Dn w w1 g a len cap) := ((Dn.start HC.out).alloc _).step d1
 have B1 : Hid (Bx w1 w.heap.size [.string ⟨#[]⟩, .string ⟨#[]⟩]) := (Bx.new w [.string ⟨#[]⟩, .string ⟨#[]⟩] 36).keptD d1 hne
 have HS : Hid (s ∈ keyL) := hs
 clear d1 hs
 go_wp2_with fail
 refine (drOnce g len cap a 2 (by omega) (by omega) _ D1.out.c).mono ?_
 rintro e w2 ⟨b, rfl, d2⟩
 have D2 := hide (D1.out.step d2)
 have B2 := hide (B1.out.keptD d2 hne)
 clear d2
 cases b
 ·go_wp2_with fail
  refine (drKeyQ g len cap a _ D2.out.c).mono ?_
  rintro e w3 ⟨t, ht, rfl, d3⟩
  have D3 := hide (D2.out.step d3)
  have B3 := hide (B2.out.keptD d3 hne)
  have HT : Hid (t ∈ keyL) := ht
  clear d3 ht
  have c0 := B3.out.c0
  have c1 := B3.out.c1
  have fz := B3.out.fz
  cases hlt : Op.bytesLess t.toList s.toList
  ·go_wp2
   have BF := (B3.out.set 0 (.string s)).set 1 (.string t)
   have e0 := BF.c0
   have e1 := BF.c1
   exact bodyPost_ret (v := .agg #[.string s, .string t]) (by simp [results, Tryz.results36, go_sem, e0, e1]) rfl ⟨(s, t), ⟨HS.out, HT.out, le_of_not_lt hlt⟩, rfl, (D3.out.set (Nat.le_refl _) _).set (Nat.le_refl _) _⟩
  ·go_wp2
   have BF := (B3.out.set 0 (.string t)).set 1 (.string s)
   have e0 := BF.c0
   have e1 := BF.c1
   exact bodyPost_ret (v := .agg #[.string t, .string s]) (by simp [results, Tryz.results36, go_sem, e0, e1]) rfl ⟨(t, s), ⟨HT.out, HS.out, le_of_lt hlt⟩, rfl, (D3.out.set (Nat.le_refl _) _).set (Nat.le_refl _) _⟩
 ·have c0 := B2.out.c0
  have c1 := B2.out.c1
  have fz := B2.out.fz
  go_wp2
  have BF := (B2.out.set 0 (.string s)).set 1 (.string s)
  have e0 := BF.c0
  have e1 := BF.c1
  exact bodyPost_ret (v := .agg #[.string s, .string s]) (by simp [results, Tryz.results36, go_sem, e0, e1]) rfl ⟨(s, s), ⟨HS.out, HS.out, le_refl' s⟩, rfl, (D2.out.set (Nat.le_refl _) _).set (Nat.le_refl _) _⟩

def eight (r : Rg) : List Rg := [r, r, r, r, r, r, r, (⟨#[120]⟩, ⟨#[121]⟩)]
theorem keyL_zz : (⟨#[122, 122]⟩ : ByteArray) ∉ keyL := by
 intro h
 simp only [keyL, List.mem_cons, List.not_mem_nil, or_false] at h
 rcases h with h | h | h | h | h <;> · have := congrArg (fun s : ByteArray => s.data.toList) h; simp at this
theorem eight_no {r : Rg} (h : r.2 ∈ keyL) : ((r.1, (⟨#[122, 122]⟩ : ByteArray)) : Rg) ∉ eight r := by
 intro hm
 have hk : ∀ x ∈ eight r, x.2 ≠ (⟨#[122, 122]⟩ : ByteArray) := by
  intro x hx
  simp only [eight, List.mem_cons, List.not_mem_nil, or_false] at hx
  have hr : r.2 ≠ (⟨#[122, 122]⟩ : ByteArray) := fun e => keyL_zz (e ▸ h)
  have hy : ((⟨#[120]⟩, ⟨#[121]⟩) : Rg).2 ≠ (⟨#[122, 122]⟩ : ByteArray) := fun e => by
   have := congrArg (fun s : ByteArray => s.data.toList) e
   simp at this
  rcases hx with rfl | rfl | rfl | rfl | rfl | rfl | rfl | rfl <;> assumption
 exact hk _ hm rfl
theorem eight_fit {r : Rg} (h : RgQ r) : RFit (eight r) := by
 intro x hx
 have h1 := (keyL_ok _ h.1).2
 have h2 := (keyL_ok _ h.2.1).2
 have hr : r.1.size ≤ 1048576 ∧ r.2.size ≤ 1048576 := ⟨by omega, by omega⟩
 have hy : ((⟨#[120]⟩, ⟨#[121]⟩) : Rg).1.size ≤ 1048576 ∧ ((⟨#[120]⟩, ⟨#[121]⟩) : Rg).2.size ≤ 1048576 := ⟨by decide, by decide⟩
 simp only [eight, List.mem_cons, List.not_mem_nil, or_false] at hx
 rcases hx with rfl | rfl | rfl | rfl | rfl | rfl | rfl | rfl <;> assumption
structure TxR (t : Tx) : Prop where
 fit : TFit t
 rl : t.rs.length ≤ 8
 wl : t.ws.length ≤ 4

set_option maxRecDepth 100000 in
set_option maxHeartbeats 4000000 in
theorem dReadRange (len cap : Nat) (a : Option Addr) (hl : len ≤ 1048576) (w : World) (hr : CodeRow w a len) :
  Calls Tryz.prog 10 #[.slice a len cap] w fun e w' => ∃ (t : Tx) (ra : Option Addr) (rc : Nat) (wa : Option Addr) (wc : Nat) (r : Rg), TxR t ∧ (t.rs.length = 8 → r ∉ t.rs) ∧ (r.1.size ≤ 3 ∧ r.2.size ≤ 3) ∧ e = .returned (.tuple #[.agg #[.int .i64 t.id, .int .i64 t.st, .int .i64 t.snap, .int .i64 t.cs, .slice ra t.rs.length rc, .slice wa t.ws.length wc, .bool t.out, .string t.nm], .agg #[.string r.1, .string r.2]]) ∧ GOwn encR 36 w' w.heap.size (.slice ra t.rs.length rc) t.rs ∧ GOwn encW 42 w' w.heap.size (.slice wa t.ws.length wc) t.ws ∧ Below w.heap.size w w' := by
 have R10 : Hid (Bx ((w.alloc (.cells #[.int .i64 0, .int .i64 0, .int .i64 0, .int .i64 0, .slice none 0 0, .slice none 0 0, .bool false, .string ⟨#[]⟩] 27)).alloc (.cells #[.string ⟨#[]⟩, .string ⟨#[]⟩] 36)) (w.heap.size) [.int .i64 0, .int .i64 0, .int .i64 0, .int .i64 0, .slice none 0 0, .slice none 0 0, .bool false, .string ⟨#[]⟩]) := (Bx.new w [.int .i64 0, .int .i64 0, .int .i64 0, .int .i64 0, .slice none 0 0, .slice none 0 0, .bool false, .string ⟨#[]⟩] 27).alloc _
 have R20 : Hid (Bx ((w.alloc (.cells #[.int .i64 0, .int .i64 0, .int .i64 0, .int .i64 0, .slice none 0 0, .slice none 0 0, .bool false, .string ⟨#[]⟩] 27)).alloc (.cells #[.string ⟨#[]⟩, .string ⟨#[]⟩] 36)) (w.heap.size + 1) [.string ⟨#[]⟩, .string ⟨#[]⟩]) := by have h := Bx.new (w.alloc (.cells #[.int .i64 0, .int .i64 0, .int .i64 0, .int .i64 0, .slice none 0 0, .slice none 0 0, .bool false, .string ⟨#[]⟩] 27)) [.string ⟨#[]⟩, .string ⟨#[]⟩] 36; rw [World.size_alloc] at h; exact h
 have HB0 : Hid (Below w.heap.size w ((w.alloc (.cells #[.int .i64 0, .int .i64 0, .int .i64 0, .int .i64 0, .slice none 0 0, .slice none 0 0, .bool false, .string ⟨#[]⟩] 27)).alloc (.cells #[.string ⟨#[]⟩, .string ⟨#[]⟩] 36))) := ((belowRefl w).alloc (Nat.le_refl _) _).alloc (by simp) _
 have HR := hide (hr.below HB0.out)
 have hz0 : w.heap.size + 1 < ((w.alloc (.cells #[.int .i64 0, .int .i64 0, .int .i64 0, .int .i64 0, .slice none 0 0, .slice none 0 0, .bool false, .string ⟨#[]⟩] 27)).alloc (.cells #[.string ⟨#[]⟩, .string ⟨#[]⟩] 36)).heap.size := by simp
 clear hr
 go_enter Tryz.func10, Tryz.ntmps10
 go_wp2_with fail
 generalize ((w.alloc (.cells #[.int .i64 0, .int .i64 0, .int .i64 0, .int .i64 0, .slice none 0 0, .slice none 0 0, .bool false, .string ⟨#[]⟩] 27)).alloc (.cells #[.string ⟨#[]⟩, .string ⟨#[]⟩] 36)) = v0 at *
 refine (drNew len cap a hl _ HR.out).mono ?_
 rintro e v1 ⟨rfl, hc, hb⟩
 have hz1 : v0.heap.size ≤ v1.heap.size := hb.size
 have hlc := hc.lt
 have R11 := hide (R10.out.below hb)
 have R21 := hide (R20.out.below hb)
 have HB1 := hide (HB0.out.trans (hb.mono HB0.out.size))
 clear R10 R20 HB0
 have D1 : Hid (Dn v1 v1 (v0.heap.size) a len cap) := Dn.start hc
 clear hb hc HR
 go_wp2_with fail
 refine (drBelow v0.heap.size len cap a 3 (by omega) (by omega) _ D1.out.c).mono ?_
 rintro e v2 ⟨n, hn, rfl, d⟩
 have hsv2 := d.size
 have R12 := hide (R11.out.keptD d (by omega))
 have R22 := hide (R21.out.keptD d (by omega))
 have HB2 := hide (d.out HB1.out (by omega) (by omega))
 have D2 := hide (D1.out.step d)
 clear R11 R21 HB1 D1
 clear d
 go_wp2_with fail
 refine (drRangeQ v0.heap.size len cap a _ D2.out.c).mono ?_
 rintro e v3 ⟨r, hx, rfl, d⟩
 have HX := hide hx
 have hsv3 := d.size
 have R13 := hide (R12.out.keptD d (by omega))
 have R23 := hide (R22.out.keptD d (by omega))
 have HB3 := hide (d.out HB2.out (by omega) (by omega))
 have D3 := hide (D2.out.step d)
 clear R12 R22 HB2 D2
 clear d
 clear hx
 go_upto_region 4 with fail
 have hb : Below v3.heap.size v3 (v3.alloc (.cells #[.string r.1, .string r.2] 36)) := (belowRefl v3).alloc (Nat.le_refl _) _
 have R14 := hide (R13.out.below hb)
 have R24 := hide (R23.out.below hb)
 have HB4 := hide (HB3.out.trans (hb.mono HB3.out.size))
 have D4 := hide (D3.out.below hb)
 clear R13 R23 HB3 D3
 have B24 : Hid (Bx (v3.alloc (.cells #[.string r.1, .string r.2] 36)) (v3.heap.size) [.string r.1, .string r.2]) := Bx.new v3 [.string r.1, .string r.2] 36
 clear hb
 generalize (v3.alloc (.cells #[.string r.1, .string r.2] 36)) = v4 at *
 have hlv4 : v3.heap.size < v4.heap.size := B24.out.lt
 go_wp2_with fail
 refine (drAnyT v0.heap.size len cap a _ D4.out.c).mono ?_
 rintro e v5 ⟨t1, ra1, rc1, wa1, wc1, ht, rfl, ho1, ho2, d⟩
 have HT1 := hide ht
 have hsv5 := d.size
 have R15 := hide (R14.out.keptD d (by omega))
 have R25 := hide (R24.out.keptD d (by omega))
 have HB5 := hide (d.out HB4.out (by omega) (by omega))
 have D5 := hide (D4.out.step d)
 have B25 := hide (B24.out.keptD d (by omega))
 clear R14 R24 HB4 D4 B24
 clear d ht
 have OR15 : Hid (Lies encR 36 v5 (v4.heap.size) (v5.heap.size) (.slice ra1 t1.rs.length rc1) (t1.rs)) := Lies.of ho1
 have OW15 : Hid (Lies encW 42 v5 (v4.heap.size) (v5.heap.size) (.slice wa1 t1.ws.length wc1) (t1.ws)) := Lies.of ho2
 clear ho1 ho2
 go_upto_region 5 with fail
 have hb : Below v5.heap.size v5 (v5.alloc (.cells #[.int .i64 t1.id, .int .i64 t1.st, .int .i64 t1.snap, .int .i64 t1.cs, .slice ra1 t1.rs.length rc1, .slice wa1 t1.ws.length wc1, .bool t1.out, .string t1.nm] 27)) := (belowRefl v5).alloc (Nat.le_refl _) _
 have R16 := hide (R15.out.below hb)
 have R26 := hide (R25.out.below hb)
 have HB6 := hide (HB5.out.trans (hb.mono HB5.out.size))
 have D6 := hide (D5.out.below hb)
 have B26 := hide (B25.out.below hb)
 have OR16 := hide (OR15.out.below hb)
 have OW16 := hide (OW15.out.below hb)
 clear R15 R25 HB5 D5 B25 OR15 OW15
 have B16 := hide (Bx.new v5 [.int .i64 t1.id, .int .i64 t1.st, .int .i64 t1.snap, .int .i64 t1.cs, .slice ra1 t1.rs.length rc1, .slice wa1 t1.ws.length wc1, .bool t1.out, .string t1.nm] 27)
 clear hb
 generalize (v5.alloc (.cells #[.int .i64 t1.id, .int .i64 t1.st, .int .i64 t1.snap, .int .i64 t1.cs, .slice ra1 t1.rs.length rc1, .slice wa1 t1.ws.length wc1, .bool t1.out, .string t1.nm] 27)) = v6 at *
 have hlv6 : v5.heap.size < v6.heap.size := B16.out.lt
 by_cases h0 : 0 < n
 ·have h0' : (0 : Int) < (n : Int) := by omega
  go_wp2_with fail
  refine (drRanges v0.heap.size len cap a _ D6.out.c).mono ?_
  rintro e u1 ⟨rs, ra, rc, hrs, hrl, rfl, ho, d⟩
  have HRS := hide hrs
  have hsu1 := d.size
  have R17 := hide (R16.out.keptD d (by omega))
  have R27 := hide (R26.out.keptD d (by omega))
  have HB7 := hide (d.out HB6.out (by omega) (by omega))
  have D7 := hide (D6.out.step d)
  have B27 := hide (B26.out.keptD d (by omega))
  have OR17 : Hid (Lies encR 36 u1 (v4.heap.size) (v5.heap.size) (.slice ra1 t1.rs.length rc1) (t1.rs)) := ⟨OR16.out.own.keptD d (by omega), OR16.out.up⟩
  have OW17 : Hid (Lies encW 42 u1 (v4.heap.size) (v5.heap.size) (.slice wa1 t1.ws.length wc1) (t1.ws)) := ⟨OW16.out.own.keptD d (by omega), OW16.out.up⟩
  have B17 := hide (B16.out.keptD d (by omega))
  clear R16 R26 HB6 D6 B26 OR16 OW16 B16
  have OR37 : Hid (Lies encR 36 u1 (v6.heap.size) (u1.heap.size) (.slice ra rs.length rc) (rs)) := Lies.of ho
  clear d ho hrs
  clear OR17
  clear OW17
  have q0_ := B17.out.c0
  have fq0 := B17.out.fz 0
  have q1_ := B17.out.c1
  have fq1 := B17.out.fz 1
  have q2_ := B17.out.c2
  have fq2 := B17.out.fz 2
  have q3_ := B17.out.c3
  have fq3 := B17.out.fz 3
  have q4_ := B17.out.c4
  have fq4 := B17.out.fz 4
  have q5_ := B17.out.c5
  have fq5 := B17.out.fz 5
  have q6_ := B17.out.c6
  have fq6 := B17.out.fz 6
  have q7_ := B17.out.c7
  have fq7 := B17.out.fz 7
  go_upto_region 7 with fail
  clear q0_ fq0 q1_ fq1 q2_ fq2 q3_ fq3 q4_ fq4 q5_ fq5 q6_ fq6 q7_ fq7
  have R18 := hide (R17.out.o8P (ob := v5.heap.size) (by omega) (.int .i64 1) (.int .i64 1) (.int .i64 2) (.int .i64 0) (.slice ra rs.length rc) (.slice none 0 0) (.bool false) (.string ⟨#[]⟩))
  have R28 := hide (R27.out.o8P (ob := v5.heap.size) (by omega) (.int .i64 1) (.int .i64 1) (.int .i64 2) (.int .i64 0) (.slice ra rs.length rc) (.slice none 0 0) (.bool false) (.string ⟨#[]⟩))
  have HB8 := hide (below_s8P HB7.out (ob := v5.heap.size) (by omega) (.int .i64 1) (.int .i64 1) (.int .i64 2) (.int .i64 0) (.slice ra rs.length rc) (.slice none 0 0) (.bool false) (.string ⟨#[]⟩))
  have D8 : Hid (Dn v1 ((((((((u1.setCell ⟨v5.heap.size, 0, none⟩ (.int .i64 1)).setCell ⟨v5.heap.size, 1, none⟩ (.int .i64 1)).setCell ⟨v5.heap.size, 2, none⟩ (.int .i64 2)).setCell ⟨v5.heap.size, 3, none⟩ (.int .i64 0)).setCell ⟨v5.heap.size, 4, none⟩ (.slice ra rs.length rc)).setCell ⟨v5.heap.size, 5, none⟩ (.slice none 0 0)).setCell ⟨v5.heap.size, 6, none⟩ (.bool false)).setCell ⟨v5.heap.size, 7, none⟩ (.string ⟨#[]⟩)) (v0.heap.size) a len cap) := D7.out.belowB (below_s8P (Below.refl _ _) (ob := v5.heap.size) (by omega) (.int .i64 1) (.int .i64 1) (.int .i64 2) (.int .i64 0) (.slice ra rs.length rc) (.slice none 0 0) (.bool false) (.string ⟨#[]⟩))
  have B28 := hide (B27.out.o8P (ob := v5.heap.size) (by omega) (.int .i64 1) (.int .i64 1) (.int .i64 2) (.int .i64 0) (.slice ra rs.length rc) (.slice none 0 0) (.bool false) (.string ⟨#[]⟩))
  have B18 := hide (B17.out.s8P (.int .i64 1) (.int .i64 1) (.int .i64 2) (.int .i64 0) (.slice ra rs.length rc) (.slice none 0 0) (.bool false) (.string ⟨#[]⟩))
  have OR38 : Hid (Lies encR 36 ((((((((u1.setCell ⟨v5.heap.size, 0, none⟩ (.int .i64 1)).setCell ⟨v5.heap.size, 1, none⟩ (.int .i64 1)).setCell ⟨v5.heap.size, 2, none⟩ (.int .i64 2)).setCell ⟨v5.heap.size, 3, none⟩ (.int .i64 0)).setCell ⟨v5.heap.size, 4, none⟩ (.slice ra rs.length rc)).setCell ⟨v5.heap.size, 5, none⟩ (.slice none 0 0)).setCell ⟨v5.heap.size, 6, none⟩ (.bool false)).setCell ⟨v5.heap.size, 7, none⟩ (.string ⟨#[]⟩)) (v6.heap.size) (u1.heap.size) (.slice ra rs.length rc) (rs)) := ⟨own_s8P OR37.out.own (ob := v5.heap.size) (by omega) (.int .i64 1) (.int .i64 1) (.int .i64 2) (.int .i64 0) (.slice ra rs.length rc) (.slice none 0 0) (.bool false) (.string ⟨#[]⟩), OR37.out.up⟩
  clear R17 R27 HB7 D7 B27 B17 OR37
  have hzu2 : ((((((((u1.setCell ⟨v5.heap.size, 0, none⟩ (.int .i64 1)).setCell ⟨v5.heap.size, 1, none⟩ (.int .i64 1)).setCell ⟨v5.heap.size, 2, none⟩ (.int .i64 2)).setCell ⟨v5.heap.size, 3, none⟩ (.int .i64 0)).setCell ⟨v5.heap.size, 4, none⟩ (.slice ra rs.length rc)).setCell ⟨v5.heap.size, 5, none⟩ (.slice none 0 0)).setCell ⟨v5.heap.size, 6, none⟩ (.bool false)).setCell ⟨v5.heap.size, 7, none⟩ (.string ⟨#[]⟩)).heap.size = u1.heap.size := size_s8P _ _ _ _ _ _ _ _ _ _
  generalize ((((((((u1.setCell ⟨v5.heap.size, 0, none⟩ (.int .i64 1)).setCell ⟨v5.heap.size, 1, none⟩ (.int .i64 1)).setCell ⟨v5.heap.size, 2, none⟩ (.int .i64 2)).setCell ⟨v5.heap.size, 3, none⟩ (.int .i64 0)).setCell ⟨v5.heap.size, 4, none⟩ (.slice ra rs.length rc)).setCell ⟨v5.heap.size, 5, none⟩ (.slice none 0 0)).setCell ⟨v5.heap.size, 6, none⟩ (.bool false)).setCell ⟨v5.heap.size, 7, none⟩ (.string ⟨#[]⟩)) = u2 at *
  go_wp2_with fail
  refine (drOnce v0.heap.size len cap a 10 (by omega) (by omega) _ D8.out.c).mono ?_
  rintro e u3 ⟨b, rfl, d⟩
  have hsu3 := d.size
  have R19 := hide (R18.out.keptD d (by omega))
  have R29 := hide (R28.out.keptD d (by omega))
  have HB9 := hide (d.out HB8.out (by omega) (by omega))
  have D9 := hide (D8.out.step d)
  have B29 := hide (B28.out.keptD d (by omega))
  have B19 := hide (B18.out.keptD d (by omega))
  have OR39 : Hid (Lies encR 36 u3 (v6.heap.size) (u1.heap.size) (.slice ra rs.length rc) (rs)) := ⟨OR38.out.own.keptD d (by omega), OR38.out.up⟩
  clear R18 R28 HB8 D8 B28 B18 OR38
  clear d
  cases b
  ·go_upto_region 10 with fail
   refine wp_region_held_drew (S := fun w' => w'.cell? ⟨v5.heap.size, 0, none⟩ = some (.int .i64 1) ∧ w'.cell? ⟨v5.heap.size, 1, none⟩ = some (.int .i64 1) ∧ w'.cell? ⟨v5.heap.size, 2, none⟩ = some (.int .i64 2) ∧ w'.cell? ⟨v5.heap.size, 3, none⟩ = some (.int .i64 0) ∧ w'.cell? ⟨v5.heap.size, 4, none⟩ = some (.slice ra rs.length rc) ∧ w'.cell? ⟨v5.heap.size, 5, none⟩ = some (.slice none 0 0) ∧ w'.cell? ⟨v5.heap.size, 6, none⟩ = some (.bool false) ∧ w'.cell? ⟨v5.heap.size, 7, none⟩ = some (.string ⟨#[]⟩) ∧ w'.cell? ⟨v3.heap.size, 0, none⟩ = some (.string r.1) ∧ w'.cell? ⟨v3.heap.size, 1, none⟩ = some (.string r.2)) (by kernel_rfl) ⟨B19.out.c0, B19.out.c1, B19.out.c2, B19.out.c3, B19.out.c4, B19.out.c5, B19.out.c6, B19.out.c7, B29.out.c0, B29.out.c1⟩ (fun hHeld => ?_)
   (refine tk 0 ?_ rfl (Or.inl ⟨by rfl, ?_⟩) ?_; rotate_left; (focus (intro w h; (try dsimp only at h); go_simp; (try with_reducible rfl))); simp only [Act.put, tA, tB, tD, tE, tF])
   (refine tk 1 ?_ rfl (Or.inl ⟨by rfl, ?_⟩) ?_; rotate_left; (focus (intro w h; (try dsimp only at h); go_simp; (try with_reducible rfl))); simp only [Act.put, tA, tB, tC, tD, tE, tF])
   have R110 := hide (R19.out.below (belowRefl u3).drew)
   have R210 := hide (R29.out.below (belowRefl u3).drew)
   have HB10 := hide (HB9.out.trans ((belowRefl u3).drew.mono HB9.out.size))
   have D10 := hide (D9.out.below (belowRefl u3).drew)
   have B210 := hide (B29.out.below (belowRefl u3).drew)
   have B110 := hide (B19.out.below (belowRefl u3).drew)
   have OR310 := hide (OR39.out.below (belowRefl u3).drew)
   clear R19 R29 HB9 D9 B29 B19 OR39
   have hd6 : u3.heap.size ≤ u3.drew.heap.size := Nat.le_refl _
   clear hHeld
   generalize u3.drew = u7 at *
   clear D10
   have q0_ := R110.out.c0
   have fq0 := R110.out.fz 0
   have q1_ := R110.out.c1
   have fq1 := R110.out.fz 1
   have q2_ := R110.out.c2
   have fq2 := R110.out.fz 2
   have q3_ := R110.out.c3
   have fq3 := R110.out.fz 3
   have q4_ := R110.out.c4
   have fq4 := R110.out.fz 4
   have q5_ := R110.out.c5
   have fq5 := R110.out.fz 5
   have q6_ := R110.out.c6
   have fq6 := R110.out.fz 6
   have q7_ := R110.out.c7
   have fq7 := R110.out.fz 7
   refine wpAnyH_ready (rs := [2]) (by kernel_rfl) (by simp) ?_
   refine AllReadyH.cons rfl (fun K hK => ?_) AllReadyH.nil
   go_simp
   clear q0_ fq0 q1_ fq1 q2_ fq2 q3_ fq3 q4_ fq4 q5_ fq5 q6_ fq6 q7_ fq7
   have R111 := hide (R110.out.s8P (.int .i64 1) (.int .i64 1) (.int .i64 2) (.int .i64 0) (.slice ra rs.length rc) (.slice none 0 0) (.bool false) (.string ⟨#[]⟩))
   have R211 := hide (R210.out.o8P (ob := w.heap.size) (by omega) (.int .i64 1) (.int .i64 1) (.int .i64 2) (.int .i64 0) (.slice ra rs.length rc) (.slice none 0 0) (.bool false) (.string ⟨#[]⟩))
   have HB11 := hide (below_s8P HB10.out (ob := w.heap.size) (by omega) (.int .i64 1) (.int .i64 1) (.int .i64 2) (.int .i64 0) (.slice ra rs.length rc) (.slice none 0 0) (.bool false) (.string ⟨#[]⟩))
   have B211 := hide (B210.out.o8P (ob := w.heap.size) (by omega) (.int .i64 1) (.int .i64 1) (.int .i64 2) (.int .i64 0) (.slice ra rs.length rc) (.slice none 0 0) (.bool false) (.string ⟨#[]⟩))
   have B111 := hide (B110.out.o8P (ob := w.heap.size) (by omega) (.int .i64 1) (.int .i64 1) (.int .i64 2) (.int .i64 0) (.slice ra rs.length rc) (.slice none 0 0) (.bool false) (.string ⟨#[]⟩))
   have OR311 : Hid (Lies encR 36 ((((((((u7.setCell ⟨w.heap.size, 0, none⟩ (.int .i64 1)).setCell ⟨w.heap.size, 1, none⟩ (.int .i64 1)).setCell ⟨w.heap.size, 2, none⟩ (.int .i64 2)).setCell ⟨w.heap.size, 3, none⟩ (.int .i64 0)).setCell ⟨w.heap.size, 4, none⟩ (.slice ra rs.length rc)).setCell ⟨w.heap.size, 5, none⟩ (.slice none 0 0)).setCell ⟨w.heap.size, 6, none⟩ (.bool false)).setCell ⟨w.heap.size, 7, none⟩ (.string ⟨#[]⟩)) (v6.heap.size) (u1.heap.size) (.slice ra rs.length rc) (rs)) := ⟨own_s8P OR310.out.own (ob := w.heap.size) (by omega) (.int .i64 1) (.int .i64 1) (.int .i64 2) (.int .i64 0) (.slice ra rs.length rc) (.slice none 0 0) (.bool false) (.string ⟨#[]⟩), OR310.out.up⟩
   clear R110 R210 HB10 B210 B110 OR310
   generalize ((((((((u7.setCell ⟨w.heap.size, 0, none⟩ (.int .i64 1)).setCell ⟨w.heap.size, 1, none⟩ (.int .i64 1)).setCell ⟨w.heap.size, 2, none⟩ (.int .i64 2)).setCell ⟨w.heap.size, 3, none⟩ (.int .i64 0)).setCell ⟨w.heap.size, 4, none⟩ (.slice ra rs.length rc)).setCell ⟨w.heap.size, 5, none⟩ (.slice none 0 0)).setCell ⟨w.heap.size, 6, none⟩ (.bool false)).setCell ⟨w.heap.size, 7, none⟩ (.string ⟨#[]⟩)) = u8 at *
   (try go_wp2_with fail)
   refine hK.out _ _ ⟨B111.out.c0, B111.out.c1, B111.out.c2, B111.out.c3, B111.out.c4, B111.out.c5, B111.out.c6, B111.out.c7, B211.out.c0, B211.out.c1⟩ (fun hHeld => ?_)
   clear hK K
   have p0_ := R211.out.c0
   have fp0 := R211.out.fz 0
   have p1_ := R211.out.c1
   have fp1 := R211.out.fz 1
   refine wpAnyH_ready (rs := [3]) (by kernel_rfl) (by simp) ?_
   refine AllReadyH.cons rfl (fun K hK => ?_) AllReadyH.nil
   go_simp
   clear p0_ fp0 p1_ fp1
   have R112 : Hid (Bx (u8.setCell ⟨w.heap.size + 1, 0, none⟩ (.string r.1)) (w.heap.size) [.int .i64 1, .int .i64 1, .int .i64 2, .int .i64 0, .slice ra rs.length rc, .slice none 0 0, .bool false, .string ⟨#[]⟩]) := R111.out.setO (p := ⟨w.heap.size + 1, 0, none⟩) (by show w.heap.size + 1 ≠ w.heap.size; omega) _
   have R212 : Hid (Bx (u8.setCell ⟨w.heap.size + 1, 0, none⟩ (.string r.1)) (w.heap.size + 1) [.string r.1, .string ⟨#[]⟩]) := R211.out.set 0 _
   have HB12 : Hid (Below w.heap.size w (u8.setCell ⟨w.heap.size + 1, 0, none⟩ (.string r.1))) := HB11.out.setCell (by show w.heap.size ≤ w.heap.size + 1; omega) _
   have B212 : Hid (Bx (u8.setCell ⟨w.heap.size + 1, 0, none⟩ (.string r.1)) (v3.heap.size) [.string r.1, .string r.2]) := B211.out.setO (p := ⟨w.heap.size + 1, 0, none⟩) (by show w.heap.size + 1 ≠ v3.heap.size; omega) _
   have B112 : Hid (Bx (u8.setCell ⟨w.heap.size + 1, 0, none⟩ (.string r.1)) (v5.heap.size) [.int .i64 1, .int .i64 1, .int .i64 2, .int .i64 0, .slice ra rs.length rc, .slice none 0 0, .bool false, .string ⟨#[]⟩]) := B111.out.setO (p := ⟨w.heap.size + 1, 0, none⟩) (by show w.heap.size + 1 ≠ v5.heap.size; omega) _
   have OR312 : Hid (Lies encR 36 (u8.setCell ⟨w.heap.size + 1, 0, none⟩ (.string r.1)) (v6.heap.size) (u1.heap.size) (.slice ra rs.length rc) (rs)) := OR311.out.setxP (a := ⟨w.heap.size + 1, 0, none⟩) (fun b hb => (by have := OR311.out.lo b hb; show w.heap.size + 1 ≠ b; omega)) _
   clear R111 R211 HB11 B211 B111 OR311
   have R113 : Hid (Bx ((u8.setCell ⟨w.heap.size + 1, 0, none⟩ (.string r.1)).setCell ⟨w.heap.size + 1, 1, none⟩ (.string r.2)) (w.heap.size) [.int .i64 1, .int .i64 1, .int .i64 2, .int .i64 0, .slice ra rs.length rc, .slice none 0 0, .bool false, .string ⟨#[]⟩]) := R112.out.setO (p := ⟨w.heap.size + 1, 1, none⟩) (by show w.heap.size + 1 ≠ w.heap.size; omega) _
   have R213 : Hid (Bx ((u8.setCell ⟨w.heap.size + 1, 0, none⟩ (.string r.1)).setCell ⟨w.heap.size + 1, 1, none⟩ (.string r.2)) (w.heap.size + 1) [.string r.1, .string r.2]) := R212.out.set 1 _
   have HB13 : Hid (Below w.heap.size w ((u8.setCell ⟨w.heap.size + 1, 0, none⟩ (.string r.1)).setCell ⟨w.heap.size + 1, 1, none⟩ (.string r.2))) := HB12.out.setCell (by show w.heap.size ≤ w.heap.size + 1; omega) _
   have B213 : Hid (Bx ((u8.setCell ⟨w.heap.size + 1, 0, none⟩ (.string r.1)).setCell ⟨w.heap.size + 1, 1, none⟩ (.string r.2)) (v3.heap.size) [.string r.1, .string r.2]) := B212.out.setO (p := ⟨w.heap.size + 1, 1, none⟩) (by show w.heap.size + 1 ≠ v3.heap.size; omega) _
   have B113 : Hid (Bx ((u8.setCell ⟨w.heap.size + 1, 0, none⟩ (.string r.1)).setCell ⟨w.heap.size + 1, 1, none⟩ (.string r.2)) (v5.heap.size) [.int .i64 1, .int .i64 1, .int .i64 2, .int .i64 0, .slice ra rs.length rc, .slice none 0 0, .bool false, .string ⟨#[]⟩]) := B112.out.setO (p := ⟨w.heap.size + 1, 1, none⟩) (by show w.heap.size + 1 ≠ v5.heap.size; omega) _
   have OR313 : Hid (Lies encR 36 ((u8.setCell ⟨w.heap.size + 1, 0, none⟩ (.string r.1)).setCell ⟨w.heap.size + 1, 1, none⟩ (.string r.2)) (v6.heap.size) (u1.heap.size) (.slice ra rs.length rc) (rs)) := OR312.out.setxP (a := ⟨w.heap.size + 1, 1, none⟩) (fun b hb => (by have := OR312.out.lo b hb; show w.heap.size + 1 ≠ b; omega)) _
   clear R112 R212 HB12 B212 B112 OR312
   generalize ((u8.setCell ⟨w.heap.size + 1, 0, none⟩ (.string r.1)).setCell ⟨w.heap.size + 1, 1, none⟩ (.string r.2)) = u9 at *
   (try go_wp2_with fail)
   refine hK.out _ _ ⟨B113.out.c0, B113.out.c1, B113.out.c2, B113.out.c3, B113.out.c4, B113.out.c5, B113.out.c6, B113.out.c7, B213.out.c0, B213.out.c1⟩ (fun hHeld => ?_)
   clear hK K
   refine wpAnyH_done (by kernel_rfl) ?_ _
   go_wp2
   have q0_ := R113.out.c0
   have fq0 := R113.out.fz 0
   have q1_ := R113.out.c1
   have fq1 := R113.out.fz 1
   have q2_ := R113.out.c2
   have fq2 := R113.out.fz 2
   have q3_ := R113.out.c3
   have fq3 := R113.out.fz 3
   have q4_ := R113.out.c4
   have fq4 := R113.out.fz 4
   have q5_ := R113.out.c5
   have fq5 := R113.out.fz 5
   have q6_ := R113.out.c6
   have fq6 := R113.out.fz 6
   have q7_ := R113.out.c7
   have fq7 := R113.out.fz 7
   have p0_ := R213.out.c0
   have p1_ := R213.out.c1
   exact bodyPost_ret (v := .tuple #[.agg #[.int .i64 1, .int .i64 1, .int .i64 2, .int .i64 0, .slice ra rs.length rc, .slice none 0 0, .bool false, .string ⟨#[]⟩], .agg #[.string r.1, .string r.2]]) (by simp [results, Tryz.results10, go_sem, q0_, q1_, q2_, q3_, q4_, q5_, q6_, q7_, p0_, p1_]) rfl ⟨⟨1, 1, 2, 0, rs, [], false, ⟨#[]⟩⟩, ra, rc, none, 0, r, ⟨⟨by show rs.length ≤ _; omega, HRS.out.fit, by show (0 : Nat) ≤ _; omega, fun x hx => by simp at hx, by show (⟨#[]⟩ : ByteArray).size ≤ 1048576; decide⟩, by show rs.length ≤ 8; omega, by show (0 : Nat) ≤ 4; omega⟩, (fun h => absurd h (by show ¬ rs.length = 8; omega)), ⟨(keyL_ok _ HX.out.1).2, (keyL_ok _ HX.out.2.1).2⟩, rfl, OR313.out.own.mono (by omega), GOwn.nil _ _, HB13.out⟩
  ·have hu3 : v5.heap.size < u3.heap.size := by omega
   have hn12 : v5.heap.size ≠ v3.heap.size := by omega
   have y0 := B29.out.c0
   have y1 := B29.out.c1
   have bb := B19.out.alloc (.cells #[.string r.1, .string r.2, .string r.1, .string r.2, .string r.1, .string r.2, .string r.1, .string r.2, .string r.1, .string r.2, .string r.1, .string r.2, .string r.1, .string r.2, .string ⟨#[120]⟩, .string ⟨#[121]⟩] 36)
   have z4 := bb.c4
   have z4f := bb.fz 4
   have zz4 := B19.out.c4
   have zz4f := B19.out.fz 4
   clear bb
   go_upto_region 9 with fail
   clear y0 y1 z4 z4f zz4 zz4f
   have R110 : Hid (Bx (u3.setCell ⟨v5.heap.size, 4, none⟩ (.slice (some ⟨u3.heap.size, 0, none⟩) 8 8)) (w.heap.size) [.int .i64 0, .int .i64 0, .int .i64 0, .int .i64 0, .slice none 0 0, .slice none 0 0, .bool false, .string ⟨#[]⟩]) := R19.out.setO (p := ⟨v5.heap.size, 4, none⟩) (by show v5.heap.size ≠ w.heap.size; omega) _
   have R210 : Hid (Bx (u3.setCell ⟨v5.heap.size, 4, none⟩ (.slice (some ⟨u3.heap.size, 0, none⟩) 8 8)) (w.heap.size + 1) [.string ⟨#[]⟩, .string ⟨#[]⟩]) := R29.out.setO (p := ⟨v5.heap.size, 4, none⟩) (by show v5.heap.size ≠ w.heap.size + 1; omega) _
   have HB10 : Hid (Below w.heap.size w (u3.setCell ⟨v5.heap.size, 4, none⟩ (.slice (some ⟨u3.heap.size, 0, none⟩) 8 8))) := HB9.out.setCell (by show w.heap.size ≤ v5.heap.size; omega) _
   have D10 : Hid (Dn v1 (u3.setCell ⟨v5.heap.size, 4, none⟩ (.slice (some ⟨u3.heap.size, 0, none⟩) 8 8)) (v0.heap.size) a len cap) := D9.out.set (p := ⟨v5.heap.size, 4, none⟩) (by show v1.heap.size ≤ v5.heap.size; omega) _
   have B210 : Hid (Bx (u3.setCell ⟨v5.heap.size, 4, none⟩ (.slice (some ⟨u3.heap.size, 0, none⟩) 8 8)) (v3.heap.size) [.string r.1, .string r.2]) := B29.out.setO (p := ⟨v5.heap.size, 4, none⟩) (by show v5.heap.size ≠ v3.heap.size; omega) _
   have B110 : Hid (Bx (u3.setCell ⟨v5.heap.size, 4, none⟩ (.slice (some ⟨u3.heap.size, 0, none⟩) 8 8)) (v5.heap.size) [.int .i64 1, .int .i64 1, .int .i64 2, .int .i64 0, .slice (some ⟨u3.heap.size, 0, none⟩) 8 8, .slice none 0 0, .bool false, .string ⟨#[]⟩]) := B19.out.set 4 _
   have OR310 : Hid (Lies encR 36 (u3.setCell ⟨v5.heap.size, 4, none⟩ (.slice (some ⟨u3.heap.size, 0, none⟩) 8 8)) (v6.heap.size) (u1.heap.size) (.slice ra rs.length rc) (rs)) := OR39.out.setxP (a := ⟨v5.heap.size, 4, none⟩) (fun b hb => (by have := OR39.out.lo b hb; show v5.heap.size ≠ b; omega)) _
   clear R19 R29 HB9 D9 B29 B19 OR39
   have hz4 : (u3.setCell ⟨v5.heap.size, 4, none⟩ (.slice (some ⟨u3.heap.size, 0, none⟩) 8 8)).heap.size = u3.heap.size := by simp [World.setCell]
   generalize (u3.setCell ⟨v5.heap.size, 4, none⟩ (.slice (some ⟨u3.heap.size, 0, none⟩) 8 8)) = u6 at *
   have hb : Below u6.heap.size u6 (u6.alloc (.cells #[.string r.1, .string r.2, .string r.1, .string r.2, .string r.1, .string r.2, .string r.1, .string r.2, .string r.1, .string r.2, .string r.1, .string r.2, .string r.1, .string r.2, .string ⟨#[120]⟩, .string ⟨#[121]⟩] 36)) := (belowRefl u6).alloc (Nat.le_refl _) _
   have hzA : (u6.alloc (.cells #[.string r.1, .string r.2, .string r.1, .string r.2, .string r.1, .string r.2, .string r.1, .string r.2, .string r.1, .string r.2, .string r.1, .string r.2, .string r.1, .string r.2, .string ⟨#[120]⟩, .string ⟨#[121]⟩] 36)).heap.size = u3.heap.size + 1 := by rw [World.size_alloc, hz4]
   have R111 := hide (R110.out.below hb)
   have R211 := hide (R210.out.below hb)
   have HB11 := hide (HB10.out.trans (hb.mono HB10.out.size))
   have D11 := hide (D10.out.below hb)
   have B211 := hide (B210.out.below hb)
   have B111 := hide (B110.out.below hb)
   have OR311 := hide (OR310.out.below hb)
   clear R110 R210 HB10 D10 B210 B110 OR310
   clear hb
   have OE11 : Hid (Lies encR 36 (u6.alloc (.cells #[.string r.1, .string r.2, .string r.1, .string r.2, .string r.1, .string r.2, .string r.1, .string r.2, .string r.1, .string r.2, .string r.1, .string r.2, .string r.1, .string r.2, .string ⟨#[120]⟩, .string ⟨#[121]⟩] 36)) (u3.heap.size) (u3.heap.size + 1) (.slice (some ⟨u3.heap.size, 0, none⟩) 8 8) (eight r)) := by have h := Lies.of (show GOwn encR 36 (u6.alloc (.cells #[.string r.1, .string r.2, .string r.1, .string r.2, .string r.1, .string r.2, .string r.1, .string r.2, .string r.1, .string r.2, .string r.1, .string r.2, .string r.1, .string r.2, .string ⟨#[120]⟩, .string ⟨#[121]⟩] 36)) u6.heap.size (.slice (some ⟨u6.heap.size, 0, none⟩) 8 8) (eight r) from World.ownsRow_lit (size := encR.size) u6 #[.string r.1, .string r.2, .string r.1, .string r.2, .string r.1, .string r.2, .string r.1, .string r.2, .string r.1, .string r.2, .string r.1, .string r.2, .string r.1, .string r.2, .string ⟨#[120]⟩, .string ⟨#[121]⟩] 8 (Nat.le_refl _) (by unfold maxLen; omega) rfl); rw [World.size_alloc, hz4] at h; exact h
   generalize (u6.alloc (.cells #[.string r.1, .string r.2, .string r.1, .string r.2, .string r.1, .string r.2, .string r.1, .string r.2, .string r.1, .string r.2, .string r.1, .string r.2, .string r.1, .string r.2, .string ⟨#[120]⟩, .string ⟨#[121]⟩] 36)) = u4 at *
   have y0 := B211.out.c0
   have y1 := B211.out.c1
   have y1f := B211.out.fz 1
   go_upto_region 10 with fail
   clear y0 y1 y1f
   have R112 : Hid (Bx (u4.setCell ⟨v3.heap.size, 1, none⟩ (.string ⟨#[122, 122]⟩)) (w.heap.size) [.int .i64 0, .int .i64 0, .int .i64 0, .int .i64 0, .slice none 0 0, .slice none 0 0, .bool false, .string ⟨#[]⟩]) := R111.out.setO (p := ⟨v3.heap.size, 1, none⟩) (by show v3.heap.size ≠ w.heap.size; omega) _
   have R212 : Hid (Bx (u4.setCell ⟨v3.heap.size, 1, none⟩ (.string ⟨#[122, 122]⟩)) (w.heap.size + 1) [.string ⟨#[]⟩, .string ⟨#[]⟩]) := R211.out.setO (p := ⟨v3.heap.size, 1, none⟩) (by show v3.heap.size ≠ w.heap.size + 1; omega) _
   have HB12 : Hid (Below w.heap.size w (u4.setCell ⟨v3.heap.size, 1, none⟩ (.string ⟨#[122, 122]⟩))) := HB11.out.setCell (by show w.heap.size ≤ v3.heap.size; omega) _
   have D12 : Hid (Dn v1 (u4.setCell ⟨v3.heap.size, 1, none⟩ (.string ⟨#[122, 122]⟩)) (v0.heap.size) a len cap) := D11.out.set (p := ⟨v3.heap.size, 1, none⟩) (by show v1.heap.size ≤ v3.heap.size; omega) _
   have B212 : Hid (Bx (u4.setCell ⟨v3.heap.size, 1, none⟩ (.string ⟨#[122, 122]⟩)) (v3.heap.size) [.string r.1, .string ⟨#[122, 122]⟩]) := B211.out.set 1 _
   have B112 : Hid (Bx (u4.setCell ⟨v3.heap.size, 1, none⟩ (.string ⟨#[122, 122]⟩)) (v5.heap.size) [.int .i64 1, .int .i64 1, .int .i64 2, .int .i64 0, .slice (some ⟨u3.heap.size, 0, none⟩) 8 8, .slice none 0 0, .bool false, .string ⟨#[]⟩]) := B111.out.setO (p := ⟨v3.heap.size, 1, none⟩) (by show v3.heap.size ≠ v5.heap.size; omega) _
   have OR312 : Hid (Lies encR 36 (u4.setCell ⟨v3.heap.size, 1, none⟩ (.string ⟨#[122, 122]⟩)) (v6.heap.size) (u1.heap.size) (.slice ra rs.length rc) (rs)) := OR311.out.setxP (a := ⟨v3.heap.size, 1, none⟩) (fun b hb => (by have := OR311.out.lo b hb; show v3.heap.size ≠ b; omega)) _
   have OE12 : Hid (Lies encR 36 (u4.setCell ⟨v3.heap.size, 1, none⟩ (.string ⟨#[122, 122]⟩)) (u3.heap.size) (u3.heap.size + 1) (.slice (some ⟨u3.heap.size, 0, none⟩) 8 8) (eight r)) := OE11.out.setxP (a := ⟨v3.heap.size, 1, none⟩) (fun b hb => (by have := OE11.out.lo b hb; show v3.heap.size ≠ b; omega)) _
   clear R111 R211 HB11 D11 B211 B111 OR311 OE11
   have hz5 : (u4.setCell ⟨v3.heap.size, 1, none⟩ (.string ⟨#[122, 122]⟩)).heap.size = u4.heap.size := by simp [World.setCell]
   generalize (u4.setCell ⟨v3.heap.size, 1, none⟩ (.string ⟨#[122, 122]⟩)) = u5 at *
   refine wp_region_held_drew (S := fun w' => w'.cell? ⟨v5.heap.size, 0, none⟩ = some (.int .i64 1) ∧ w'.cell? ⟨v5.heap.size, 1, none⟩ = some (.int .i64 1) ∧ w'.cell? ⟨v5.heap.size, 2, none⟩ = some (.int .i64 2) ∧ w'.cell? ⟨v5.heap.size, 3, none⟩ = some (.int .i64 0) ∧ w'.cell? ⟨v5.heap.size, 4, none⟩ = some (.slice (some ⟨u3.heap.size, 0, none⟩) 8 8) ∧ w'.cell? ⟨v5.heap.size, 5, none⟩ = some (.slice none 0 0) ∧ w'.cell? ⟨v5.heap.size, 6, none⟩ = some (.bool false) ∧ w'.cell? ⟨v5.heap.size, 7, none⟩ = some (.string ⟨#[]⟩) ∧ w'.cell? ⟨v3.heap.size, 0, none⟩ = some (.string r.1) ∧ w'.cell? ⟨v3.heap.size, 1, none⟩ = some (.string ⟨#[122, 122]⟩)) (by kernel_rfl) ⟨B112.out.c0, B112.out.c1, B112.out.c2, B112.out.c3, B112.out.c4, B112.out.c5, B112.out.c6, B112.out.c7, B212.out.c0, B212.out.c1⟩ (fun hHeld => ?_)
   (refine tk 0 ?_ rfl (Or.inl ⟨by rfl, ?_⟩) ?_; rotate_left; (focus (intro w h; (try dsimp only at h); go_simp; (try with_reducible rfl))); simp only [Act.put, tA, tB, tD, tE, tF])
   (refine tk 1 ?_ rfl (Or.inl ⟨by rfl, ?_⟩) ?_; rotate_left; (focus (intro w h; (try dsimp only at h); go_simp; (try with_reducible rfl))); simp only [Act.put, tA, tB, tC, tD, tE, tF])
   have R113 := hide (R112.out.below (belowRefl u5).drew)
   have R213 := hide (R212.out.below (belowRefl u5).drew)
   have HB13 := hide (HB12.out.trans ((belowRefl u5).drew.mono HB12.out.size))
   have D13 := hide (D12.out.below (belowRefl u5).drew)
   have B213 := hide (B212.out.below (belowRefl u5).drew)
   have B113 := hide (B112.out.below (belowRefl u5).drew)
   have OR313 := hide (OR312.out.below (belowRefl u5).drew)
   have OE13 := hide (OE12.out.below (belowRefl u5).drew)
   clear R112 R212 HB12 D12 B212 B112 OR312 OE12
   have hd6 : u5.heap.size ≤ u5.drew.heap.size := Nat.le_refl _
   clear hHeld
   generalize u5.drew = u7 at *
   clear D13
   have q0_ := R113.out.c0
   have fq0 := R113.out.fz 0
   have q1_ := R113.out.c1
   have fq1 := R113.out.fz 1
   have q2_ := R113.out.c2
   have fq2 := R113.out.fz 2
   have q3_ := R113.out.c3
   have fq3 := R113.out.fz 3
   have q4_ := R113.out.c4
   have fq4 := R113.out.fz 4
   have q5_ := R113.out.c5
   have fq5 := R113.out.fz 5
   have q6_ := R113.out.c6
   have fq6 := R113.out.fz 6
   have q7_ := R113.out.c7
   have fq7 := R113.out.fz 7
   refine wpAnyH_ready (rs := [2]) (by kernel_rfl) (by simp) ?_
   refine AllReadyH.cons rfl (fun K hK => ?_) AllReadyH.nil
   go_simp
   clear q0_ fq0 q1_ fq1 q2_ fq2 q3_ fq3 q4_ fq4 q5_ fq5 q6_ fq6 q7_ fq7
   have R114 := hide (R113.out.s8P (.int .i64 1) (.int .i64 1) (.int .i64 2) (.int .i64 0) (.slice (some ⟨u3.heap.size, 0, none⟩) 8 8) (.slice none 0 0) (.bool false) (.string ⟨#[]⟩))
   have R214 := hide (R213.out.o8P (ob := w.heap.size) (by omega) (.int .i64 1) (.int .i64 1) (.int .i64 2) (.int .i64 0) (.slice (some ⟨u3.heap.size, 0, none⟩) 8 8) (.slice none 0 0) (.bool false) (.string ⟨#[]⟩))
   have HB14 := hide (below_s8P HB13.out (ob := w.heap.size) (by omega) (.int .i64 1) (.int .i64 1) (.int .i64 2) (.int .i64 0) (.slice (some ⟨u3.heap.size, 0, none⟩) 8 8) (.slice none 0 0) (.bool false) (.string ⟨#[]⟩))
   have B214 := hide (B213.out.o8P (ob := w.heap.size) (by omega) (.int .i64 1) (.int .i64 1) (.int .i64 2) (.int .i64 0) (.slice (some ⟨u3.heap.size, 0, none⟩) 8 8) (.slice none 0 0) (.bool false) (.string ⟨#[]⟩))
   have B114 := hide (B113.out.o8P (ob := w.heap.size) (by omega) (.int .i64 1) (.int .i64 1) (.int .i64 2) (.int .i64 0) (.slice (some ⟨u3.heap.size, 0, none⟩) 8 8) (.slice none 0 0) (.bool false) (.string ⟨#[]⟩))
   have OR314 : Hid (Lies encR 36 ((((((((u7.setCell ⟨w.heap.size, 0, none⟩ (.int .i64 1)).setCell ⟨w.heap.size, 1, none⟩ (.int .i64 1)).setCell ⟨w.heap.size, 2, none⟩ (.int .i64 2)).setCell ⟨w.heap.size, 3, none⟩ (.int .i64 0)).setCell ⟨w.heap.size, 4, none⟩ (.slice (some ⟨u3.heap.size, 0, none⟩) 8 8)).setCell ⟨w.heap.size, 5, none⟩ (.slice none 0 0)).setCell ⟨w.heap.size, 6, none⟩ (.bool false)).setCell ⟨w.heap.size, 7, none⟩ (.string ⟨#[]⟩)) (v6.heap.size) (u1.heap.size) (.slice ra rs.length rc) (rs)) := ⟨own_s8P OR313.out.own (ob := w.heap.size) (by omega) (.int .i64 1) (.int .i64 1) (.int .i64 2) (.int .i64 0) (.slice (some ⟨u3.heap.size, 0, none⟩) 8 8) (.slice none 0 0) (.bool false) (.string ⟨#[]⟩), OR313.out.up⟩
   have OE14 : Hid (Lies encR 36 ((((((((u7.setCell ⟨w.heap.size, 0, none⟩ (.int .i64 1)).setCell ⟨w.heap.size, 1, none⟩ (.int .i64 1)).setCell ⟨w.heap.size, 2, none⟩ (.int .i64 2)).setCell ⟨w.heap.size, 3, none⟩ (.int .i64 0)).setCell ⟨w.heap.size, 4, none⟩ (.slice (some ⟨u3.heap.size, 0, none⟩) 8 8)).setCell ⟨w.heap.size, 5, none⟩ (.slice none 0 0)).setCell ⟨w.heap.size, 6, none⟩ (.bool false)).setCell ⟨w.heap.size, 7, none⟩ (.string ⟨#[]⟩)) (u3.heap.size) (u3.heap.size + 1) (.slice (some ⟨u3.heap.size, 0, none⟩) 8 8) (eight r)) := ⟨own_s8P OE13.out.own (ob := w.heap.size) (by omega) (.int .i64 1) (.int .i64 1) (.int .i64 2) (.int .i64 0) (.slice (some ⟨u3.heap.size, 0, none⟩) 8 8) (.slice none 0 0) (.bool false) (.string ⟨#[]⟩), OE13.out.up⟩
   clear R113 R213 HB13 B213 B113 OR313 OE13
   generalize ((((((((u7.setCell ⟨w.heap.size, 0, none⟩ (.int .i64 1)).setCell ⟨w.heap.size, 1, none⟩ (.int .i64 1)).setCell ⟨w.heap.size, 2, none⟩ (.int .i64 2)).setCell ⟨w.heap.size, 3, none⟩ (.int .i64 0)).setCell ⟨w.heap.size, 4, none⟩ (.slice (some ⟨u3.heap.size, 0, none⟩) 8 8)).setCell ⟨w.heap.size, 5, none⟩ (.slice none 0 0)).setCell ⟨w.heap.size, 6, none⟩ (.bool false)).setCell ⟨w.heap.size, 7, none⟩ (.string ⟨#[]⟩)) = u8 at *
   (try go_wp2_with fail)
   refine hK.out _ _ ⟨B114.out.c0, B114.out.c1, B114.out.c2, B114.out.c3, B114.out.c4, B114.out.c5, B114.out.c6, B114.out.c7, B214.out.c0, B214.out.c1⟩ (fun hHeld => ?_)
   clear hK K
   have p0_ := R214.out.c0
   have fp0 := R214.out.fz 0
   have p1_ := R214.out.c1
   have fp1 := R214.out.fz 1
   refine wpAnyH_ready (rs := [3]) (by kernel_rfl) (by simp) ?_
   refine AllReadyH.cons rfl (fun K hK => ?_) AllReadyH.nil
   go_simp
   clear p0_ fp0 p1_ fp1
   have R115 : Hid (Bx (u8.setCell ⟨w.heap.size + 1, 0, none⟩ (.string r.1)) (w.heap.size) [.int .i64 1, .int .i64 1, .int .i64 2, .int .i64 0, .slice (some ⟨u3.heap.size, 0, none⟩) 8 8, .slice none 0 0, .bool false, .string ⟨#[]⟩]) := R114.out.setO (p := ⟨w.heap.size + 1, 0, none⟩) (by show w.heap.size + 1 ≠ w.heap.size; omega) _
   have R215 : Hid (Bx (u8.setCell ⟨w.heap.size + 1, 0, none⟩ (.string r.1)) (w.heap.size + 1) [.string r.1, .string ⟨#[]⟩]) := R214.out.set 0 _
   have HB15 : Hid (Below w.heap.size w (u8.setCell ⟨w.heap.size + 1, 0, none⟩ (.string r.1))) := HB14.out.setCell (by show w.heap.size ≤ w.heap.size + 1; omega) _
   have B215 : Hid (Bx (u8.setCell ⟨w.heap.size + 1, 0, none⟩ (.string r.1)) (v3.heap.size) [.string r.1, .string ⟨#[122, 122]⟩]) := B214.out.setO (p := ⟨w.heap.size + 1, 0, none⟩) (by show w.heap.size + 1 ≠ v3.heap.size; omega) _
   have B115 : Hid (Bx (u8.setCell ⟨w.heap.size + 1, 0, none⟩ (.string r.1)) (v5.heap.size) [.int .i64 1, .int .i64 1, .int .i64 2, .int .i64 0, .slice (some ⟨u3.heap.size, 0, none⟩) 8 8, .slice none 0 0, .bool false, .string ⟨#[]⟩]) := B114.out.setO (p := ⟨w.heap.size + 1, 0, none⟩) (by show w.heap.size + 1 ≠ v5.heap.size; omega) _
   have OR315 : Hid (Lies encR 36 (u8.setCell ⟨w.heap.size + 1, 0, none⟩ (.string r.1)) (v6.heap.size) (u1.heap.size) (.slice ra rs.length rc) (rs)) := OR314.out.setxP (a := ⟨w.heap.size + 1, 0, none⟩) (fun b hb => (by have := OR314.out.lo b hb; show w.heap.size + 1 ≠ b; omega)) _
   have OE15 : Hid (Lies encR 36 (u8.setCell ⟨w.heap.size + 1, 0, none⟩ (.string r.1)) (u3.heap.size) (u3.heap.size + 1) (.slice (some ⟨u3.heap.size, 0, none⟩) 8 8) (eight r)) := OE14.out.setxP (a := ⟨w.heap.size + 1, 0, none⟩) (fun b hb => (by have := OE14.out.lo b hb; show w.heap.size + 1 ≠ b; omega)) _
   clear R114 R214 HB14 B214 B114 OR314 OE14
   have R116 : Hid (Bx ((u8.setCell ⟨w.heap.size + 1, 0, none⟩ (.string r.1)).setCell ⟨w.heap.size + 1, 1, none⟩ (.string ⟨#[122, 122]⟩)) (w.heap.size) [.int .i64 1, .int .i64 1, .int .i64 2, .int .i64 0, .slice (some ⟨u3.heap.size, 0, none⟩) 8 8, .slice none 0 0, .bool false, .string ⟨#[]⟩]) := R115.out.setO (p := ⟨w.heap.size + 1, 1, none⟩) (by show w.heap.size + 1 ≠ w.heap.size; omega) _
   have R216 : Hid (Bx ((u8.setCell ⟨w.heap.size + 1, 0, none⟩ (.string r.1)).setCell ⟨w.heap.size + 1, 1, none⟩ (.string ⟨#[122, 122]⟩)) (w.heap.size + 1) [.string r.1, .string ⟨#[122, 122]⟩]) := R215.out.set 1 _
   have HB16 : Hid (Below w.heap.size w ((u8.setCell ⟨w.heap.size + 1, 0, none⟩ (.string r.1)).setCell ⟨w.heap.size + 1, 1, none⟩ (.string ⟨#[122, 122]⟩))) := HB15.out.setCell (by show w.heap.size ≤ w.heap.size + 1; omega) _
   have B216 : Hid (Bx ((u8.setCell ⟨w.heap.size + 1, 0, none⟩ (.string r.1)).setCell ⟨w.heap.size + 1, 1, none⟩ (.string ⟨#[122, 122]⟩)) (v3.heap.size) [.string r.1, .string ⟨#[122, 122]⟩]) := B215.out.setO (p := ⟨w.heap.size + 1, 1, none⟩) (by show w.heap.size + 1 ≠ v3.heap.size; omega) _
   have B116 : Hid (Bx ((u8.setCell ⟨w.heap.size + 1, 0, none⟩ (.string r.1)).setCell ⟨w.heap.size + 1, 1, none⟩ (.string ⟨#[122, 122]⟩)) (v5.heap.size) [.int .i64 1, .int .i64 1, .int .i64 2, .int .i64 0, .slice (some ⟨u3.heap.size, 0, none⟩) 8 8, .slice none 0 0, .bool false, .string ⟨#[]⟩]) := B115.out.setO (p := ⟨w.heap.size + 1, 1, none⟩) (by show w.heap.size + 1 ≠ v5.heap.size; omega) _
   have OR316 : Hid (Lies encR 36 ((u8.setCell ⟨w.heap.size + 1, 0, none⟩ (.string r.1)).setCell ⟨w.heap.size + 1, 1, none⟩ (.string ⟨#[122, 122]⟩)) (v6.heap.size) (u1.heap.size) (.slice ra rs.length rc) (rs)) := OR315.out.setxP (a := ⟨w.heap.size + 1, 1, none⟩) (fun b hb => (by have := OR315.out.lo b hb; show w.heap.size + 1 ≠ b; omega)) _
   have OE16 : Hid (Lies encR 36 ((u8.setCell ⟨w.heap.size + 1, 0, none⟩ (.string r.1)).setCell ⟨w.heap.size + 1, 1, none⟩ (.string ⟨#[122, 122]⟩)) (u3.heap.size) (u3.heap.size + 1) (.slice (some ⟨u3.heap.size, 0, none⟩) 8 8) (eight r)) := OE15.out.setxP (a := ⟨w.heap.size + 1, 1, none⟩) (fun b hb => (by have := OE15.out.lo b hb; show w.heap.size + 1 ≠ b; omega)) _
   clear R115 R215 HB15 B215 B115 OR315 OE15
   generalize ((u8.setCell ⟨w.heap.size + 1, 0, none⟩ (.string r.1)).setCell ⟨w.heap.size + 1, 1, none⟩ (.string ⟨#[122, 122]⟩)) = u9 at *
   (try go_wp2_with fail)
   refine hK.out _ _ ⟨B116.out.c0, B116.out.c1, B116.out.c2, B116.out.c3, B116.out.c4, B116.out.c5, B116.out.c6, B116.out.c7, B216.out.c0, B216.out.c1⟩ (fun hHeld => ?_)
   clear hK K
   refine wpAnyH_done (by kernel_rfl) ?_ _
   go_wp2
   have q0_ := R116.out.c0
   have fq0 := R116.out.fz 0
   have q1_ := R116.out.c1
   have fq1 := R116.out.fz 1
   have q2_ := R116.out.c2
   have fq2 := R116.out.fz 2
   have q3_ := R116.out.c3
   have fq3 := R116.out.fz 3
   have q4_ := R116.out.c4
   have fq4 := R116.out.fz 4
   have q5_ := R116.out.c5
   have fq5 := R116.out.fz 5
   have q6_ := R116.out.c6
   have fq6 := R116.out.fz 6
   have q7_ := R116.out.c7
   have fq7 := R116.out.fz 7
   have p0_ := R216.out.c0
   have p1_ := R216.out.c1
   exact bodyPost_ret (v := .tuple #[.agg #[.int .i64 1, .int .i64 1, .int .i64 2, .int .i64 0, .slice (some ⟨u3.heap.size, 0, none⟩) 8 8, .slice none 0 0, .bool false, .string ⟨#[]⟩], .agg #[.string r.1, .string ⟨#[122, 122]⟩]]) (by simp [results, Tryz.results10, go_sem, q0_, q1_, q2_, q3_, q4_, q5_, q6_, q7_, p0_, p1_]) rfl ⟨⟨1, 1, 2, 0, eight r, [], false, ⟨#[]⟩⟩, some ⟨u3.heap.size, 0, none⟩, 8, none, 0, (r.1, ⟨#[122, 122]⟩), ⟨⟨by show (8 : Nat) ≤ _; omega, eight_fit HX.out, by show (0 : Nat) ≤ _; omega, fun x hx => by simp at hx, by show (⟨#[]⟩ : ByteArray).size ≤ 1048576; decide⟩, by show (8 : Nat) ≤ 8; omega, by show (0 : Nat) ≤ 4; omega⟩, (fun _ => eight_no HX.out.2.1), ⟨(keyL_ok _ HX.out.1).2, by show (2 : Nat) ≤ 3; omega⟩, rfl, OE16.out.own.mono (by omega), GOwn.nil _ _, HB16.out⟩
 ·have h0' : ¬ (0 : Int) < (n : Int) := by omega
  go_wp2_with fail
  refine (drOnce v0.heap.size len cap a 10 (by omega) (by omega) _ D6.out.c).mono ?_
  rintro e u3 ⟨b, rfl, d⟩
  have hsu3 := d.size
  have R17 := hide (R16.out.keptD d (by omega))
  have R27 := hide (R26.out.keptD d (by omega))
  have HB7 := hide (d.out HB6.out (by omega) (by omega))
  have D7 := hide (D6.out.step d)
  have B27 := hide (B26.out.keptD d (by omega))
  have OR17 : Hid (Lies encR 36 u3 (v4.heap.size) (v5.heap.size) (.slice ra1 t1.rs.length rc1) (t1.rs)) := ⟨OR16.out.own.keptD d (by omega), OR16.out.up⟩
  have OW17 : Hid (Lies encW 42 u3 (v4.heap.size) (v5.heap.size) (.slice wa1 t1.ws.length wc1) (t1.ws)) := ⟨OW16.out.own.keptD d (by omega), OW16.out.up⟩
  have B17 := hide (B16.out.keptD d (by omega))
  clear R16 R26 HB6 D6 B26 OR16 OW16 B16
  clear d
  cases b
  ·go_upto_region 10 with fail
   refine wp_region_held_drew (S := fun w' => w'.cell? ⟨v5.heap.size, 0, none⟩ = some (.int .i64 t1.id) ∧ w'.cell? ⟨v5.heap.size, 1, none⟩ = some (.int .i64 t1.st) ∧ w'.cell? ⟨v5.heap.size, 2, none⟩ = some (.int .i64 t1.snap) ∧ w'.cell? ⟨v5.heap.size, 3, none⟩ = some (.int .i64 t1.cs) ∧ w'.cell? ⟨v5.heap.size, 4, none⟩ = some (.slice ra1 t1.rs.length rc1) ∧ w'.cell? ⟨v5.heap.size, 5, none⟩ = some (.slice wa1 t1.ws.length wc1) ∧ w'.cell? ⟨v5.heap.size, 6, none⟩ = some (.bool t1.out) ∧ w'.cell? ⟨v5.heap.size, 7, none⟩ = some (.string t1.nm) ∧ w'.cell? ⟨v3.heap.size, 0, none⟩ = some (.string r.1) ∧ w'.cell? ⟨v3.heap.size, 1, none⟩ = some (.string r.2)) (by kernel_rfl) ⟨B17.out.c0, B17.out.c1, B17.out.c2, B17.out.c3, B17.out.c4, B17.out.c5, B17.out.c6, B17.out.c7, B27.out.c0, B27.out.c1⟩ (fun hHeld => ?_)
   (refine tk 0 ?_ rfl (Or.inl ⟨by rfl, ?_⟩) ?_; rotate_left; (focus (intro w h; (try dsimp only at h); go_simp; (try with_reducible rfl))); simp only [Act.put, tA, tB, tD, tE, tF])
   (refine tk 1 ?_ rfl (Or.inl ⟨by rfl, ?_⟩) ?_; rotate_left; (focus (intro w h; (try dsimp only at h); go_simp; (try with_reducible rfl))); simp only [Act.put, tA, tB, tC, tD, tE, tF])
   have R18 := hide (R17.out.below (belowRefl u3).drew)
   have R28 := hide (R27.out.below (belowRefl u3).drew)
   have HB8 := hide (HB7.out.trans ((belowRefl u3).drew.mono HB7.out.size))
   have D8 := hide (D7.out.below (belowRefl u3).drew)
   have B28 := hide (B27.out.below (belowRefl u3).drew)
   have OR18 := hide (OR17.out.below (belowRefl u3).drew)
   have OW18 := hide (OW17.out.below (belowRefl u3).drew)
   have B18 := hide (B17.out.below (belowRefl u3).drew)
   clear R17 R27 HB7 D7 B27 OR17 OW17 B17
   have hd6 : u3.heap.size ≤ u3.drew.heap.size := Nat.le_refl _
   clear hHeld
   generalize u3.drew = u7 at *
   clear D8
   have q0_ := R18.out.c0
   have fq0 := R18.out.fz 0
   have q1_ := R18.out.c1
   have fq1 := R18.out.fz 1
   have q2_ := R18.out.c2
   have fq2 := R18.out.fz 2
   have q3_ := R18.out.c3
   have fq3 := R18.out.fz 3
   have q4_ := R18.out.c4
   have fq4 := R18.out.fz 4
   have q5_ := R18.out.c5
   have fq5 := R18.out.fz 5
   have q6_ := R18.out.c6
   have fq6 := R18.out.fz 6
   have q7_ := R18.out.c7
   have fq7 := R18.out.fz 7
   refine wpAnyH_ready (rs := [2]) (by kernel_rfl) (by simp) ?_
   refine AllReadyH.cons rfl (fun K hK => ?_) AllReadyH.nil
   go_simp
   clear q0_ fq0 q1_ fq1 q2_ fq2 q3_ fq3 q4_ fq4 q5_ fq5 q6_ fq6 q7_ fq7
   have R19 := hide (R18.out.s8P (.int .i64 t1.id) (.int .i64 t1.st) (.int .i64 t1.snap) (.int .i64 t1.cs) (.slice ra1 t1.rs.length rc1) (.slice wa1 t1.ws.length wc1) (.bool t1.out) (.string t1.nm))
   have R29 := hide (R28.out.o8P (ob := w.heap.size) (by omega) (.int .i64 t1.id) (.int .i64 t1.st) (.int .i64 t1.snap) (.int .i64 t1.cs) (.slice ra1 t1.rs.length rc1) (.slice wa1 t1.ws.length wc1) (.bool t1.out) (.string t1.nm))
   have HB9 := hide (below_s8P HB8.out (ob := w.heap.size) (by omega) (.int .i64 t1.id) (.int .i64 t1.st) (.int .i64 t1.snap) (.int .i64 t1.cs) (.slice ra1 t1.rs.length rc1) (.slice wa1 t1.ws.length wc1) (.bool t1.out) (.string t1.nm))
   have B29 := hide (B28.out.o8P (ob := w.heap.size) (by omega) (.int .i64 t1.id) (.int .i64 t1.st) (.int .i64 t1.snap) (.int .i64 t1.cs) (.slice ra1 t1.rs.length rc1) (.slice wa1 t1.ws.length wc1) (.bool t1.out) (.string t1.nm))
   have OR19 : Hid (Lies encR 36 ((((((((u7.setCell ⟨w.heap.size, 0, none⟩ (.int .i64 t1.id)).setCell ⟨w.heap.size, 1, none⟩ (.int .i64 t1.st)).setCell ⟨w.heap.size, 2, none⟩ (.int .i64 t1.snap)).setCell ⟨w.heap.size, 3, none⟩ (.int .i64 t1.cs)).setCell ⟨w.heap.size, 4, none⟩ (.slice ra1 t1.rs.length rc1)).setCell ⟨w.heap.size, 5, none⟩ (.slice wa1 t1.ws.length wc1)).setCell ⟨w.heap.size, 6, none⟩ (.bool t1.out)).setCell ⟨w.heap.size, 7, none⟩ (.string t1.nm)) (v4.heap.size) (v5.heap.size) (.slice ra1 t1.rs.length rc1) (t1.rs)) := ⟨own_s8P OR18.out.own (ob := w.heap.size) (by omega) (.int .i64 t1.id) (.int .i64 t1.st) (.int .i64 t1.snap) (.int .i64 t1.cs) (.slice ra1 t1.rs.length rc1) (.slice wa1 t1.ws.length wc1) (.bool t1.out) (.string t1.nm), OR18.out.up⟩
   have OW19 : Hid (Lies encW 42 ((((((((u7.setCell ⟨w.heap.size, 0, none⟩ (.int .i64 t1.id)).setCell ⟨w.heap.size, 1, none⟩ (.int .i64 t1.st)).setCell ⟨w.heap.size, 2, none⟩ (.int .i64 t1.snap)).setCell ⟨w.heap.size, 3, none⟩ (.int .i64 t1.cs)).setCell ⟨w.heap.size, 4, none⟩ (.slice ra1 t1.rs.length rc1)).setCell ⟨w.heap.size, 5, none⟩ (.slice wa1 t1.ws.length wc1)).setCell ⟨w.heap.size, 6, none⟩ (.bool t1.out)).setCell ⟨w.heap.size, 7, none⟩ (.string t1.nm)) (v4.heap.size) (v5.heap.size) (.slice wa1 t1.ws.length wc1) (t1.ws)) := ⟨own_s8P OW18.out.own (ob := w.heap.size) (by omega) (.int .i64 t1.id) (.int .i64 t1.st) (.int .i64 t1.snap) (.int .i64 t1.cs) (.slice ra1 t1.rs.length rc1) (.slice wa1 t1.ws.length wc1) (.bool t1.out) (.string t1.nm), OW18.out.up⟩
   have B19 := hide (B18.out.o8P (ob := w.heap.size) (by omega) (.int .i64 t1.id) (.int .i64 t1.st) (.int .i64 t1.snap) (.int .i64 t1.cs) (.slice ra1 t1.rs.length rc1) (.slice wa1 t1.ws.length wc1) (.bool t1.out) (.string t1.nm))
   clear R18 R28 HB8 B28 OR18 OW18 B18
   generalize ((((((((u7.setCell ⟨w.heap.size, 0, none⟩ (.int .i64 t1.id)).setCell ⟨w.heap.size, 1, none⟩ (.int .i64 t1.st)).setCell ⟨w.heap.size, 2, none⟩ (.int .i64 t1.snap)).setCell ⟨w.heap.size, 3, none⟩ (.int .i64 t1.cs)).setCell ⟨w.heap.size, 4, none⟩ (.slice ra1 t1.rs.length rc1)).setCell ⟨w.heap.size, 5, none⟩ (.slice wa1 t1.ws.length wc1)).setCell ⟨w.heap.size, 6, none⟩ (.bool t1.out)).setCell ⟨w.heap.size, 7, none⟩ (.string t1.nm)) = u8 at *
   (try go_wp2_with fail)
   refine hK.out _ _ ⟨B19.out.c0, B19.out.c1, B19.out.c2, B19.out.c3, B19.out.c4, B19.out.c5, B19.out.c6, B19.out.c7, B29.out.c0, B29.out.c1⟩ (fun hHeld => ?_)
   clear hK K
   have p0_ := R29.out.c0
   have fp0 := R29.out.fz 0
   have p1_ := R29.out.c1
   have fp1 := R29.out.fz 1
   refine wpAnyH_ready (rs := [3]) (by kernel_rfl) (by simp) ?_
   refine AllReadyH.cons rfl (fun K hK => ?_) AllReadyH.nil
   go_simp
   clear p0_ fp0 p1_ fp1
   have R110 : Hid (Bx (u8.setCell ⟨w.heap.size + 1, 0, none⟩ (.string r.1)) (w.heap.size) [.int .i64 t1.id, .int .i64 t1.st, .int .i64 t1.snap, .int .i64 t1.cs, .slice ra1 t1.rs.length rc1, .slice wa1 t1.ws.length wc1, .bool t1.out, .string t1.nm]) := R19.out.setO (p := ⟨w.heap.size + 1, 0, none⟩) (by show w.heap.size + 1 ≠ w.heap.size; omega) _
   have R210 : Hid (Bx (u8.setCell ⟨w.heap.size + 1, 0, none⟩ (.string r.1)) (w.heap.size + 1) [.string r.1, .string ⟨#[]⟩]) := R29.out.set 0 _
   have HB10 : Hid (Below w.heap.size w (u8.setCell ⟨w.heap.size + 1, 0, none⟩ (.string r.1))) := HB9.out.setCell (by show w.heap.size ≤ w.heap.size + 1; omega) _
   have B210 : Hid (Bx (u8.setCell ⟨w.heap.size + 1, 0, none⟩ (.string r.1)) (v3.heap.size) [.string r.1, .string r.2]) := B29.out.setO (p := ⟨w.heap.size + 1, 0, none⟩) (by show w.heap.size + 1 ≠ v3.heap.size; omega) _
   have OR110 : Hid (Lies encR 36 (u8.setCell ⟨w.heap.size + 1, 0, none⟩ (.string r.1)) (v4.heap.size) (v5.heap.size) (.slice ra1 t1.rs.length rc1) (t1.rs)) := OR19.out.setxP (a := ⟨w.heap.size + 1, 0, none⟩) (fun b hb => (by have := OR19.out.lo b hb; show w.heap.size + 1 ≠ b; omega)) _
   have OW110 : Hid (Lies encW 42 (u8.setCell ⟨w.heap.size + 1, 0, none⟩ (.string r.1)) (v4.heap.size) (v5.heap.size) (.slice wa1 t1.ws.length wc1) (t1.ws)) := OW19.out.setxP (a := ⟨w.heap.size + 1, 0, none⟩) (fun b hb => (by have := OW19.out.lo b hb; show w.heap.size + 1 ≠ b; omega)) _
   have B110 : Hid (Bx (u8.setCell ⟨w.heap.size + 1, 0, none⟩ (.string r.1)) (v5.heap.size) [.int .i64 t1.id, .int .i64 t1.st, .int .i64 t1.snap, .int .i64 t1.cs, .slice ra1 t1.rs.length rc1, .slice wa1 t1.ws.length wc1, .bool t1.out, .string t1.nm]) := B19.out.setO (p := ⟨w.heap.size + 1, 0, none⟩) (by show w.heap.size + 1 ≠ v5.heap.size; omega) _
   clear R19 R29 HB9 B29 OR19 OW19 B19
   have R111 : Hid (Bx ((u8.setCell ⟨w.heap.size + 1, 0, none⟩ (.string r.1)).setCell ⟨w.heap.size + 1, 1, none⟩ (.string r.2)) (w.heap.size) [.int .i64 t1.id, .int .i64 t1.st, .int .i64 t1.snap, .int .i64 t1.cs, .slice ra1 t1.rs.length rc1, .slice wa1 t1.ws.length wc1, .bool t1.out, .string t1.nm]) := R110.out.setO (p := ⟨w.heap.size + 1, 1, none⟩) (by show w.heap.size + 1 ≠ w.heap.size; omega) _
   have R211 : Hid (Bx ((u8.setCell ⟨w.heap.size + 1, 0, none⟩ (.string r.1)).setCell ⟨w.heap.size + 1, 1, none⟩ (.string r.2)) (w.heap.size + 1) [.string r.1, .string r.2]) := R210.out.set 1 _
   have HB11 : Hid (Below w.heap.size w ((u8.setCell ⟨w.heap.size + 1, 0, none⟩ (.string r.1)).setCell ⟨w.heap.size + 1, 1, none⟩ (.string r.2))) := HB10.out.setCell (by show w.heap.size ≤ w.heap.size + 1; omega) _
   have B211 : Hid (Bx ((u8.setCell ⟨w.heap.size + 1, 0, none⟩ (.string r.1)).setCell ⟨w.heap.size + 1, 1, none⟩ (.string r.2)) (v3.heap.size) [.string r.1, .string r.2]) := B210.out.setO (p := ⟨w.heap.size + 1, 1, none⟩) (by show w.heap.size + 1 ≠ v3.heap.size; omega) _
   have OR111 : Hid (Lies encR 36 ((u8.setCell ⟨w.heap.size + 1, 0, none⟩ (.string r.1)).setCell ⟨w.heap.size + 1, 1, none⟩ (.string r.2)) (v4.heap.size) (v5.heap.size) (.slice ra1 t1.rs.length rc1) (t1.rs)) := OR110.out.setxP (a := ⟨w.heap.size + 1, 1, none⟩) (fun b hb => (by have := OR110.out.lo b hb; show w.heap.size + 1 ≠ b; omega)) _
   have OW111 : Hid (Lies encW 42 ((u8.setCell ⟨w.heap.size + 1, 0, none⟩ (.string r.1)).setCell ⟨w.heap.size + 1, 1, none⟩ (.string r.2)) (v4.heap.size) (v5.heap.size) (.slice wa1 t1.ws.length wc1) (t1.ws)) := OW110.out.setxP (a := ⟨w.heap.size + 1, 1, none⟩) (fun b hb => (by have := OW110.out.lo b hb; show w.heap.size + 1 ≠ b; omega)) _
   have B111 : Hid (Bx ((u8.setCell ⟨w.heap.size + 1, 0, none⟩ (.string r.1)).setCell ⟨w.heap.size + 1, 1, none⟩ (.string r.2)) (v5.heap.size) [.int .i64 t1.id, .int .i64 t1.st, .int .i64 t1.snap, .int .i64 t1.cs, .slice ra1 t1.rs.length rc1, .slice wa1 t1.ws.length wc1, .bool t1.out, .string t1.nm]) := B110.out.setO (p := ⟨w.heap.size + 1, 1, none⟩) (by show w.heap.size + 1 ≠ v5.heap.size; omega) _
   clear R110 R210 HB10 B210 OR110 OW110 B110
   generalize ((u8.setCell ⟨w.heap.size + 1, 0, none⟩ (.string r.1)).setCell ⟨w.heap.size + 1, 1, none⟩ (.string r.2)) = u9 at *
   (try go_wp2_with fail)
   refine hK.out _ _ ⟨B111.out.c0, B111.out.c1, B111.out.c2, B111.out.c3, B111.out.c4, B111.out.c5, B111.out.c6, B111.out.c7, B211.out.c0, B211.out.c1⟩ (fun hHeld => ?_)
   clear hK K
   refine wpAnyH_done (by kernel_rfl) ?_ _
   go_wp2
   have q0_ := R111.out.c0
   have fq0 := R111.out.fz 0
   have q1_ := R111.out.c1
   have fq1 := R111.out.fz 1
   have q2_ := R111.out.c2
   have fq2 := R111.out.fz 2
   have q3_ := R111.out.c3
   have fq3 := R111.out.fz 3
   have q4_ := R111.out.c4
   have fq4 := R111.out.fz 4
   have q5_ := R111.out.c5
   have fq5 := R111.out.fz 5
   have q6_ := R111.out.c6
   have fq6 := R111.out.fz 6
   have q7_ := R111.out.c7
   have fq7 := R111.out.fz 7
   have p0_ := R211.out.c0
   have p1_ := R211.out.c1
   exact bodyPost_ret (v := .tuple #[.agg #[.int .i64 t1.id, .int .i64 t1.st, .int .i64 t1.snap, .int .i64 t1.cs, .slice ra1 t1.rs.length rc1, .slice wa1 t1.ws.length wc1, .bool t1.out, .string t1.nm], .agg #[.string r.1, .string r.2]]) (by simp [results, Tryz.results10, go_sem, q0_, q1_, q2_, q3_, q4_, q5_, q6_, q7_, p0_, p1_]) rfl ⟨t1, ra1, rc1, wa1, wc1, r, ⟨HT1.out.fit, Nat.le_trans HT1.out.rl (by omega), HT1.out.wl⟩, (fun h => absurd h (by have := HT1.out.rl; omega)), ⟨(keyL_ok _ HX.out.1).2, (keyL_ok _ HX.out.2.1).2⟩, rfl, OR111.out.own.mono (by omega), OW111.out.own.mono (by omega), HB11.out⟩
  ·have hu3 : v5.heap.size < u3.heap.size := by omega
   have hn12 : v5.heap.size ≠ v3.heap.size := by omega
   have y0 := B27.out.c0
   have y1 := B27.out.c1
   have bb := B17.out.alloc (.cells #[.string r.1, .string r.2, .string r.1, .string r.2, .string r.1, .string r.2, .string r.1, .string r.2, .string r.1, .string r.2, .string r.1, .string r.2, .string r.1, .string r.2, .string ⟨#[120]⟩, .string ⟨#[121]⟩] 36)
   have z4 := bb.c4
   have z4f := bb.fz 4
   have zz4 := B17.out.c4
   have zz4f := B17.out.fz 4
   clear bb
   go_upto_region 9 with fail
   clear y0 y1 z4 z4f zz4 zz4f
   have R18 : Hid (Bx (u3.setCell ⟨v5.heap.size, 4, none⟩ (.slice (some ⟨u3.heap.size, 0, none⟩) 8 8)) (w.heap.size) [.int .i64 0, .int .i64 0, .int .i64 0, .int .i64 0, .slice none 0 0, .slice none 0 0, .bool false, .string ⟨#[]⟩]) := R17.out.setO (p := ⟨v5.heap.size, 4, none⟩) (by show v5.heap.size ≠ w.heap.size; omega) _
   have R28 : Hid (Bx (u3.setCell ⟨v5.heap.size, 4, none⟩ (.slice (some ⟨u3.heap.size, 0, none⟩) 8 8)) (w.heap.size + 1) [.string ⟨#[]⟩, .string ⟨#[]⟩]) := R27.out.setO (p := ⟨v5.heap.size, 4, none⟩) (by show v5.heap.size ≠ w.heap.size + 1; omega) _
   have HB8 : Hid (Below w.heap.size w (u3.setCell ⟨v5.heap.size, 4, none⟩ (.slice (some ⟨u3.heap.size, 0, none⟩) 8 8))) := HB7.out.setCell (by show w.heap.size ≤ v5.heap.size; omega) _
   have D8 : Hid (Dn v1 (u3.setCell ⟨v5.heap.size, 4, none⟩ (.slice (some ⟨u3.heap.size, 0, none⟩) 8 8)) (v0.heap.size) a len cap) := D7.out.set (p := ⟨v5.heap.size, 4, none⟩) (by show v1.heap.size ≤ v5.heap.size; omega) _
   have B28 : Hid (Bx (u3.setCell ⟨v5.heap.size, 4, none⟩ (.slice (some ⟨u3.heap.size, 0, none⟩) 8 8)) (v3.heap.size) [.string r.1, .string r.2]) := B27.out.setO (p := ⟨v5.heap.size, 4, none⟩) (by show v5.heap.size ≠ v3.heap.size; omega) _
   have OR18 : Hid (Lies encR 36 (u3.setCell ⟨v5.heap.size, 4, none⟩ (.slice (some ⟨u3.heap.size, 0, none⟩) 8 8)) (v4.heap.size) (v5.heap.size) (.slice ra1 t1.rs.length rc1) (t1.rs)) := OR17.out.setxP (a := ⟨v5.heap.size, 4, none⟩) (fun b hb => (by have := OR17.out.lo b hb; show v5.heap.size ≠ b; omega)) _
   have OW18 : Hid (Lies encW 42 (u3.setCell ⟨v5.heap.size, 4, none⟩ (.slice (some ⟨u3.heap.size, 0, none⟩) 8 8)) (v4.heap.size) (v5.heap.size) (.slice wa1 t1.ws.length wc1) (t1.ws)) := OW17.out.setxP (a := ⟨v5.heap.size, 4, none⟩) (fun b hb => (by have := OW17.out.lo b hb; show v5.heap.size ≠ b; omega)) _
   have B18 : Hid (Bx (u3.setCell ⟨v5.heap.size, 4, none⟩ (.slice (some ⟨u3.heap.size, 0, none⟩) 8 8)) (v5.heap.size) [.int .i64 t1.id, .int .i64 t1.st, .int .i64 t1.snap, .int .i64 t1.cs, .slice (some ⟨u3.heap.size, 0, none⟩) 8 8, .slice wa1 t1.ws.length wc1, .bool t1.out, .string t1.nm]) := B17.out.set 4 _
   clear R17 R27 HB7 D7 B27 OR17 OW17 B17
   have hz4 : (u3.setCell ⟨v5.heap.size, 4, none⟩ (.slice (some ⟨u3.heap.size, 0, none⟩) 8 8)).heap.size = u3.heap.size := by simp [World.setCell]
   generalize (u3.setCell ⟨v5.heap.size, 4, none⟩ (.slice (some ⟨u3.heap.size, 0, none⟩) 8 8)) = u6 at *
   have hb : Below u6.heap.size u6 (u6.alloc (.cells #[.string r.1, .string r.2, .string r.1, .string r.2, .string r.1, .string r.2, .string r.1, .string r.2, .string r.1, .string r.2, .string r.1, .string r.2, .string r.1, .string r.2, .string ⟨#[120]⟩, .string ⟨#[121]⟩] 36)) := (belowRefl u6).alloc (Nat.le_refl _) _
   have hzA : (u6.alloc (.cells #[.string r.1, .string r.2, .string r.1, .string r.2, .string r.1, .string r.2, .string r.1, .string r.2, .string r.1, .string r.2, .string r.1, .string r.2, .string r.1, .string r.2, .string ⟨#[120]⟩, .string ⟨#[121]⟩] 36)).heap.size = u3.heap.size + 1 := by rw [World.size_alloc, hz4]
   have R19 := hide (R18.out.below hb)
   have R29 := hide (R28.out.below hb)
   have HB9 := hide (HB8.out.trans (hb.mono HB8.out.size))
   have D9 := hide (D8.out.below hb)
   have B29 := hide (B28.out.below hb)
   have OR19 := hide (OR18.out.below hb)
   have OW19 := hide (OW18.out.below hb)
   have B19 := hide (B18.out.below hb)
   clear R18 R28 HB8 D8 B28 OR18 OW18 B18
   clear hb
   have OE9 : Hid (Lies encR 36 (u6.alloc (.cells #[.string r.1, .string r.2, .string r.1, .string r.2, .string r.1, .string r.2, .string r.1, .string r.2, .string r.1, .string r.2, .string r.1, .string r.2, .string r.1, .string r.2, .string ⟨#[120]⟩, .string ⟨#[121]⟩] 36)) (u3.heap.size) (u3.heap.size + 1) (.slice (some ⟨u3.heap.size, 0, none⟩) 8 8) (eight r)) := by have h := Lies.of (show GOwn encR 36 (u6.alloc (.cells #[.string r.1, .string r.2, .string r.1, .string r.2, .string r.1, .string r.2, .string r.1, .string r.2, .string r.1, .string r.2, .string r.1, .string r.2, .string r.1, .string r.2, .string ⟨#[120]⟩, .string ⟨#[121]⟩] 36)) u6.heap.size (.slice (some ⟨u6.heap.size, 0, none⟩) 8 8) (eight r) from World.ownsRow_lit (size := encR.size) u6 #[.string r.1, .string r.2, .string r.1, .string r.2, .string r.1, .string r.2, .string r.1, .string r.2, .string r.1, .string r.2, .string r.1, .string r.2, .string r.1, .string r.2, .string ⟨#[120]⟩, .string ⟨#[121]⟩] 8 (Nat.le_refl _) (by unfold maxLen; omega) rfl); rw [World.size_alloc, hz4] at h; exact h
   generalize (u6.alloc (.cells #[.string r.1, .string r.2, .string r.1, .string r.2, .string r.1, .string r.2, .string r.1, .string r.2, .string r.1, .string r.2, .string r.1, .string r.2, .string r.1, .string r.2, .string ⟨#[120]⟩, .string ⟨#[121]⟩] 36)) = u4 at *
   have y0 := B29.out.c0
   have y1 := B29.out.c1
   have y1f := B29.out.fz 1
   go_upto_region 10 with fail
   clear y0 y1 y1f
   have R110 : Hid (Bx (u4.setCell ⟨v3.heap.size, 1, none⟩ (.string ⟨#[122, 122]⟩)) (w.heap.size) [.int .i64 0, .int .i64 0, .int .i64 0, .int .i64 0, .slice none 0 0, .slice none 0 0, .bool false, .string ⟨#[]⟩]) := R19.out.setO (p := ⟨v3.heap.size, 1, none⟩) (by show v3.heap.size ≠ w.heap.size; omega) _
   have R210 : Hid (Bx (u4.setCell ⟨v3.heap.size, 1, none⟩ (.string ⟨#[122, 122]⟩)) (w.heap.size + 1) [.string ⟨#[]⟩, .string ⟨#[]⟩]) := R29.out.setO (p := ⟨v3.heap.size, 1, none⟩) (by show v3.heap.size ≠ w.heap.size + 1; omega) _
   have HB10 : Hid (Below w.heap.size w (u4.setCell ⟨v3.heap.size, 1, none⟩ (.string ⟨#[122, 122]⟩))) := HB9.out.setCell (by show w.heap.size ≤ v3.heap.size; omega) _
   have D10 : Hid (Dn v1 (u4.setCell ⟨v3.heap.size, 1, none⟩ (.string ⟨#[122, 122]⟩)) (v0.heap.size) a len cap) := D9.out.set (p := ⟨v3.heap.size, 1, none⟩) (by show v1.heap.size ≤ v3.heap.size; omega) _
   have B210 : Hid (Bx (u4.setCell ⟨v3.heap.size, 1, none⟩ (.string ⟨#[122, 122]⟩)) (v3.heap.size) [.string r.1, .string ⟨#[122, 122]⟩]) := B29.out.set 1 _
   have OR110 : Hid (Lies encR 36 (u4.setCell ⟨v3.heap.size, 1, none⟩ (.string ⟨#[122, 122]⟩)) (v4.heap.size) (v5.heap.size) (.slice ra1 t1.rs.length rc1) (t1.rs)) := OR19.out.setxP (a := ⟨v3.heap.size, 1, none⟩) (fun b hb => (by have := OR19.out.lo b hb; show v3.heap.size ≠ b; omega)) _
   have OW110 : Hid (Lies encW 42 (u4.setCell ⟨v3.heap.size, 1, none⟩ (.string ⟨#[122, 122]⟩)) (v4.heap.size) (v5.heap.size) (.slice wa1 t1.ws.length wc1) (t1.ws)) := OW19.out.setxP (a := ⟨v3.heap.size, 1, none⟩) (fun b hb => (by have := OW19.out.lo b hb; show v3.heap.size ≠ b; omega)) _
   have B110 : Hid (Bx (u4.setCell ⟨v3.heap.size, 1, none⟩ (.string ⟨#[122, 122]⟩)) (v5.heap.size) [.int .i64 t1.id, .int .i64 t1.st, .int .i64 t1.snap, .int .i64 t1.cs, .slice (some ⟨u3.heap.size, 0, none⟩) 8 8, .slice wa1 t1.ws.length wc1, .bool t1.out, .string t1.nm]) := B19.out.setO (p := ⟨v3.heap.size, 1, none⟩) (by show v3.heap.size ≠ v5.heap.size; omega) _
   have OE10 : Hid (Lies encR 36 (u4.setCell ⟨v3.heap.size, 1, none⟩ (.string ⟨#[122, 122]⟩)) (u3.heap.size) (u3.heap.size + 1) (.slice (some ⟨u3.heap.size, 0, none⟩) 8 8) (eight r)) := OE9.out.setxP (a := ⟨v3.heap.size, 1, none⟩) (fun b hb => (by have := OE9.out.lo b hb; show v3.heap.size ≠ b; omega)) _
   clear R19 R29 HB9 D9 B29 OR19 OW19 B19 OE9
   have hz5 : (u4.setCell ⟨v3.heap.size, 1, none⟩ (.string ⟨#[122, 122]⟩)).heap.size = u4.heap.size := by simp [World.setCell]
   generalize (u4.setCell ⟨v3.heap.size, 1, none⟩ (.string ⟨#[122, 122]⟩)) = u5 at *
   refine wp_region_held_drew (S := fun w' => w'.cell? ⟨v5.heap.size, 0, none⟩ = some (.int .i64 t1.id) ∧ w'.cell? ⟨v5.heap.size, 1, none⟩ = some (.int .i64 t1.st) ∧ w'.cell? ⟨v5.heap.size, 2, none⟩ = some (.int .i64 t1.snap) ∧ w'.cell? ⟨v5.heap.size, 3, none⟩ = some (.int .i64 t1.cs) ∧ w'.cell? ⟨v5.heap.size, 4, none⟩ = some (.slice (some ⟨u3.heap.size, 0, none⟩) 8 8) ∧ w'.cell? ⟨v5.heap.size, 5, none⟩ = some (.slice wa1 t1.ws.length wc1) ∧ w'.cell? ⟨v5.heap.size, 6, none⟩ = some (.bool t1.out) ∧ w'.cell? ⟨v5.heap.size, 7, none⟩ = some (.string t1.nm) ∧ w'.cell? ⟨v3.heap.size, 0, none⟩ = some (.string r.1) ∧ w'.cell? ⟨v3.heap.size, 1, none⟩ = some (.string ⟨#[122, 122]⟩)) (by kernel_rfl) ⟨B110.out.c0, B110.out.c1, B110.out.c2, B110.out.c3, B110.out.c4, B110.out.c5, B110.out.c6, B110.out.c7, B210.out.c0, B210.out.c1⟩ (fun hHeld => ?_)
   (refine tk 0 ?_ rfl (Or.inl ⟨by rfl, ?_⟩) ?_; rotate_left; (focus (intro w h; (try dsimp only at h); go_simp; (try with_reducible rfl))); simp only [Act.put, tA, tB, tD, tE, tF])
   (refine tk 1 ?_ rfl (Or.inl ⟨by rfl, ?_⟩) ?_; rotate_left; (focus (intro w h; (try dsimp only at h); go_simp; (try with_reducible rfl))); simp only [Act.put, tA, tB, tC, tD, tE, tF])
   have R111 := hide (R110.out.below (belowRefl u5).drew)
   have R211 := hide (R210.out.below (belowRefl u5).drew)
   have HB11 := hide (HB10.out.trans ((belowRefl u5).drew.mono HB10.out.size))
   have D11 := hide (D10.out.below (belowRefl u5).drew)
   have B211 := hide (B210.out.below (belowRefl u5).drew)
   have OR111 := hide (OR110.out.below (belowRefl u5).drew)
   have OW111 := hide (OW110.out.below (belowRefl u5).drew)
   have B111 := hide (B110.out.below (belowRefl u5).drew)
   have OE11 := hide (OE10.out.below (belowRefl u5).drew)
   clear R110 R210 HB10 D10 B210 OR110 OW110 B110 OE10
   have hd6 : u5.heap.size ≤ u5.drew.heap.size := Nat.le_refl _
   clear hHeld
   generalize u5.drew = u7 at *
   clear D11
   have q0_ := R111.out.c0
   have fq0 := R111.out.fz 0
   have q1_ := R111.out.c1
   have fq1 := R111.out.fz 1
   have q2_ := R111.out.c2
   have fq2 := R111.out.fz 2
   have q3_ := R111.out.c3
   have fq3 := R111.out.fz 3
   have q4_ := R111.out.c4
   have fq4 := R111.out.fz 4
   have q5_ := R111.out.c5
   have fq5 := R111.out.fz 5
   have q6_ := R111.out.c6
   have fq6 := R111.out.fz 6
   have q7_ := R111.out.c7
   have fq7 := R111.out.fz 7
   refine wpAnyH_ready (rs := [2]) (by kernel_rfl) (by simp) ?_
   refine AllReadyH.cons rfl (fun K hK => ?_) AllReadyH.nil
   go_simp
   clear q0_ fq0 q1_ fq1 q2_ fq2 q3_ fq3 q4_ fq4 q5_ fq5 q6_ fq6 q7_ fq7
   have R112 := hide (R111.out.s8P (.int .i64 t1.id) (.int .i64 t1.st) (.int .i64 t1.snap) (.int .i64 t1.cs) (.slice (some ⟨u3.heap.size, 0, none⟩) 8 8) (.slice wa1 t1.ws.length wc1) (.bool t1.out) (.string t1.nm))
   have R212 := hide (R211.out.o8P (ob := w.heap.size) (by omega) (.int .i64 t1.id) (.int .i64 t1.st) (.int .i64 t1.snap) (.int .i64 t1.cs) (.slice (some ⟨u3.heap.size, 0, none⟩) 8 8) (.slice wa1 t1.ws.length wc1) (.bool t1.out) (.string t1.nm))
   have HB12 := hide (below_s8P HB11.out (ob := w.heap.size) (by omega) (.int .i64 t1.id) (.int .i64 t1.st) (.int .i64 t1.snap) (.int .i64 t1.cs) (.slice (some ⟨u3.heap.size, 0, none⟩) 8 8) (.slice wa1 t1.ws.length wc1) (.bool t1.out) (.string t1.nm))
   have B212 := hide (B211.out.o8P (ob := w.heap.size) (by omega) (.int .i64 t1.id) (.int .i64 t1.st) (.int .i64 t1.snap) (.int .i64 t1.cs) (.slice (some ⟨u3.heap.size, 0, none⟩) 8 8) (.slice wa1 t1.ws.length wc1) (.bool t1.out) (.string t1.nm))
   have OR112 : Hid (Lies encR 36 ((((((((u7.setCell ⟨w.heap.size, 0, none⟩ (.int .i64 t1.id)).setCell ⟨w.heap.size, 1, none⟩ (.int .i64 t1.st)).setCell ⟨w.heap.size, 2, none⟩ (.int .i64 t1.snap)).setCell ⟨w.heap.size, 3, none⟩ (.int .i64 t1.cs)).setCell ⟨w.heap.size, 4, none⟩ (.slice (some ⟨u3.heap.size, 0, none⟩) 8 8)).setCell ⟨w.heap.size, 5, none⟩ (.slice wa1 t1.ws.length wc1)).setCell ⟨w.heap.size, 6, none⟩ (.bool t1.out)).setCell ⟨w.heap.size, 7, none⟩ (.string t1.nm)) (v4.heap.size) (v5.heap.size) (.slice ra1 t1.rs.length rc1) (t1.rs)) := ⟨own_s8P OR111.out.own (ob := w.heap.size) (by omega) (.int .i64 t1.id) (.int .i64 t1.st) (.int .i64 t1.snap) (.int .i64 t1.cs) (.slice (some ⟨u3.heap.size, 0, none⟩) 8 8) (.slice wa1 t1.ws.length wc1) (.bool t1.out) (.string t1.nm), OR111.out.up⟩
   have OW112 : Hid (Lies encW 42 ((((((((u7.setCell ⟨w.heap.size, 0, none⟩ (.int .i64 t1.id)).setCell ⟨w.heap.size, 1, none⟩ (.int .i64 t1.st)).setCell ⟨w.heap.size, 2, none⟩ (.int .i64 t1.snap)).setCell ⟨w.heap.size, 3, none⟩ (.int .i64 t1.cs)).setCell ⟨w.heap.size, 4, none⟩ (.slice (some ⟨u3.heap.size, 0, none⟩) 8 8)).setCell ⟨w.heap.size, 5, none⟩ (.slice wa1 t1.ws.length wc1)).setCell ⟨w.heap.size, 6, none⟩ (.bool t1.out)).setCell ⟨w.heap.size, 7, none⟩ (.string t1.nm)) (v4.heap.size) (v5.heap.size) (.slice wa1 t1.ws.length wc1) (t1.ws)) := ⟨own_s8P OW111.out.own (ob := w.heap.size) (by omega) (.int .i64 t1.id) (.int .i64 t1.st) (.int .i64 t1.snap) (.int .i64 t1.cs) (.slice (some ⟨u3.heap.size, 0, none⟩) 8 8) (.slice wa1 t1.ws.length wc1) (.bool t1.out) (.string t1.nm), OW111.out.up⟩
   have B112 := hide (B111.out.o8P (ob := w.heap.size) (by omega) (.int .i64 t1.id) (.int .i64 t1.st) (.int .i64 t1.snap) (.int .i64 t1.cs) (.slice (some ⟨u3.heap.size, 0, none⟩) 8 8) (.slice wa1 t1.ws.length wc1) (.bool t1.out) (.string t1.nm))
   have OE12 : Hid (Lies encR 36 ((((((((u7.setCell ⟨w.heap.size, 0, none⟩ (.int .i64 t1.id)).setCell ⟨w.heap.size, 1, none⟩ (.int .i64 t1.st)).setCell ⟨w.heap.size, 2, none⟩ (.int .i64 t1.snap)).setCell ⟨w.heap.size, 3, none⟩ (.int .i64 t1.cs)).setCell ⟨w.heap.size, 4, none⟩ (.slice (some ⟨u3.heap.size, 0, none⟩) 8 8)).setCell ⟨w.heap.size, 5, none⟩ (.slice wa1 t1.ws.length wc1)).setCell ⟨w.heap.size, 6, none⟩ (.bool t1.out)).setCell ⟨w.heap.size, 7, none⟩ (.string t1.nm)) (u3.heap.size) (u3.heap.size + 1) (.slice (some ⟨u3.heap.size, 0, none⟩) 8 8) (eight r)) := ⟨own_s8P OE11.out.own (ob := w.heap.size) (by omega) (.int .i64 t1.id) (.int .i64 t1.st) (.int .i64 t1.snap) (.int .i64 t1.cs) (.slice (some ⟨u3.heap.size, 0, none⟩) 8 8) (.slice wa1 t1.ws.length wc1) (.bool t1.out) (.string t1.nm), OE11.out.up⟩
   clear R111 R211 HB11 B211 OR111 OW111 B111 OE11
   generalize ((((((((u7.setCell ⟨w.heap.size, 0, none⟩ (.int .i64 t1.id)).setCell ⟨w.heap.size, 1, none⟩ (.int .i64 t1.st)).setCell ⟨w.heap.size, 2, none⟩ (.int .i64 t1.snap)).setCell ⟨w.heap.size, 3, none⟩ (.int .i64 t1.cs)).setCell ⟨w.heap.size, 4, none⟩ (.slice (some ⟨u3.heap.size, 0, none⟩) 8 8)).setCell ⟨w.heap.size, 5, none⟩ (.slice wa1 t1.ws.length wc1)).setCell ⟨w.heap.size, 6, none⟩ (.bool t1.out)).setCell ⟨w.heap.size, 7, none⟩ (.string t1.nm)) = u8 at *
   (try go_wp2_with fail)
   refine hK.out _ _ ⟨B112.out.c0, B112.out.c1, B112.out.c2, B112.out.c3, B112.out.c4, B112.out.c5, B112.out.c6, B112.out.c7, B212.out.c0, B212.out.c1⟩ (fun hHeld => ?_)
   clear hK K
   have p0_ := R212.out.c0
   have fp0 := R212.out.fz 0
   have p1_ := R212.out.c1
   have fp1 := R212.out.fz 1
   refine wpAnyH_ready (rs := [3]) (by kernel_rfl) (by simp) ?_
   refine AllReadyH.cons rfl (fun K hK => ?_) AllReadyH.nil
   go_simp
   clear p0_ fp0 p1_ fp1
   have R113 : Hid (Bx (u8.setCell ⟨w.heap.size + 1, 0, none⟩ (.string r.1)) (w.heap.size) [.int .i64 t1.id, .int .i64 t1.st, .int .i64 t1.snap, .int .i64 t1.cs, .slice (some ⟨u3.heap.size, 0, none⟩) 8 8, .slice wa1 t1.ws.length wc1, .bool t1.out, .string t1.nm]) := R112.out.setO (p := ⟨w.heap.size + 1, 0, none⟩) (by show w.heap.size + 1 ≠ w.heap.size; omega) _
   have R213 : Hid (Bx (u8.setCell ⟨w.heap.size + 1, 0, none⟩ (.string r.1)) (w.heap.size + 1) [.string r.1, .string ⟨#[]⟩]) := R212.out.set 0 _
   have HB13 : Hid (Below w.heap.size w (u8.setCell ⟨w.heap.size + 1, 0, none⟩ (.string r.1))) := HB12.out.setCell (by show w.heap.size ≤ w.heap.size + 1; omega) _
   have B213 : Hid (Bx (u8.setCell ⟨w.heap.size + 1, 0, none⟩ (.string r.1)) (v3.heap.size) [.string r.1, .string ⟨#[122, 122]⟩]) := B212.out.setO (p := ⟨w.heap.size + 1, 0, none⟩) (by show w.heap.size + 1 ≠ v3.heap.size; omega) _
   have OR113 : Hid (Lies encR 36 (u8.setCell ⟨w.heap.size + 1, 0, none⟩ (.string r.1)) (v4.heap.size) (v5.heap.size) (.slice ra1 t1.rs.length rc1) (t1.rs)) := OR112.out.setxP (a := ⟨w.heap.size + 1, 0, none⟩) (fun b hb => (by have := OR112.out.lo b hb; show w.heap.size + 1 ≠ b; omega)) _
   have OW113 : Hid (Lies encW 42 (u8.setCell ⟨w.heap.size + 1, 0, none⟩ (.string r.1)) (v4.heap.size) (v5.heap.size) (.slice wa1 t1.ws.length wc1) (t1.ws)) := OW112.out.setxP (a := ⟨w.heap.size + 1, 0, none⟩) (fun b hb => (by have := OW112.out.lo b hb; show w.heap.size + 1 ≠ b; omega)) _
   have B113 : Hid (Bx (u8.setCell ⟨w.heap.size + 1, 0, none⟩ (.string r.1)) (v5.heap.size) [.int .i64 t1.id, .int .i64 t1.st, .int .i64 t1.snap, .int .i64 t1.cs, .slice (some ⟨u3.heap.size, 0, none⟩) 8 8, .slice wa1 t1.ws.length wc1, .bool t1.out, .string t1.nm]) := B112.out.setO (p := ⟨w.heap.size + 1, 0, none⟩) (by show w.heap.size + 1 ≠ v5.heap.size; omega) _
   have OE13 : Hid (Lies encR 36 (u8.setCell ⟨w.heap.size + 1, 0, none⟩ (.string r.1)) (u3.heap.size) (u3.heap.size + 1) (.slice (some ⟨u3.heap.size, 0, none⟩) 8 8) (eight r)) := OE12.out.setxP (a := ⟨w.heap.size + 1, 0, none⟩) (fun b hb => (by have := OE12.out.lo b hb; show w.heap.size + 1 ≠ b; omega)) _
   clear R112 R212 HB12 B212 OR112 OW112 B112 OE12
   have R114 : Hid (Bx ((u8.setCell ⟨w.heap.size + 1, 0, none⟩ (.string r.1)).setCell ⟨w.heap.size + 1, 1, none⟩ (.string ⟨#[122, 122]⟩)) (w.heap.size) [.int .i64 t1.id, .int .i64 t1.st, .int .i64 t1.snap, .int .i64 t1.cs, .slice (some ⟨u3.heap.size, 0, none⟩) 8 8, .slice wa1 t1.ws.length wc1, .bool t1.out, .string t1.nm]) := R113.out.setO (p := ⟨w.heap.size + 1, 1, none⟩) (by show w.heap.size + 1 ≠ w.heap.size; omega) _
   have R214 : Hid (Bx ((u8.setCell ⟨w.heap.size + 1, 0, none⟩ (.string r.1)).setCell ⟨w.heap.size + 1, 1, none⟩ (.string ⟨#[122, 122]⟩)) (w.heap.size + 1) [.string r.1, .string ⟨#[122, 122]⟩]) := R213.out.set 1 _
   have HB14 : Hid (Below w.heap.size w ((u8.setCell ⟨w.heap.size + 1, 0, none⟩ (.string r.1)).setCell ⟨w.heap.size + 1, 1, none⟩ (.string ⟨#[122, 122]⟩))) := HB13.out.setCell (by show w.heap.size ≤ w.heap.size + 1; omega) _
   have B214 : Hid (Bx ((u8.setCell ⟨w.heap.size + 1, 0, none⟩ (.string r.1)).setCell ⟨w.heap.size + 1, 1, none⟩ (.string ⟨#[122, 122]⟩)) (v3.heap.size) [.string r.1, .string ⟨#[122, 122]⟩]) := B213.out.setO (p := ⟨w.heap.size + 1, 1, none⟩) (by show w.heap.size + 1 ≠ v3.heap.size; omega) _
   have OR114 : Hid (Lies encR 36 ((u8.setCell ⟨w.heap.size + 1, 0, none⟩ (.string r.1)).setCell ⟨w.heap.size + 1, 1, none⟩ (.string ⟨#[122, 122]⟩)) (v4.heap.size) (v5.heap.size) (.slice ra1 t1.rs.length rc1) (t1.rs)) := OR113.out.setxP (a := ⟨w.heap.size + 1, 1, none⟩) (fun b hb => (by have := OR113.out.lo b hb; show w.heap.size + 1 ≠ b; omega)) _
   have OW114 : Hid (Lies encW 42 ((u8.setCell ⟨w.heap.size + 1, 0, none⟩ (.string r.1)).setCell ⟨w.heap.size + 1, 1, none⟩ (.string ⟨#[122, 122]⟩)) (v4.heap.size) (v5.heap.size) (.slice wa1 t1.ws.length wc1) (t1.ws)) := OW113.out.setxP (a := ⟨w.heap.size + 1, 1, none⟩) (fun b hb => (by have := OW113.out.lo b hb; show w.heap.size + 1 ≠ b; omega)) _
   have B114 : Hid (Bx ((u8.setCell ⟨w.heap.size + 1, 0, none⟩ (.string r.1)).setCell ⟨w.heap.size + 1, 1, none⟩ (.string ⟨#[122, 122]⟩)) (v5.heap.size) [.int .i64 t1.id, .int .i64 t1.st, .int .i64 t1.snap, .int .i64 t1.cs, .slice (some ⟨u3.heap.size, 0, none⟩) 8 8, .slice wa1 t1.ws.length wc1, .bool t1.out, .string t1.nm]) := B113.out.setO (p := ⟨w.heap.size + 1, 1, none⟩) (by show w.heap.size + 1 ≠ v5.heap.size; omega) _
   have OE14 : Hid (Lies encR 36 ((u8.setCell ⟨w.heap.size + 1, 0, none⟩ (.string r.1)).setCell ⟨w.heap.size + 1, 1, none⟩ (.string ⟨#[122, 122]⟩)) (u3.heap.size) (u3.heap.size + 1) (.slice (some ⟨u3.heap.size, 0, none⟩) 8 8) (eight r)) := OE13.out.setxP (a := ⟨w.heap.size + 1, 1, none⟩) (fun b hb => (by have := OE13.out.lo b hb; show w.heap.size + 1 ≠ b; omega)) _
   clear R113 R213 HB13 B213 OR113 OW113 B113 OE13
   generalize ((u8.setCell ⟨w.heap.size + 1, 0, none⟩ (.string r.1)).setCell ⟨w.heap.size + 1, 1, none⟩ (.string ⟨#[122, 122]⟩)) = u9 at *
   (try go_wp2_with fail)
   refine hK.out _ _ ⟨B114.out.c0, B114.out.c1, B114.out.c2, B114.out.c3, B114.out.c4, B114.out.c5, B114.out.c6, B114.out.c7, B214.out.c0, B214.out.c1⟩ (fun hHeld => ?_)
   clear hK K
   refine wpAnyH_done (by kernel_rfl) ?_ _
   go_wp2
   have q0_ := R114.out.c0
   have fq0 := R114.out.fz 0
   have q1_ := R114.out.c1
   have fq1 := R114.out.fz 1
   have q2_ := R114.out.c2
   have fq2 := R114.out.fz 2
   have q3_ := R114.out.c3
   have fq3 := R114.out.fz 3
   have q4_ := R114.out.c4
   have fq4 := R114.out.fz 4
   have q5_ := R114.out.c5
   have fq5 := R114.out.fz 5
   have q6_ := R114.out.c6
   have fq6 := R114.out.fz 6
   have q7_ := R114.out.c7
   have fq7 := R114.out.fz 7
   have p0_ := R214.out.c0
   have p1_ := R214.out.c1
   exact bodyPost_ret (v := .tuple #[.agg #[.int .i64 t1.id, .int .i64 t1.st, .int .i64 t1.snap, .int .i64 t1.cs, .slice (some ⟨u3.heap.size, 0, none⟩) 8 8, .slice wa1 t1.ws.length wc1, .bool t1.out, .string t1.nm], .agg #[.string r.1, .string ⟨#[122, 122]⟩]]) (by simp [results, Tryz.results10, go_sem, q0_, q1_, q2_, q3_, q4_, q5_, q6_, q7_, p0_, p1_]) rfl ⟨⟨t1.id, t1.st, t1.snap, t1.cs, eight r, t1.ws, t1.out, t1.nm⟩, some ⟨u3.heap.size, 0, none⟩, 8, wa1, wc1, (r.1, ⟨#[122, 122]⟩), ⟨⟨by show (8 : Nat) ≤ _; omega, eight_fit HX.out, HT1.out.fit.2.2.1, HT1.out.fit.2.2.2.1, HT1.out.fit.2.2.2.2⟩, by show (8 : Nat) ≤ 8; omega, HT1.out.wl⟩, (fun _ => eight_no HX.out.2.1), ⟨(keyL_ok _ HX.out.1).2, by show (2 : Nat) ≤ 3; omega⟩, rfl, OE14.out.own.mono (by omega), OW114.out.own.mono (by omega), HB14.out⟩

end Go.Proofs.YtnljmdodpffmoaaGreat
