/- Two drawn ones: DrawTxns, l08Pair, DrawAhead. -/
import Derived.Test.YthhplblohhkjbaaP2
import Derived.Test.YthhplblohhkjbaaL2
namespace Go.Proofs.Ythhplblohhkjbaa
open Go.RowKit
open KM
attribute [local go_sem ↓] Go.wp_at_zero Go.wp_at_succ

/-- the rows of one are owned -/
structure TOwn (w : World) (base : Nat) (x : Ta) : Prop where
  r : GOwn encR 54 w base (.slice x.ra x.t.rs.length x.rc) x.t.rs
  w : GOwn encW 56 w base (.slice x.wa x.t.ws.length x.wc) x.t.ws
theorem TOwn.row {w : World} {base : Nat} {x : Ta} (h : TOwn w base x) : TRow w x.t x.ra x.wa := ⟨h.r.grow, h.w.grow⟩
theorem TOwn.below {w w' : World} {base : Nat} {x : Ta} (h : TOwn w base x) (hb : Below w.heap.size w w') : TOwn w' base x := ⟨h.r.below hb, h.w.below hb⟩
theorem TOwn.mono {w : World} {base base' : Nat} {x : Ta} (h : TOwn w base x) (hb : base' ≤ base) : TOwn w base' x := ⟨h.r.mono hb, h.w.mono hb⟩

set_option maxRecDepth 100000 in
set_option maxHeartbeats 4000000 in
theorem dTxns (len cap : Nat) (a : Option Addr) (hl : len ≤ 1048576) (w : World) (hr : CodeRow w a len) :
    Calls Try.prog 12 #[.slice a len cap] w fun e w' => ∃ x y : Ta, TxA x.t ∧ TxA y.t ∧ y.t.id = x.t.id + 1 ∧ e = .returned (.tuple #[.agg #[.int .i64 x.t.id, .int .i64 x.t.st, .int .i64 x.t.snap, .int .i64 x.t.cs, .slice x.ra x.t.rs.length x.rc, .slice x.wa x.t.ws.length x.wc, .bool x.t.out, .string x.t.nm], .agg #[.int .i64 y.t.id, .int .i64 y.t.st, .int .i64 y.t.snap, .int .i64 y.t.cs, .slice y.ra y.t.rs.length y.rc, .slice y.wa y.t.ws.length y.wc, .bool y.t.out, .string y.t.nm]]) ∧ TOwn w' w.heap.size x ∧ TOwn w' w.heap.size y ∧ Below w.heap.size w w' := by
  have R10 : Hid (Bx ((w.alloc (.cells #[.int .i64 0, .int .i64 0, .int .i64 0, .int .i64 0, .slice none 0 0, .slice none 0 0, .bool false, .string ⟨#[]⟩] 27)).alloc (.cells #[.int .i64 0, .int .i64 0, .int .i64 0, .int .i64 0, .slice none 0 0, .slice none 0 0, .bool false, .string ⟨#[]⟩] 27)) (w.heap.size) [.int .i64 0, .int .i64 0, .int .i64 0, .int .i64 0, .slice none 0 0, .slice none 0 0, .bool false, .string ⟨#[]⟩]) := (Bx.new w [.int .i64 0, .int .i64 0, .int .i64 0, .int .i64 0, .slice none 0 0, .slice none 0 0, .bool false, .string ⟨#[]⟩] 27).alloc _
  have R20 : Hid (Bx ((w.alloc (.cells #[.int .i64 0, .int .i64 0, .int .i64 0, .int .i64 0, .slice none 0 0, .slice none 0 0, .bool false, .string ⟨#[]⟩] 27)).alloc (.cells #[.int .i64 0, .int .i64 0, .int .i64 0, .int .i64 0, .slice none 0 0, .slice none 0 0, .bool false, .string ⟨#[]⟩] 27)) (w.heap.size + 1) [.int .i64 0, .int .i64 0, .int .i64 0, .int .i64 0, .slice none 0 0, .slice none 0 0, .bool false, .string ⟨#[]⟩]) := by have h := Bx.new (w.alloc (.cells #[.int .i64 0, .int .i64 0, .int .i64 0, .int .i64 0, .slice none 0 0, .slice none 0 0, .bool false, .string ⟨#[]⟩] 27)) [.int .i64 0, .int .i64 0, .int .i64 0, .int .i64 0, .slice none 0 0, .slice none 0 0, .bool false, .string ⟨#[]⟩] 27; simpa [Hid] using h
  have HB0 : Hid (Below w.heap.size w ((w.alloc (.cells #[.int .i64 0, .int .i64 0, .int .i64 0, .int .i64 0, .slice none 0 0, .slice none 0 0, .bool false, .string ⟨#[]⟩] 27)).alloc (.cells #[.int .i64 0, .int .i64 0, .int .i64 0, .int .i64 0, .slice none 0 0, .slice none 0 0, .bool false, .string ⟨#[]⟩] 27))) := ((belowRefl w).alloc (Nat.le_refl _) _).alloc (by simp) _
  have HR : Hid (CodeRow ((w.alloc (.cells #[.int .i64 0, .int .i64 0, .int .i64 0, .int .i64 0, .slice none 0 0, .slice none 0 0, .bool false, .string ⟨#[]⟩] 27)).alloc (.cells #[.int .i64 0, .int .i64 0, .int .i64 0, .int .i64 0, .slice none 0 0, .slice none 0 0, .bool false, .string ⟨#[]⟩] 27)) a len) := hr.below HB0.out
  have hz0 : w.heap.size + 1 < ((w.alloc (.cells #[.int .i64 0, .int .i64 0, .int .i64 0, .int .i64 0, .slice none 0 0, .slice none 0 0, .bool false, .string ⟨#[]⟩] 27)).alloc (.cells #[.int .i64 0, .int .i64 0, .int .i64 0, .int .i64 0, .slice none 0 0, .slice none 0 0, .bool false, .string ⟨#[]⟩] 27)).heap.size := by simp
  clear hr
  go_enter Try.func12, Try.ntmps12
  go_wp2_with fail
  generalize ((w.alloc (.cells #[.int .i64 0, .int .i64 0, .int .i64 0, .int .i64 0, .slice none 0 0, .slice none 0 0, .bool false, .string ⟨#[]⟩] 27)).alloc (.cells #[.int .i64 0, .int .i64 0, .int .i64 0, .int .i64 0, .slice none 0 0, .slice none 0 0, .bool false, .string ⟨#[]⟩] 27)) = v0 at *
  refine (drNew len cap a hl _ HR.out).mono ?_
  rintro e v1 ⟨rfl, hc, hb⟩
  have hz1 : v0.heap.size ≤ v1.heap.size := hb.size
  have hlc := hc.lt
  have R11 : Hid (Bx v1 (w.heap.size) [.int .i64 0, .int .i64 0, .int .i64 0, .int .i64 0, .slice none 0 0, .slice none 0 0, .bool false, .string ⟨#[]⟩]) := R10.out.below hb
  have R21 : Hid (Bx v1 (w.heap.size + 1) [.int .i64 0, .int .i64 0, .int .i64 0, .int .i64 0, .slice none 0 0, .slice none 0 0, .bool false, .string ⟨#[]⟩]) := R20.out.below hb
  have HB1 : Hid (Below w.heap.size w v1) := HB0.out.trans (hb.mono HB0.out.size)
  clear R10 R20 HB0
  have D1 : Hid (Dn v1 v1 (v0.heap.size) a len cap) := Dn.start hc
  clear hb hc HR
  go_wp2_with fail
  refine (drTxn v0.heap.size len cap a _ D1.out.c).mono ?_
  rintro e v2 ⟨t1, ra1, rc1, wa1, wc1, ht, rfl, ho1, ho2, d⟩
  have HT1 := hide ht
  have hsv2 := d.size
  have R12 : Hid (Bx v2 (w.heap.size) [.int .i64 0, .int .i64 0, .int .i64 0, .int .i64 0, .slice none 0 0, .slice none 0 0, .bool false, .string ⟨#[]⟩]) := R11.out.keptD d (by omega)
  have R22 : Hid (Bx v2 (w.heap.size + 1) [.int .i64 0, .int .i64 0, .int .i64 0, .int .i64 0, .slice none 0 0, .slice none 0 0, .bool false, .string ⟨#[]⟩]) := R21.out.keptD d (by omega)
  have HB2 : Hid (Below w.heap.size w v2) := d.out HB1.out (by omega) (by omega)
  have D2 : Hid (Dn v1 v2 (v0.heap.size) a len cap) := D1.out.step d
  clear R11 R21 HB1 D1
  clear d ht
  have OR12 : Hid (Lies encR 54 v2 (v1.heap.size) (v2.heap.size) (.slice ra1 t1.rs.length rc1) (t1.rs)) := Lies.of ho1
  have OW12 : Hid (Lies encW 56 v2 (v1.heap.size) (v2.heap.size) (.slice wa1 t1.ws.length wc1) (t1.ws)) := Lies.of ho2
  clear ho1 ho2
  go_wp2_with fail
  have hb : Below v2.heap.size v2 (v2.alloc (.cells #[.int .i64 t1.id, .int .i64 t1.st, .int .i64 t1.snap, .int .i64 t1.cs, .slice ra1 t1.rs.length rc1, .slice wa1 t1.ws.length wc1, .bool t1.out, .string t1.nm] 27)) := (belowRefl v2).alloc (Nat.le_refl _) _
  have R13 : Hid (Bx (v2.alloc (.cells #[.int .i64 t1.id, .int .i64 t1.st, .int .i64 t1.snap, .int .i64 t1.cs, .slice ra1 t1.rs.length rc1, .slice wa1 t1.ws.length wc1, .bool t1.out, .string t1.nm] 27)) (w.heap.size) [.int .i64 0, .int .i64 0, .int .i64 0, .int .i64 0, .slice none 0 0, .slice none 0 0, .bool false, .string ⟨#[]⟩]) := R12.out.below hb
  have R23 : Hid (Bx (v2.alloc (.cells #[.int .i64 t1.id, .int .i64 t1.st, .int .i64 t1.snap, .int .i64 t1.cs, .slice ra1 t1.rs.length rc1, .slice wa1 t1.ws.length wc1, .bool t1.out, .string t1.nm] 27)) (w.heap.size + 1) [.int .i64 0, .int .i64 0, .int .i64 0, .int .i64 0, .slice none 0 0, .slice none 0 0, .bool false, .string ⟨#[]⟩]) := R22.out.below hb
  have HB3 : Hid (Below w.heap.size w (v2.alloc (.cells #[.int .i64 t1.id, .int .i64 t1.st, .int .i64 t1.snap, .int .i64 t1.cs, .slice ra1 t1.rs.length rc1, .slice wa1 t1.ws.length wc1, .bool t1.out, .string t1.nm] 27))) := HB2.out.trans (hb.mono HB2.out.size)
  have D3 : Hid (Dn v1 (v2.alloc (.cells #[.int .i64 t1.id, .int .i64 t1.st, .int .i64 t1.snap, .int .i64 t1.cs, .slice ra1 t1.rs.length rc1, .slice wa1 t1.ws.length wc1, .bool t1.out, .string t1.nm] 27)) (v0.heap.size) a len cap) := D2.out.below hb
  have OR13 : Hid (Lies encR 54 (v2.alloc (.cells #[.int .i64 t1.id, .int .i64 t1.st, .int .i64 t1.snap, .int .i64 t1.cs, .slice ra1 t1.rs.length rc1, .slice wa1 t1.ws.length wc1, .bool t1.out, .string t1.nm] 27)) (v1.heap.size) (v2.heap.size) (.slice ra1 t1.rs.length rc1) (t1.rs)) := OR12.out.below hb
  have OW13 : Hid (Lies encW 56 (v2.alloc (.cells #[.int .i64 t1.id, .int .i64 t1.st, .int .i64 t1.snap, .int .i64 t1.cs, .slice ra1 t1.rs.length rc1, .slice wa1 t1.ws.length wc1, .bool t1.out, .string t1.nm] 27)) (v1.heap.size) (v2.heap.size) (.slice wa1 t1.ws.length wc1) (t1.ws)) := OW12.out.below hb
  clear R12 R22 HB2 D2 OR12 OW12
  have B13 : Hid (Bx (v2.alloc (.cells #[.int .i64 t1.id, .int .i64 t1.st, .int .i64 t1.snap, .int .i64 t1.cs, .slice ra1 t1.rs.length rc1, .slice wa1 t1.ws.length wc1, .bool t1.out, .string t1.nm] 27)) (v2.heap.size) [.int .i64 t1.id, .int .i64 t1.st, .int .i64 t1.snap, .int .i64 t1.cs, .slice ra1 t1.rs.length rc1, .slice wa1 t1.ws.length wc1, .bool t1.out, .string t1.nm]) := Bx.new v2 [.int .i64 t1.id, .int .i64 t1.st, .int .i64 t1.snap, .int .i64 t1.cs, .slice ra1 t1.rs.length rc1, .slice wa1 t1.ws.length wc1, .bool t1.out, .string t1.nm] 27
  clear hb
  generalize (v2.alloc (.cells #[.int .i64 t1.id, .int .i64 t1.st, .int .i64 t1.snap, .int .i64 t1.cs, .slice ra1 t1.rs.length rc1, .slice wa1 t1.ws.length wc1, .bool t1.out, .string t1.nm] 27)) = v3 at *
  have hlv3 : v2.heap.size < v3.heap.size := B13.out.lt
  refine (drTxn v0.heap.size len cap a _ D3.out.c).mono ?_
  rintro e v4 ⟨t2, ra2, rc2, wa2, wc2, ht, rfl, ho1, ho2, d⟩
  have HT2 := hide ht
  have hsv4 := d.size
  have R14 : Hid (Bx v4 (w.heap.size) [.int .i64 0, .int .i64 0, .int .i64 0, .int .i64 0, .slice none 0 0, .slice none 0 0, .bool false, .string ⟨#[]⟩]) := R13.out.keptD d (by omega)
  have R24 : Hid (Bx v4 (w.heap.size + 1) [.int .i64 0, .int .i64 0, .int .i64 0, .int .i64 0, .slice none 0 0, .slice none 0 0, .bool false, .string ⟨#[]⟩]) := R23.out.keptD d (by omega)
  have HB4 : Hid (Below w.heap.size w v4) := d.out HB3.out (by omega) (by omega)
  have D4 : Hid (Dn v1 v4 (v0.heap.size) a len cap) := D3.out.step d
  have OR14 : Hid (Lies encR 54 v4 (v1.heap.size) (v2.heap.size) (.slice ra1 t1.rs.length rc1) (t1.rs)) := ⟨OR13.out.own.keptD d (by omega), OR13.out.up⟩
  have OW14 : Hid (Lies encW 56 v4 (v1.heap.size) (v2.heap.size) (.slice wa1 t1.ws.length wc1) (t1.ws)) := ⟨OW13.out.own.keptD d (by omega), OW13.out.up⟩
  have B14 : Hid (Bx v4 (v2.heap.size) [.int .i64 t1.id, .int .i64 t1.st, .int .i64 t1.snap, .int .i64 t1.cs, .slice ra1 t1.rs.length rc1, .slice wa1 t1.ws.length wc1, .bool t1.out, .string t1.nm]) := B13.out.keptD d (by omega)
  clear R13 R23 HB3 D3 OR13 OW13 B13
  clear d ht
  have OR24 : Hid (Lies encR 54 v4 (v3.heap.size) (v4.heap.size) (.slice ra2 t2.rs.length rc2) (t2.rs)) := Lies.of ho1
  have OW24 : Hid (Lies encW 56 v4 (v3.heap.size) (v4.heap.size) (.slice wa2 t2.ws.length wc2) (t2.ws)) := Lies.of ho2
  clear ho1 ho2
  have hid := HT1.out.id
  have ew : IntKind.i64.wrap (t1.id + 1) = t1.id + 1 := by rw [IntKind.wrap_i64]; omega
  have z0 := B14.out.c0
  go_upto_region 4 with fail
  clear z0
  have hb : Below v4.heap.size v4 (v4.alloc (.cells #[.int .i64 t2.id, .int .i64 t2.st, .int .i64 t2.snap, .int .i64 t2.cs, .slice ra2 t2.rs.length rc2, .slice wa2 t2.ws.length wc2, .bool t2.out, .string t2.nm] 27)) := (belowRefl v4).alloc (Nat.le_refl _) _
  have R15 : Hid (Bx (v4.alloc (.cells #[.int .i64 t2.id, .int .i64 t2.st, .int .i64 t2.snap, .int .i64 t2.cs, .slice ra2 t2.rs.length rc2, .slice wa2 t2.ws.length wc2, .bool t2.out, .string t2.nm] 27)) (w.heap.size) [.int .i64 0, .int .i64 0, .int .i64 0, .int .i64 0, .slice none 0 0, .slice none 0 0, .bool false, .string ⟨#[]⟩]) := R14.out.below hb
  have R25 : Hid (Bx (v4.alloc (.cells #[.int .i64 t2.id, .int .i64 t2.st, .int .i64 t2.snap, .int .i64 t2.cs, .slice ra2 t2.rs.length rc2, .slice wa2 t2.ws.length wc2, .bool t2.out, .string t2.nm] 27)) (w.heap.size + 1) [.int .i64 0, .int .i64 0, .int .i64 0, .int .i64 0, .slice none 0 0, .slice none 0 0, .bool false, .string ⟨#[]⟩]) := R24.out.below hb
  have HB5 : Hid (Below w.heap.size w (v4.alloc (.cells #[.int .i64 t2.id, .int .i64 t2.st, .int .i64 t2.snap, .int .i64 t2.cs, .slice ra2 t2.rs.length rc2, .slice wa2 t2.ws.length wc2, .bool t2.out, .string t2.nm] 27))) := HB4.out.trans (hb.mono HB4.out.size)
  have D5 : Hid (Dn v1 (v4.alloc (.cells #[.int .i64 t2.id, .int .i64 t2.st, .int .i64 t2.snap, .int .i64 t2.cs, .slice ra2 t2.rs.length rc2, .slice wa2 t2.ws.length wc2, .bool t2.out, .string t2.nm] 27)) (v0.heap.size) a len cap) := D4.out.below hb
  have OR15 : Hid (Lies encR 54 (v4.alloc (.cells #[.int .i64 t2.id, .int .i64 t2.st, .int .i64 t2.snap, .int .i64 t2.cs, .slice ra2 t2.rs.length rc2, .slice wa2 t2.ws.length wc2, .bool t2.out, .string t2.nm] 27)) (v1.heap.size) (v2.heap.size) (.slice ra1 t1.rs.length rc1) (t1.rs)) := OR14.out.below hb
  have OW15 : Hid (Lies encW 56 (v4.alloc (.cells #[.int .i64 t2.id, .int .i64 t2.st, .int .i64 t2.snap, .int .i64 t2.cs, .slice ra2 t2.rs.length rc2, .slice wa2 t2.ws.length wc2, .bool t2.out, .string t2.nm] 27)) (v1.heap.size) (v2.heap.size) (.slice wa1 t1.ws.length wc1) (t1.ws)) := OW14.out.below hb
  have B15 : Hid (Bx (v4.alloc (.cells #[.int .i64 t2.id, .int .i64 t2.st, .int .i64 t2.snap, .int .i64 t2.cs, .slice ra2 t2.rs.length rc2, .slice wa2 t2.ws.length wc2, .bool t2.out, .string t2.nm] 27)) (v2.heap.size) [.int .i64 t1.id, .int .i64 t1.st, .int .i64 t1.snap, .int .i64 t1.cs, .slice ra1 t1.rs.length rc1, .slice wa1 t1.ws.length wc1, .bool t1.out, .string t1.nm]) := B14.out.below hb
  have OR25 : Hid (Lies encR 54 (v4.alloc (.cells #[.int .i64 t2.id, .int .i64 t2.st, .int .i64 t2.snap, .int .i64 t2.cs, .slice ra2 t2.rs.length rc2, .slice wa2 t2.ws.length wc2, .bool t2.out, .string t2.nm] 27)) (v3.heap.size) (v4.heap.size) (.slice ra2 t2.rs.length rc2) (t2.rs)) := OR24.out.below hb
  have OW25 : Hid (Lies encW 56 (v4.alloc (.cells #[.int .i64 t2.id, .int .i64 t2.st, .int .i64 t2.snap, .int .i64 t2.cs, .slice ra2 t2.rs.length rc2, .slice wa2 t2.ws.length wc2, .bool t2.out, .string t2.nm] 27)) (v3.heap.size) (v4.heap.size) (.slice wa2 t2.ws.length wc2) (t2.ws)) := OW24.out.below hb
  clear R14 R24 HB4 D4 OR14 OW14 B14 OR24 OW24
  have B25 : Hid (Bx (v4.alloc (.cells #[.int .i64 t2.id, .int .i64 t2.st, .int .i64 t2.snap, .int .i64 t2.cs, .slice ra2 t2.rs.length rc2, .slice wa2 t2.ws.length wc2, .bool t2.out, .string t2.nm] 27)) (v4.heap.size) [.int .i64 t2.id, .int .i64 t2.st, .int .i64 t2.snap, .int .i64 t2.cs, .slice ra2 t2.rs.length rc2, .slice wa2 t2.ws.length wc2, .bool t2.out, .string t2.nm]) := Bx.new v4 [.int .i64 t2.id, .int .i64 t2.st, .int .i64 t2.snap, .int .i64 t2.cs, .slice ra2 t2.rs.length rc2, .slice wa2 t2.ws.length wc2, .bool t2.out, .string t2.nm] 27
  clear hb
  generalize (v4.alloc (.cells #[.int .i64 t2.id, .int .i64 t2.st, .int .i64 t2.snap, .int .i64 t2.cs, .slice ra2 t2.rs.length rc2, .slice wa2 t2.ws.length wc2, .bool t2.out, .string t2.nm] 27)) = v5 at *
  have hlv5 : v4.heap.size < v5.heap.size := B25.out.lt
  have z0 := B15.out.c0
  have y0 := B25.out.c0
  have yf := B25.out.fz 0
  go_wp2
  clear z0 y0 yf
  have R16 : Hid (Bx (v5.setCell ⟨v4.heap.size, 0, none⟩ (.int .i64 (t1.id + 1))) (w.heap.size) [.int .i64 0, .int .i64 0, .int .i64 0, .int .i64 0, .slice none 0 0, .slice none 0 0, .bool false, .string ⟨#[]⟩]) := R15.out.setO (p := ⟨v4.heap.size, 0, none⟩) (by show v4.heap.size ≠ w.heap.size; omega) _
  have R26 : Hid (Bx (v5.setCell ⟨v4.heap.size, 0, none⟩ (.int .i64 (t1.id + 1))) (w.heap.size + 1) [.int .i64 0, .int .i64 0, .int .i64 0, .int .i64 0, .slice none 0 0, .slice none 0 0, .bool false, .string ⟨#[]⟩]) := R25.out.setO (p := ⟨v4.heap.size, 0, none⟩) (by show v4.heap.size ≠ w.heap.size + 1; omega) _
  have HB6 : Hid (Below w.heap.size w (v5.setCell ⟨v4.heap.size, 0, none⟩ (.int .i64 (t1.id + 1)))) := HB5.out.setCell (by show w.heap.size ≤ v4.heap.size; omega) _
  have D6 : Hid (Dn v1 (v5.setCell ⟨v4.heap.size, 0, none⟩ (.int .i64 (t1.id + 1))) (v0.heap.size) a len cap) := D5.out.set (p := ⟨v4.heap.size, 0, none⟩) (by show v1.heap.size ≤ v4.heap.size; omega) _
  have OR16 : Hid (Lies encR 54 (v5.setCell ⟨v4.heap.size, 0, none⟩ (.int .i64 (t1.id + 1))) (v1.heap.size) (v2.heap.size) (.slice ra1 t1.rs.length rc1) (t1.rs)) := OR15.out.setxP (a := ⟨v4.heap.size, 0, none⟩) (fun b hb => (by have := OR15.out.lo b hb; show v4.heap.size ≠ b; omega)) _
  have OW16 : Hid (Lies encW 56 (v5.setCell ⟨v4.heap.size, 0, none⟩ (.int .i64 (t1.id + 1))) (v1.heap.size) (v2.heap.size) (.slice wa1 t1.ws.length wc1) (t1.ws)) := OW15.out.setxP (a := ⟨v4.heap.size, 0, none⟩) (fun b hb => (by have := OW15.out.lo b hb; show v4.heap.size ≠ b; omega)) _
  have B16 : Hid (Bx (v5.setCell ⟨v4.heap.size, 0, none⟩ (.int .i64 (t1.id + 1))) (v2.heap.size) [.int .i64 t1.id, .int .i64 t1.st, .int .i64 t1.snap, .int .i64 t1.cs, .slice ra1 t1.rs.length rc1, .slice wa1 t1.ws.length wc1, .bool t1.out, .string t1.nm]) := B15.out.setO (p := ⟨v4.heap.size, 0, none⟩) (by show v4.heap.size ≠ v2.heap.size; omega) _
  have OR26 : Hid (Lies encR 54 (v5.setCell ⟨v4.heap.size, 0, none⟩ (.int .i64 (t1.id + 1))) (v3.heap.size) (v4.heap.size) (.slice ra2 t2.rs.length rc2) (t2.rs)) := OR25.out.setxP (a := ⟨v4.heap.size, 0, none⟩) (fun b hb => (by have := OR25.out.lo b hb; show v4.heap.size ≠ b; omega)) _
  have OW26 : Hid (Lies encW 56 (v5.setCell ⟨v4.heap.size, 0, none⟩ (.int .i64 (t1.id + 1))) (v3.heap.size) (v4.heap.size) (.slice wa2 t2.ws.length wc2) (t2.ws)) := OW25.out.setxP (a := ⟨v4.heap.size, 0, none⟩) (fun b hb => (by have := OW25.out.lo b hb; show v4.heap.size ≠ b; omega)) _
  have B26 : Hid (Bx (v5.setCell ⟨v4.heap.size, 0, none⟩ (.int .i64 (t1.id + 1))) (v4.heap.size) [.int .i64 (t1.id + 1), .int .i64 t2.st, .int .i64 t2.snap, .int .i64 t2.cs, .slice ra2 t2.rs.length rc2, .slice wa2 t2.ws.length wc2, .bool t2.out, .string t2.nm]) := B25.out.set 0 _
  clear R15 R25 HB5 D5 OR15 OW15 B15 OR25 OW25 B25
  generalize (v5.setCell ⟨v4.heap.size, 0, none⟩ (.int .i64 (t1.id + 1))) = v6 at *
  refine wp_region_held_drew (S := fun w' => w'.cell? ⟨v2.heap.size, 0, none⟩ = some (.int .i64 t1.id) ∧ w'.cell? ⟨v2.heap.size, 1, none⟩ = some (.int .i64 t1.st) ∧ w'.cell? ⟨v2.heap.size, 2, none⟩ = some (.int .i64 t1.snap) ∧ w'.cell? ⟨v2.heap.size, 3, none⟩ = some (.int .i64 t1.cs) ∧ w'.cell? ⟨v2.heap.size, 4, none⟩ = some (.slice ra1 t1.rs.length rc1) ∧ w'.cell? ⟨v2.heap.size, 5, none⟩ = some (.slice wa1 t1.ws.length wc1) ∧ w'.cell? ⟨v2.heap.size, 6, none⟩ = some (.bool t1.out) ∧ w'.cell? ⟨v2.heap.size, 7, none⟩ = some (.string t1.nm) ∧ w'.cell? ⟨v4.heap.size, 0, none⟩ = some (.int .i64 (t1.id + 1)) ∧ w'.cell? ⟨v4.heap.size, 1, none⟩ = some (.int .i64 t2.st) ∧ w'.cell? ⟨v4.heap.size, 2, none⟩ = some (.int .i64 t2.snap) ∧ w'.cell? ⟨v4.heap.size, 3, none⟩ = some (.int .i64 t2.cs) ∧ w'.cell? ⟨v4.heap.size, 4, none⟩ = some (.slice ra2 t2.rs.length rc2) ∧ w'.cell? ⟨v4.heap.size, 5, none⟩ = some (.slice wa2 t2.ws.length wc2) ∧ w'.cell? ⟨v4.heap.size, 6, none⟩ = some (.bool t2.out) ∧ w'.cell? ⟨v4.heap.size, 7, none⟩ = some (.string t2.nm)) (by kernel_rfl) ⟨B16.out.c0, B16.out.c1, B16.out.c2, B16.out.c3, B16.out.c4, B16.out.c5, B16.out.c6, B16.out.c7, B26.out.c0, B26.out.c1, B26.out.c2, B26.out.c3, B26.out.c4, B26.out.c5, B26.out.c6, B26.out.c7⟩ (fun hHeld => ?_)
  (refine wpAnyH_take (i := 0) (v := ?_) rfl (by kernel_rfl) (by kernel_rfl) (by kernel_rfl) (fun _ _ _ h => h) (Or.inl ⟨by rfl, ?_⟩) (by assumption) ?_; rotate_left; (focus (intro w hSw; (try dsimp only at hSw); go_simp; (try with_reducible rfl); done)); simp only [Act.put, List.getElem_toArray, List.getElem_cons_zero, List.setIfInBounds_toArray, List.set_cons_zero, List.set_cons_succ])
  (refine wpAnyH_take (i := 1) (v := ?_) rfl (by kernel_rfl) (by kernel_rfl) (by kernel_rfl) (fun _ _ _ h => h) (Or.inl ⟨by rfl, ?_⟩) (by assumption) ?_; rotate_left; (focus (intro w hSw; (try dsimp only at hSw); go_simp; (try with_reducible rfl); done)); simp only [Act.put, List.getElem_toArray, List.getElem_cons_zero, List.getElem_cons_succ, List.setIfInBounds_toArray, List.set_cons_zero, List.set_cons_succ])
  have R17 : Hid (Bx v6.drew (w.heap.size) [.int .i64 0, .int .i64 0, .int .i64 0, .int .i64 0, .slice none 0 0, .slice none 0 0, .bool false, .string ⟨#[]⟩]) := R16.out.below (belowRefl v6).drew
  have R27 : Hid (Bx v6.drew (w.heap.size + 1) [.int .i64 0, .int .i64 0, .int .i64 0, .int .i64 0, .slice none 0 0, .slice none 0 0, .bool false, .string ⟨#[]⟩]) := R26.out.below (belowRefl v6).drew
  have HB7 : Hid (Below w.heap.size w v6.drew) := HB6.out.trans ((belowRefl v6).drew.mono HB6.out.size)
  have D7 : Hid (Dn v1 v6.drew (v0.heap.size) a len cap) := D6.out.below (belowRefl v6).drew
  have OR17 : Hid (Lies encR 54 v6.drew (v1.heap.size) (v2.heap.size) (.slice ra1 t1.rs.length rc1) (t1.rs)) := OR16.out.below (belowRefl v6).drew
  have OW17 : Hid (Lies encW 56 v6.drew (v1.heap.size) (v2.heap.size) (.slice wa1 t1.ws.length wc1) (t1.ws)) := OW16.out.below (belowRefl v6).drew
  have B17 : Hid (Bx v6.drew (v2.heap.size) [.int .i64 t1.id, .int .i64 t1.st, .int .i64 t1.snap, .int .i64 t1.cs, .slice ra1 t1.rs.length rc1, .slice wa1 t1.ws.length wc1, .bool t1.out, .string t1.nm]) := B16.out.below (belowRefl v6).drew
  have OR27 : Hid (Lies encR 54 v6.drew (v3.heap.size) (v4.heap.size) (.slice ra2 t2.rs.length rc2) (t2.rs)) := OR26.out.below (belowRefl v6).drew
  have OW27 : Hid (Lies encW 56 v6.drew (v3.heap.size) (v4.heap.size) (.slice wa2 t2.ws.length wc2) (t2.ws)) := OW26.out.below (belowRefl v6).drew
  have B27 : Hid (Bx v6.drew (v4.heap.size) [.int .i64 (t1.id + 1), .int .i64 t2.st, .int .i64 t2.snap, .int .i64 t2.cs, .slice ra2 t2.rs.length rc2, .slice wa2 t2.ws.length wc2, .bool t2.out, .string t2.nm]) := B26.out.below (belowRefl v6).drew
  clear R16 R26 HB6 D6 OR16 OW16 B16 OR26 OW26 B26
  have hd6 : v6.heap.size ≤ v6.drew.heap.size := Nat.le_refl _
  clear hHeld
  generalize v6.drew = v7 at *
  clear D7
  have q0_ := R17.out.c0
  have fq0 := R17.out.fz 0
  have q1_ := R17.out.c1
  have fq1 := R17.out.fz 1
  have q2_ := R17.out.c2
  have fq2 := R17.out.fz 2
  have q3_ := R17.out.c3
  have fq3 := R17.out.fz 3
  have q4_ := R17.out.c4
  have fq4 := R17.out.fz 4
  have q5_ := R17.out.c5
  have fq5 := R17.out.fz 5
  have q6_ := R17.out.c6
  have fq6 := R17.out.fz 6
  have q7_ := R17.out.c7
  have fq7 := R17.out.fz 7
  refine wpAnyH_ready (rs := [2]) (by kernel_rfl) (by simp) ?_
  refine AllReadyH.cons rfl (fun K hK => ?_) AllReadyH.nil
  go_simp
  clear q0_ fq0 q1_ fq1 q2_ fq2 q3_ fq3 q4_ fq4 q5_ fq5 q6_ fq6 q7_ fq7
  have R18 : Hid (Bx ((((((((v7.setCell ⟨w.heap.size, 0, none⟩ (.int .i64 t1.id)).setCell ⟨w.heap.size, 1, none⟩ (.int .i64 t1.st)).setCell ⟨w.heap.size, 2, none⟩ (.int .i64 t1.snap)).setCell ⟨w.heap.size, 3, none⟩ (.int .i64 t1.cs)).setCell ⟨w.heap.size, 4, none⟩ (.slice ra1 t1.rs.length rc1)).setCell ⟨w.heap.size, 5, none⟩ (.slice wa1 t1.ws.length wc1)).setCell ⟨w.heap.size, 6, none⟩ (.bool t1.out)).setCell ⟨w.heap.size, 7, none⟩ (.string t1.nm)) (w.heap.size) [.int .i64 t1.id, .int .i64 t1.st, .int .i64 t1.snap, .int .i64 t1.cs, .slice ra1 t1.rs.length rc1, .slice wa1 t1.ws.length wc1, .bool t1.out, .string t1.nm]) := R17.out.s8P (.int .i64 t1.id) (.int .i64 t1.st) (.int .i64 t1.snap) (.int .i64 t1.cs) (.slice ra1 t1.rs.length rc1) (.slice wa1 t1.ws.length wc1) (.bool t1.out) (.string t1.nm)
  have R28 : Hid (Bx ((((((((v7.setCell ⟨w.heap.size, 0, none⟩ (.int .i64 t1.id)).setCell ⟨w.heap.size, 1, none⟩ (.int .i64 t1.st)).setCell ⟨w.heap.size, 2, none⟩ (.int .i64 t1.snap)).setCell ⟨w.heap.size, 3, none⟩ (.int .i64 t1.cs)).setCell ⟨w.heap.size, 4, none⟩ (.slice ra1 t1.rs.length rc1)).setCell ⟨w.heap.size, 5, none⟩ (.slice wa1 t1.ws.length wc1)).setCell ⟨w.heap.size, 6, none⟩ (.bool t1.out)).setCell ⟨w.heap.size, 7, none⟩ (.string t1.nm)) (w.heap.size + 1) [.int .i64 0, .int .i64 0, .int .i64 0, .int .i64 0, .slice none 0 0, .slice none 0 0, .bool false, .string ⟨#[]⟩]) := R27.out.o8P (ob := w.heap.size) (by omega) (.int .i64 t1.id) (.int .i64 t1.st) (.int .i64 t1.snap) (.int .i64 t1.cs) (.slice ra1 t1.rs.length rc1) (.slice wa1 t1.ws.length wc1) (.bool t1.out) (.string t1.nm)
  have HB8 : Hid (Below w.heap.size w ((((((((v7.setCell ⟨w.heap.size, 0, none⟩ (.int .i64 t1.id)).setCell ⟨w.heap.size, 1, none⟩ (.int .i64 t1.st)).setCell ⟨w.heap.size, 2, none⟩ (.int .i64 t1.snap)).setCell ⟨w.heap.size, 3, none⟩ (.int .i64 t1.cs)).setCell ⟨w.heap.size, 4, none⟩ (.slice ra1 t1.rs.length rc1)).setCell ⟨w.heap.size, 5, none⟩ (.slice wa1 t1.ws.length wc1)).setCell ⟨w.heap.size, 6, none⟩ (.bool t1.out)).setCell ⟨w.heap.size, 7, none⟩ (.string t1.nm))) := below_s8P HB7.out (ob := w.heap.size) (by omega) (.int .i64 t1.id) (.int .i64 t1.st) (.int .i64 t1.snap) (.int .i64 t1.cs) (.slice ra1 t1.rs.length rc1) (.slice wa1 t1.ws.length wc1) (.bool t1.out) (.string t1.nm)
  have OR18 : Hid (Lies encR 54 ((((((((v7.setCell ⟨w.heap.size, 0, none⟩ (.int .i64 t1.id)).setCell ⟨w.heap.size, 1, none⟩ (.int .i64 t1.st)).setCell ⟨w.heap.size, 2, none⟩ (.int .i64 t1.snap)).setCell ⟨w.heap.size, 3, none⟩ (.int .i64 t1.cs)).setCell ⟨w.heap.size, 4, none⟩ (.slice ra1 t1.rs.length rc1)).setCell ⟨w.heap.size, 5, none⟩ (.slice wa1 t1.ws.length wc1)).setCell ⟨w.heap.size, 6, none⟩ (.bool t1.out)).setCell ⟨w.heap.size, 7, none⟩ (.string t1.nm)) (v1.heap.size) (v2.heap.size) (.slice ra1 t1.rs.length rc1) (t1.rs)) := ⟨own_s8P OR17.out.own (ob := w.heap.size) (by omega) (.int .i64 t1.id) (.int .i64 t1.st) (.int .i64 t1.snap) (.int .i64 t1.cs) (.slice ra1 t1.rs.length rc1) (.slice wa1 t1.ws.length wc1) (.bool t1.out) (.string t1.nm), OR17.out.up⟩
  have OW18 : Hid (Lies encW 56 ((((((((v7.setCell ⟨w.heap.size, 0, none⟩ (.int .i64 t1.id)).setCell ⟨w.heap.size, 1, none⟩ (.int .i64 t1.st)).setCell ⟨w.heap.size, 2, none⟩ (.int .i64 t1.snap)).setCell ⟨w.heap.size, 3, none⟩ (.int .i64 t1.cs)).setCell ⟨w.heap.size, 4, none⟩ (.slice ra1 t1.rs.length rc1)).setCell ⟨w.heap.size, 5, none⟩ (.slice wa1 t1.ws.length wc1)).setCell ⟨w.heap.size, 6, none⟩ (.bool t1.out)).setCell ⟨w.heap.size, 7, none⟩ (.string t1.nm)) (v1.heap.size) (v2.heap.size) (.slice wa1 t1.ws.length wc1) (t1.ws)) := ⟨own_s8P OW17.out.own (ob := w.heap.size) (by omega) (.int .i64 t1.id) (.int .i64 t1.st) (.int .i64 t1.snap) (.int .i64 t1.cs) (.slice ra1 t1.rs.length rc1) (.slice wa1 t1.ws.length wc1) (.bool t1.out) (.string t1.nm), OW17.out.up⟩
  have B18 : Hid (Bx ((((((((v7.setCell ⟨w.heap.size, 0, none⟩ (.int .i64 t1.id)).setCell ⟨w.heap.size, 1, none⟩ (.int .i64 t1.st)).setCell ⟨w.heap.size, 2, none⟩ (.int .i64 t1.snap)).setCell ⟨w.heap.size, 3, none⟩ (.int .i64 t1.cs)).setCell ⟨w.heap.size, 4, none⟩ (.slice ra1 t1.rs.length rc1)).setCell ⟨w.heap.size, 5, none⟩ (.slice wa1 t1.ws.length wc1)).setCell ⟨w.heap.size, 6, none⟩ (.bool t1.out)).setCell ⟨w.heap.size, 7, none⟩ (.string t1.nm)) (v2.heap.size) [.int .i64 t1.id, .int .i64 t1.st, .int .i64 t1.snap, .int .i64 t1.cs, .slice ra1 t1.rs.length rc1, .slice wa1 t1.ws.length wc1, .bool t1.out, .string t1.nm]) := B17.out.o8P (ob := w.heap.size) (by omega) (.int .i64 t1.id) (.int .i64 t1.st) (.int .i64 t1.snap) (.int .i64 t1.cs) (.slice ra1 t1.rs.length rc1) (.slice wa1 t1.ws.length wc1) (.bool t1.out) (.string t1.nm)
  have OR28 : Hid (Lies encR 54 ((((((((v7.setCell ⟨w.heap.size, 0, none⟩ (.int .i64 t1.id)).setCell ⟨w.heap.size, 1, none⟩ (.int .i64 t1.st)).setCell ⟨w.heap.size, 2, none⟩ (.int .i64 t1.snap)).setCell ⟨w.heap.size, 3, none⟩ (.int .i64 t1.cs)).setCell ⟨w.heap.size, 4, none⟩ (.slice ra1 t1.rs.length rc1)).setCell ⟨w.heap.size, 5, none⟩ (.slice wa1 t1.ws.length wc1)).setCell ⟨w.heap.size, 6, none⟩ (.bool t1.out)).setCell ⟨w.heap.size, 7, none⟩ (.string t1.nm)) (v3.heap.size) (v4.heap.size) (.slice ra2 t2.rs.length rc2) (t2.rs)) := ⟨own_s8P OR27.out.own (ob := w.heap.size) (by omega) (.int .i64 t1.id) (.int .i64 t1.st) (.int .i64 t1.snap) (.int .i64 t1.cs) (.slice ra1 t1.rs.length rc1) (.slice wa1 t1.ws.length wc1) (.bool t1.out) (.string t1.nm), OR27.out.up⟩
  have OW28 : Hid (Lies encW 56 ((((((((v7.setCell ⟨w.heap.size, 0, none⟩ (.int .i64 t1.id)).setCell ⟨w.heap.size, 1, none⟩ (.int .i64 t1.st)).setCell ⟨w.heap.size, 2, none⟩ (.int .i64 t1.snap)).setCell ⟨w.heap.size, 3, none⟩ (.int .i64 t1.cs)).setCell ⟨w.heap.size, 4, none⟩ (.slice ra1 t1.rs.length rc1)).setCell ⟨w.heap.size, 5, none⟩ (.slice wa1 t1.ws.length wc1)).setCell ⟨w.heap.size, 6, none⟩ (.bool t1.out)).setCell ⟨w.heap.size, 7, none⟩ (.string t1.nm)) (v3.heap.size) (v4.heap.size) (.slice wa2 t2.ws.length wc2) (t2.ws)) := ⟨own_s8P OW27.out.own (ob := w.heap.size) (by omega) (.int .i64 t1.id) (.int .i64 t1.st) (.int .i64 t1.snap) (.int .i64 t1.cs) (.slice ra1 t1.rs.length rc1) (.slice wa1 t1.ws.length wc1) (.bool t1.out) (.string t1.nm), OW27.out.up⟩
  have B28 : Hid (Bx ((((((((v7.setCell ⟨w.heap.size, 0, none⟩ (.int .i64 t1.id)).setCell ⟨w.heap.size, 1, none⟩ (.int .i64 t1.st)).setCell ⟨w.heap.size, 2, none⟩ (.int .i64 t1.snap)).setCell ⟨w.heap.size, 3, none⟩ (.int .i64 t1.cs)).setCell ⟨w.heap.size, 4, none⟩ (.slice ra1 t1.rs.length rc1)).setCell ⟨w.heap.size, 5, none⟩ (.slice wa1 t1.ws.length wc1)).setCell ⟨w.heap.size, 6, none⟩ (.bool t1.out)).setCell ⟨w.heap.size, 7, none⟩ (.string t1.nm)) (v4.heap.size) [.int .i64 (t1.id + 1), .int .i64 t2.st, .int .i64 t2.snap, .int .i64 t2.cs, .slice ra2 t2.rs.length rc2, .slice wa2 t2.ws.length wc2, .bool t2.out, .string t2.nm]) := B27.out.o8P (ob := w.heap.size) (by omega) (.int .i64 t1.id) (.int .i64 t1.st) (.int .i64 t1.snap) (.int .i64 t1.cs) (.slice ra1 t1.rs.length rc1) (.slice wa1 t1.ws.length wc1) (.bool t1.out) (.string t1.nm)
  clear R17 R27 HB7 OR17 OW17 B17 OR27 OW27 B27
  generalize ((((((((v7.setCell ⟨w.heap.size, 0, none⟩ (.int .i64 t1.id)).setCell ⟨w.heap.size, 1, none⟩ (.int .i64 t1.st)).setCell ⟨w.heap.size, 2, none⟩ (.int .i64 t1.snap)).setCell ⟨w.heap.size, 3, none⟩ (.int .i64 t1.cs)).setCell ⟨w.heap.size, 4, none⟩ (.slice ra1 t1.rs.length rc1)).setCell ⟨w.heap.size, 5, none⟩ (.slice wa1 t1.ws.length wc1)).setCell ⟨w.heap.size, 6, none⟩ (.bool t1.out)).setCell ⟨w.heap.size, 7, none⟩ (.string t1.nm)) = v8 at *
  (try go_wp2_with fail)
  refine hK.out _ _ ⟨B18.out.c0, B18.out.c1, B18.out.c2, B18.out.c3, B18.out.c4, B18.out.c5, B18.out.c6, B18.out.c7, B28.out.c0, B28.out.c1, B28.out.c2, B28.out.c3, B28.out.c4, B28.out.c5, B28.out.c6, B28.out.c7⟩ (fun hHeld => ?_)
  clear hK K
  have p0_ := R28.out.c0
  have fp0 := R28.out.fz 0
  have p1_ := R28.out.c1
  have fp1 := R28.out.fz 1
  have p2_ := R28.out.c2
  have fp2 := R28.out.fz 2
  have p3_ := R28.out.c3
  have fp3 := R28.out.fz 3
  have p4_ := R28.out.c4
  have fp4 := R28.out.fz 4
  have p5_ := R28.out.c5
  have fp5 := R28.out.fz 5
  have p6_ := R28.out.c6
  have fp6 := R28.out.fz 6
  have p7_ := R28.out.c7
  have fp7 := R28.out.fz 7
  refine wpAnyH_ready (rs := [3]) (by kernel_rfl) (by simp) ?_
  refine AllReadyH.cons rfl (fun K hK => ?_) AllReadyH.nil
  go_simp
  clear p0_ fp0 p1_ fp1 p2_ fp2 p3_ fp3 p4_ fp4 p5_ fp5 p6_ fp6 p7_ fp7
  have R19 : Hid (Bx ((((((((v8.setCell ⟨(w.heap.size + 1), 0, none⟩ (.int .i64 (t1.id + 1))).setCell ⟨(w.heap.size + 1), 1, none⟩ (.int .i64 t2.st)).setCell ⟨(w.heap.size + 1), 2, none⟩ (.int .i64 t2.snap)).setCell ⟨(w.heap.size + 1), 3, none⟩ (.int .i64 t2.cs)).setCell ⟨(w.heap.size + 1), 4, none⟩ (.slice ra2 t2.rs.length rc2)).setCell ⟨(w.heap.size + 1), 5, none⟩ (.slice wa2 t2.ws.length wc2)).setCell ⟨(w.heap.size + 1), 6, none⟩ (.bool t2.out)).setCell ⟨(w.heap.size + 1), 7, none⟩ (.string t2.nm)) (w.heap.size) [.int .i64 t1.id, .int .i64 t1.st, .int .i64 t1.snap, .int .i64 t1.cs, .slice ra1 t1.rs.length rc1, .slice wa1 t1.ws.length wc1, .bool t1.out, .string t1.nm]) := R18.out.o8P (ob := (w.heap.size + 1)) (by omega) (.int .i64 (t1.id + 1)) (.int .i64 t2.st) (.int .i64 t2.snap) (.int .i64 t2.cs) (.slice ra2 t2.rs.length rc2) (.slice wa2 t2.ws.length wc2) (.bool t2.out) (.string t2.nm)
  have R29 : Hid (Bx ((((((((v8.setCell ⟨(w.heap.size + 1), 0, none⟩ (.int .i64 (t1.id + 1))).setCell ⟨(w.heap.size + 1), 1, none⟩ (.int .i64 t2.st)).setCell ⟨(w.heap.size + 1), 2, none⟩ (.int .i64 t2.snap)).setCell ⟨(w.heap.size + 1), 3, none⟩ (.int .i64 t2.cs)).setCell ⟨(w.heap.size + 1), 4, none⟩ (.slice ra2 t2.rs.length rc2)).setCell ⟨(w.heap.size + 1), 5, none⟩ (.slice wa2 t2.ws.length wc2)).setCell ⟨(w.heap.size + 1), 6, none⟩ (.bool t2.out)).setCell ⟨(w.heap.size + 1), 7, none⟩ (.string t2.nm)) (w.heap.size + 1) [.int .i64 (t1.id + 1), .int .i64 t2.st, .int .i64 t2.snap, .int .i64 t2.cs, .slice ra2 t2.rs.length rc2, .slice wa2 t2.ws.length wc2, .bool t2.out, .string t2.nm]) := R28.out.s8P (.int .i64 (t1.id + 1)) (.int .i64 t2.st) (.int .i64 t2.snap) (.int .i64 t2.cs) (.slice ra2 t2.rs.length rc2) (.slice wa2 t2.ws.length wc2) (.bool t2.out) (.string t2.nm)
  have HB9 : Hid (Below w.heap.size w ((((((((v8.setCell ⟨(w.heap.size + 1), 0, none⟩ (.int .i64 (t1.id + 1))).setCell ⟨(w.heap.size + 1), 1, none⟩ (.int .i64 t2.st)).setCell ⟨(w.heap.size + 1), 2, none⟩ (.int .i64 t2.snap)).setCell ⟨(w.heap.size + 1), 3, none⟩ (.int .i64 t2.cs)).setCell ⟨(w.heap.size + 1), 4, none⟩ (.slice ra2 t2.rs.length rc2)).setCell ⟨(w.heap.size + 1), 5, none⟩ (.slice wa2 t2.ws.length wc2)).setCell ⟨(w.heap.size + 1), 6, none⟩ (.bool t2.out)).setCell ⟨(w.heap.size + 1), 7, none⟩ (.string t2.nm))) := below_s8P HB8.out (ob := (w.heap.size + 1)) (by omega) (.int .i64 (t1.id + 1)) (.int .i64 t2.st) (.int .i64 t2.snap) (.int .i64 t2.cs) (.slice ra2 t2.rs.length rc2) (.slice wa2 t2.ws.length wc2) (.bool t2.out) (.string t2.nm)
  have OR19 : Hid (Lies encR 54 ((((((((v8.setCell ⟨(w.heap.size + 1), 0, none⟩ (.int .i64 (t1.id + 1))).setCell ⟨(w.heap.size + 1), 1, none⟩ (.int .i64 t2.st)).setCell ⟨(w.heap.size + 1), 2, none⟩ (.int .i64 t2.snap)).setCell ⟨(w.heap.size + 1), 3, none⟩ (.int .i64 t2.cs)).setCell ⟨(w.heap.size + 1), 4, none⟩ (.slice ra2 t2.rs.length rc2)).setCell ⟨(w.heap.size + 1), 5, none⟩ (.slice wa2 t2.ws.length wc2)).setCell ⟨(w.heap.size + 1), 6, none⟩ (.bool t2.out)).setCell ⟨(w.heap.size + 1), 7, none⟩ (.string t2.nm)) (v1.heap.size) (v2.heap.size) (.slice ra1 t1.rs.length rc1) (t1.rs)) := ⟨own_s8P OR18.out.own (ob := (w.heap.size + 1)) (by omega) (.int .i64 (t1.id + 1)) (.int .i64 t2.st) (.int .i64 t2.snap) (.int .i64 t2.cs) (.slice ra2 t2.rs.length rc2) (.slice wa2 t2.ws.length wc2) (.bool t2.out) (.string t2.nm), OR18.out.up⟩
  have OW19 : Hid (Lies encW 56 ((((((((v8.setCell ⟨(w.heap.size + 1), 0, none⟩ (.int .i64 (t1.id + 1))).setCell ⟨(w.heap.size + 1), 1, none⟩ (.int .i64 t2.st)).setCell ⟨(w.heap.size + 1), 2, none⟩ (.int .i64 t2.snap)).setCell ⟨(w.heap.size + 1), 3, none⟩ (.int .i64 t2.cs)).setCell ⟨(w.heap.size + 1), 4, none⟩ (.slice ra2 t2.rs.length rc2)).setCell ⟨(w.heap.size + 1), 5, none⟩ (.slice wa2 t2.ws.length wc2)).setCell ⟨(w.heap.size + 1), 6, none⟩ (.bool t2.out)).setCell ⟨(w.heap.size + 1), 7, none⟩ (.string t2.nm)) (v1.heap.size) (v2.heap.size) (.slice wa1 t1.ws.length wc1) (t1.ws)) := ⟨own_s8P OW18.out.own (ob := (w.heap.size + 1)) (by omega) (.int .i64 (t1.id + 1)) (.int .i64 t2.st) (.int .i64 t2.snap) (.int .i64 t2.cs) (.slice ra2 t2.rs.length rc2) (.slice wa2 t2.ws.length wc2) (.bool t2.out) (.string t2.nm), OW18.out.up⟩
  have B19 : Hid (Bx ((((((((v8.setCell ⟨(w.heap.size + 1), 0, none⟩ (.int .i64 (t1.id + 1))).setCell ⟨(w.heap.size + 1), 1, none⟩ (.int .i64 t2.st)).setCell ⟨(w.heap.size + 1), 2, none⟩ (.int .i64 t2.snap)).setCell ⟨(w.heap.size + 1), 3, none⟩ (.int .i64 t2.cs)).setCell ⟨(w.heap.size + 1), 4, none⟩ (.slice ra2 t2.rs.length rc2)).setCell ⟨(w.heap.size + 1), 5, none⟩ (.slice wa2 t2.ws.length wc2)).setCell ⟨(w.heap.size + 1), 6, none⟩ (.bool t2.out)).setCell ⟨(w.heap.size + 1), 7, none⟩ (.string t2.nm)) (v2.heap.size) [.int .i64 t1.id, .int .i64 t1.st, .int .i64 t1.snap, .int .i64 t1.cs, .slice ra1 t1.rs.length rc1, .slice wa1 t1.ws.length wc1, .bool t1.out, .string t1.nm]) := B18.out.o8P (ob := (w.heap.size + 1)) (by omega) (.int .i64 (t1.id + 1)) (.int .i64 t2.st) (.int .i64 t2.snap) (.int .i64 t2.cs) (.slice ra2 t2.rs.length rc2) (.slice wa2 t2.ws.length wc2) (.bool t2.out) (.string t2.nm)
  have OR29 : Hid (Lies encR 54 ((((((((v8.setCell ⟨(w.heap.size + 1), 0, none⟩ (.int .i64 (t1.id + 1))).setCell ⟨(w.heap.size + 1), 1, none⟩ (.int .i64 t2.st)).setCell ⟨(w.heap.size + 1), 2, none⟩ (.int .i64 t2.snap)).setCell ⟨(w.heap.size + 1), 3, none⟩ (.int .i64 t2.cs)).setCell ⟨(w.heap.size + 1), 4, none⟩ (.slice ra2 t2.rs.length rc2)).setCell ⟨(w.heap.size + 1), 5, none⟩ (.slice wa2 t2.ws.length wc2)).setCell ⟨(w.heap.size + 1), 6, none⟩ (.bool t2.out)).setCell ⟨(w.heap.size + 1), 7, none⟩ (.string t2.nm)) (v3.heap.size) (v4.heap.size) (.slice ra2 t2.rs.length rc2) (t2.rs)) := ⟨own_s8P OR28.out.own (ob := (w.heap.size + 1)) (by omega) (.int .i64 (t1.id + 1)) (.int .i64 t2.st) (.int .i64 t2.snap) (.int .i64 t2.cs) (.slice ra2 t2.rs.length rc2) (.slice wa2 t2.ws.length wc2) (.bool t2.out) (.string t2.nm), OR28.out.up⟩
  have OW29 : Hid (Lies encW 56 ((((((((v8.setCell ⟨(w.heap.size + 1), 0, none⟩ (.int .i64 (t1.id + 1))).setCell ⟨(w.heap.size + 1), 1, none⟩ (.int .i64 t2.st)).setCell ⟨(w.heap.size + 1), 2, none⟩ (.int .i64 t2.snap)).setCell ⟨(w.heap.size + 1), 3, none⟩ (.int .i64 t2.cs)).setCell ⟨(w.heap.size + 1), 4, none⟩ (.slice ra2 t2.rs.length rc2)).setCell ⟨(w.heap.size + 1), 5, none⟩ (.slice wa2 t2.ws.length wc2)).setCell ⟨(w.heap.size + 1), 6, none⟩ (.bool t2.out)).setCell ⟨(w.heap.size + 1), 7, none⟩ (.string t2.nm)) (v3.heap.size) (v4.heap.size) (.slice wa2 t2.ws.length wc2) (t2.ws)) := ⟨own_s8P OW28.out.own (ob := (w.heap.size + 1)) (by omega) (.int .i64 (t1.id + 1)) (.int .i64 t2.st) (.int .i64 t2.snap) (.int .i64 t2.cs) (.slice ra2 t2.rs.length rc2) (.slice wa2 t2.ws.length wc2) (.bool t2.out) (.string t2.nm), OW28.out.up⟩
  have B29 : Hid (Bx ((((((((v8.setCell ⟨(w.heap.size + 1), 0, none⟩ (.int .i64 (t1.id + 1))).setCell ⟨(w.heap.size + 1), 1, none⟩ (.int .i64 t2.st)).setCell ⟨(w.heap.size + 1), 2, none⟩ (.int .i64 t2.snap)).setCell ⟨(w.heap.size + 1), 3, none⟩ (.int .i64 t2.cs)).setCell ⟨(w.heap.size + 1), 4, none⟩ (.slice ra2 t2.rs.length rc2)).setCell ⟨(w.heap.size + 1), 5, none⟩ (.slice wa2 t2.ws.length wc2)).setCell ⟨(w.heap.size + 1), 6, none⟩ (.bool t2.out)).setCell ⟨(w.heap.size + 1), 7, none⟩ (.string t2.nm)) (v4.heap.size) [.int .i64 (t1.id + 1), .int .i64 t2.st, .int .i64 t2.snap, .int .i64 t2.cs, .slice ra2 t2.rs.length rc2, .slice wa2 t2.ws.length wc2, .bool t2.out, .string t2.nm]) := B28.out.o8P (ob := (w.heap.size + 1)) (by omega) (.int .i64 (t1.id + 1)) (.int .i64 t2.st) (.int .i64 t2.snap) (.int .i64 t2.cs) (.slice ra2 t2.rs.length rc2) (.slice wa2 t2.ws.length wc2) (.bool t2.out) (.string t2.nm)
  clear R18 R28 HB8 OR18 OW18 B18 OR28 OW28 B28
  generalize ((((((((v8.setCell ⟨(w.heap.size + 1), 0, none⟩ (.int .i64 (t1.id + 1))).setCell ⟨(w.heap.size + 1), 1, none⟩ (.int .i64 t2.st)).setCell ⟨(w.heap.size + 1), 2, none⟩ (.int .i64 t2.snap)).setCell ⟨(w.heap.size + 1), 3, none⟩ (.int .i64 t2.cs)).setCell ⟨(w.heap.size + 1), 4, none⟩ (.slice ra2 t2.rs.length rc2)).setCell ⟨(w.heap.size + 1), 5, none⟩ (.slice wa2 t2.ws.length wc2)).setCell ⟨(w.heap.size + 1), 6, none⟩ (.bool t2.out)).setCell ⟨(w.heap.size + 1), 7, none⟩ (.string t2.nm)) = v9 at *
  (try go_wp2_with fail)
  refine hK.out _ _ ⟨B19.out.c0, B19.out.c1, B19.out.c2, B19.out.c3, B19.out.c4, B19.out.c5, B19.out.c6, B19.out.c7, B29.out.c0, B29.out.c1, B29.out.c2, B29.out.c3, B29.out.c4, B29.out.c5, B29.out.c6, B29.out.c7⟩ (fun hHeld => ?_)
  clear hK K
  refine wpAnyH_done (by kernel_rfl) ?_ _
  go_wp2
  have q0_ := R19.out.c0
  have fq0 := R19.out.fz 0
  have q1_ := R19.out.c1
  have fq1 := R19.out.fz 1
  have q2_ := R19.out.c2
  have fq2 := R19.out.fz 2
  have q3_ := R19.out.c3
  have fq3 := R19.out.fz 3
  have q4_ := R19.out.c4
  have fq4 := R19.out.fz 4
  have q5_ := R19.out.c5
  have fq5 := R19.out.fz 5
  have q6_ := R19.out.c6
  have fq6 := R19.out.fz 6
  have q7_ := R19.out.c7
  have fq7 := R19.out.fz 7
  have p0_ := R29.out.c0
  have fp0 := R29.out.fz 0
  have p1_ := R29.out.c1
  have fp1 := R29.out.fz 1
  have p2_ := R29.out.c2
  have fp2 := R29.out.fz 2
  have p3_ := R29.out.c3
  have fp3 := R29.out.fz 3
  have p4_ := R29.out.c4
  have fp4 := R29.out.fz 4
  have p5_ := R29.out.c5
  have fp5 := R29.out.fz 5
  have p6_ := R29.out.c6
  have fp6 := R29.out.fz 6
  have p7_ := R29.out.c7
  have fp7 := R29.out.fz 7
  refine bodyPost_ret (v := .tuple #[.agg #[.int .i64 t1.id, .int .i64 t1.st, .int .i64 t1.snap, .int .i64 t1.cs, .slice ra1 t1.rs.length rc1, .slice wa1 t1.ws.length wc1, .bool t1.out, .string t1.nm], .agg #[.int .i64 (t1.id + 1), .int .i64 t2.st, .int .i64 t2.snap, .int .i64 t2.cs, .slice ra2 t2.rs.length rc2, .slice wa2 t2.ws.length wc2, .bool t2.out, .string t2.nm]]) (by simp [results, Try.results12, go_sem, q0_, q1_, q2_, q3_, q4_, q5_, q6_, q7_, p0_, p1_, p2_, p3_, p4_, p5_, p6_, p7_]) rfl ⟨⟨t1, ra1, rc1, wa1, wc1⟩, ⟨⟨t1.id + 1, t2.st, t2.snap, t2.cs, t2.rs, t2.ws, t2.out, t2.nm⟩, ra2, rc2, wa2, wc2⟩, HT1.out.any, ⟨HT2.out.any.fit, HT2.out.any.rl, HT2.out.any.wl⟩, rfl, rfl, ⟨OR19.out.own.mono (by omega), OW19.out.own.mono (by omega)⟩, ⟨OR29.out.own.mono (by omega), OW29.out.own.mono (by omega)⟩, HB9.out⟩

set_option maxRecDepth 100000 in
set_option maxHeartbeats 4000000 in
theorem dPair (len cap : Nat) (a : Option Addr) (hl : len ≤ 1048576) (w : World) (hr : CodeRow w a len) :
    Calls Try.prog 40 #[.slice a len cap] w fun e w' => ∃ x y : Ta, TxA x.t ∧ TxA y.t ∧  e = .returned (.tuple #[.agg #[.int .i64 x.t.id, .int .i64 x.t.st, .int .i64 x.t.snap, .int .i64 x.t.cs, .slice x.ra x.t.rs.length x.rc, .slice x.wa x.t.ws.length x.wc, .bool x.t.out, .string x.t.nm], .agg #[.int .i64 y.t.id, .int .i64 y.t.st, .int .i64 y.t.snap, .int .i64 y.t.cs, .slice y.ra y.t.rs.length y.rc, .slice y.wa y.t.ws.length y.wc, .bool y.t.out, .string y.t.nm]]) ∧ TOwn w' w.heap.size x ∧ TOwn w' w.heap.size y ∧ Below w.heap.size w w' := by
  have R10 : Hid (Bx ((w.alloc (.cells #[.int .i64 0, .int .i64 0, .int .i64 0, .int .i64 0, .slice none 0 0, .slice none 0 0, .bool false, .string ⟨#[]⟩] 27)).alloc (.cells #[.int .i64 0, .int .i64 0, .int .i64 0, .int .i64 0, .slice none 0 0, .slice none 0 0, .bool false, .string ⟨#[]⟩] 27)) (w.heap.size) [.int .i64 0, .int .i64 0, .int .i64 0, .int .i64 0, .slice none 0 0, .slice none 0 0, .bool false, .string ⟨#[]⟩]) := (Bx.new w [.int .i64 0, .int .i64 0, .int .i64 0, .int .i64 0, .slice none 0 0, .slice none 0 0, .bool false, .string ⟨#[]⟩] 27).alloc _
  have R20 : Hid (Bx ((w.alloc (.cells #[.int .i64 0, .int .i64 0, .int .i64 0, .int .i64 0, .slice none 0 0, .slice none 0 0, .bool false, .string ⟨#[]⟩] 27)).alloc (.cells #[.int .i64 0, .int .i64 0, .int .i64 0, .int .i64 0, .slice none 0 0, .slice none 0 0, .bool false, .string ⟨#[]⟩] 27)) (w.heap.size + 1) [.int .i64 0, .int .i64 0, .int .i64 0, .int .i64 0, .slice none 0 0, .slice none 0 0, .bool false, .string ⟨#[]⟩]) := by have h := Bx.new (w.alloc (.cells #[.int .i64 0, .int .i64 0, .int .i64 0, .int .i64 0, .slice none 0 0, .slice none 0 0, .bool false, .string ⟨#[]⟩] 27)) [.int .i64 0, .int .i64 0, .int .i64 0, .int .i64 0, .slice none 0 0, .slice none 0 0, .bool false, .string ⟨#[]⟩] 27; simpa [Hid] using h
  have HB0 : Hid (Below w.heap.size w ((w.alloc (.cells #[.int .i64 0, .int .i64 0, .int .i64 0, .int .i64 0, .slice none 0 0, .slice none 0 0, .bool false, .string ⟨#[]⟩] 27)).alloc (.cells #[.int .i64 0, .int .i64 0, .int .i64 0, .int .i64 0, .slice none 0 0, .slice none 0 0, .bool false, .string ⟨#[]⟩] 27))) := ((belowRefl w).alloc (Nat.le_refl _) _).alloc (by simp) _
  have HR : Hid (CodeRow ((w.alloc (.cells #[.int .i64 0, .int .i64 0, .int .i64 0, .int .i64 0, .slice none 0 0, .slice none 0 0, .bool false, .string ⟨#[]⟩] 27)).alloc (.cells #[.int .i64 0, .int .i64 0, .int .i64 0, .int .i64 0, .slice none 0 0, .slice none 0 0, .bool false, .string ⟨#[]⟩] 27)) a len) := hr.below HB0.out
  have hz0 : w.heap.size + 1 < ((w.alloc (.cells #[.int .i64 0, .int .i64 0, .int .i64 0, .int .i64 0, .slice none 0 0, .slice none 0 0, .bool false, .string ⟨#[]⟩] 27)).alloc (.cells #[.int .i64 0, .int .i64 0, .int .i64 0, .int .i64 0, .slice none 0 0, .slice none 0 0, .bool false, .string ⟨#[]⟩] 27)).heap.size := by simp
  clear hr
  go_enter Try.func40, Try.ntmps40
  go_wp2_with fail
  generalize ((w.alloc (.cells #[.int .i64 0, .int .i64 0, .int .i64 0, .int .i64 0, .slice none 0 0, .slice none 0 0, .bool false, .string ⟨#[]⟩] 27)).alloc (.cells #[.int .i64 0, .int .i64 0, .int .i64 0, .int .i64 0, .slice none 0 0, .slice none 0 0, .bool false, .string ⟨#[]⟩] 27)) = v0 at *
  refine (drNew len cap a hl _ HR.out).mono ?_
  rintro e v1 ⟨rfl, hc, hb⟩
  have hz1 : v0.heap.size ≤ v1.heap.size := hb.size
  have hlc := hc.lt
  have R11 : Hid (Bx v1 (w.heap.size) [.int .i64 0, .int .i64 0, .int .i64 0, .int .i64 0, .slice none 0 0, .slice none 0 0, .bool false, .string ⟨#[]⟩]) := R10.out.below hb
  have R21 : Hid (Bx v1 (w.heap.size + 1) [.int .i64 0, .int .i64 0, .int .i64 0, .int .i64 0, .slice none 0 0, .slice none 0 0, .bool false, .string ⟨#[]⟩]) := R20.out.below hb
  have HB1 : Hid (Below w.heap.size w v1) := HB0.out.trans (hb.mono HB0.out.size)
  clear R10 R20 HB0
  have D1 : Hid (Dn v1 v1 (v0.heap.size) a len cap) := Dn.start hc
  clear hb hc HR
  go_wp2_with fail
  refine (drAnyT v0.heap.size len cap a _ D1.out.c).mono ?_
  rintro e v2 ⟨t1, ra1, rc1, wa1, wc1, ht, rfl, ho1, ho2, d⟩
  have HT1 := hide ht
  have hsv2 := d.size
  have R12 : Hid (Bx v2 (w.heap.size) [.int .i64 0, .int .i64 0, .int .i64 0, .int .i64 0, .slice none 0 0, .slice none 0 0, .bool false, .string ⟨#[]⟩]) := R11.out.keptD d (by omega)
  have R22 : Hid (Bx v2 (w.heap.size + 1) [.int .i64 0, .int .i64 0, .int .i64 0, .int .i64 0, .slice none 0 0, .slice none 0 0, .bool false, .string ⟨#[]⟩]) := R21.out.keptD d (by omega)
  have HB2 : Hid (Below w.heap.size w v2) := d.out HB1.out (by omega) (by omega)
  have D2 : Hid (Dn v1 v2 (v0.heap.size) a len cap) := D1.out.step d
  clear R11 R21 HB1 D1
  clear d ht
  have OR12 : Hid (Lies encR 54 v2 (v1.heap.size) (v2.heap.size) (.slice ra1 t1.rs.length rc1) (t1.rs)) := Lies.of ho1
  have OW12 : Hid (Lies encW 56 v2 (v1.heap.size) (v2.heap.size) (.slice wa1 t1.ws.length wc1) (t1.ws)) := Lies.of ho2
  clear ho1 ho2
  go_upto_region 3 with fail
  have hb : Below v2.heap.size v2 (v2.alloc (.cells #[.int .i64 t1.id, .int .i64 t1.st, .int .i64 t1.snap, .int .i64 t1.cs, .slice ra1 t1.rs.length rc1, .slice wa1 t1.ws.length wc1, .bool t1.out, .string t1.nm] 27)) := (belowRefl v2).alloc (Nat.le_refl _) _
  have R13 : Hid (Bx (v2.alloc (.cells #[.int .i64 t1.id, .int .i64 t1.st, .int .i64 t1.snap, .int .i64 t1.cs, .slice ra1 t1.rs.length rc1, .slice wa1 t1.ws.length wc1, .bool t1.out, .string t1.nm] 27)) (w.heap.size) [.int .i64 0, .int .i64 0, .int .i64 0, .int .i64 0, .slice none 0 0, .slice none 0 0, .bool false, .string ⟨#[]⟩]) := R12.out.below hb
  have R23 : Hid (Bx (v2.alloc (.cells #[.int .i64 t1.id, .int .i64 t1.st, .int .i64 t1.snap, .int .i64 t1.cs, .slice ra1 t1.rs.length rc1, .slice wa1 t1.ws.length wc1, .bool t1.out, .string t1.nm] 27)) (w.heap.size + 1) [.int .i64 0, .int .i64 0, .int .i64 0, .int .i64 0, .slice none 0 0, .slice none 0 0, .bool false, .string ⟨#[]⟩]) := R22.out.below hb
  have HB3 : Hid (Below w.heap.size w (v2.alloc (.cells #[.int .i64 t1.id, .int .i64 t1.st, .int .i64 t1.snap, .int .i64 t1.cs, .slice ra1 t1.rs.length rc1, .slice wa1 t1.ws.length wc1, .bool t1.out, .string t1.nm] 27))) := HB2.out.trans (hb.mono HB2.out.size)
  have D3 : Hid (Dn v1 (v2.alloc (.cells #[.int .i64 t1.id, .int .i64 t1.st, .int .i64 t1.snap, .int .i64 t1.cs, .slice ra1 t1.rs.length rc1, .slice wa1 t1.ws.length wc1, .bool t1.out, .string t1.nm] 27)) (v0.heap.size) a len cap) := D2.out.below hb
  have OR13 : Hid (Lies encR 54 (v2.alloc (.cells #[.int .i64 t1.id, .int .i64 t1.st, .int .i64 t1.snap, .int .i64 t1.cs, .slice ra1 t1.rs.length rc1, .slice wa1 t1.ws.length wc1, .bool t1.out, .string t1.nm] 27)) (v1.heap.size) (v2.heap.size) (.slice ra1 t1.rs.length rc1) (t1.rs)) := OR12.out.below hb
  have OW13 : Hid (Lies encW 56 (v2.alloc (.cells #[.int .i64 t1.id, .int .i64 t1.st, .int .i64 t1.snap, .int .i64 t1.cs, .slice ra1 t1.rs.length rc1, .slice wa1 t1.ws.length wc1, .bool t1.out, .string t1.nm] 27)) (v1.heap.size) (v2.heap.size) (.slice wa1 t1.ws.length wc1) (t1.ws)) := OW12.out.below hb
  clear R12 R22 HB2 D2 OR12 OW12
  have B13 : Hid (Bx (v2.alloc (.cells #[.int .i64 t1.id, .int .i64 t1.st, .int .i64 t1.snap, .int .i64 t1.cs, .slice ra1 t1.rs.length rc1, .slice wa1 t1.ws.length wc1, .bool t1.out, .string t1.nm] 27)) (v2.heap.size) [.int .i64 t1.id, .int .i64 t1.st, .int .i64 t1.snap, .int .i64 t1.cs, .slice ra1 t1.rs.length rc1, .slice wa1 t1.ws.length wc1, .bool t1.out, .string t1.nm]) := Bx.new v2 [.int .i64 t1.id, .int .i64 t1.st, .int .i64 t1.snap, .int .i64 t1.cs, .slice ra1 t1.rs.length rc1, .slice wa1 t1.ws.length wc1, .bool t1.out, .string t1.nm] 27
  clear hb
  generalize (v2.alloc (.cells #[.int .i64 t1.id, .int .i64 t1.st, .int .i64 t1.snap, .int .i64 t1.cs, .slice ra1 t1.rs.length rc1, .slice wa1 t1.ws.length wc1, .bool t1.out, .string t1.nm] 27)) = v3 at *
  have hlv3 : v2.heap.size < v3.heap.size := B13.out.lt
  refine wp_region_held_drew (S := fun w' => w'.cell? ⟨v2.heap.size, 0, none⟩ = some (.int .i64 t1.id) ∧ w'.cell? ⟨v2.heap.size, 1, none⟩ = some (.int .i64 t1.st) ∧ w'.cell? ⟨v2.heap.size, 2, none⟩ = some (.int .i64 t1.snap) ∧ w'.cell? ⟨v2.heap.size, 3, none⟩ = some (.int .i64 t1.cs) ∧ w'.cell? ⟨v2.heap.size, 4, none⟩ = some (.slice ra1 t1.rs.length rc1) ∧ w'.cell? ⟨v2.heap.size, 5, none⟩ = some (.slice wa1 t1.ws.length wc1) ∧ w'.cell? ⟨v2.heap.size, 6, none⟩ = some (.bool t1.out) ∧ w'.cell? ⟨v2.heap.size, 7, none⟩ = some (.string t1.nm)) (by kernel_rfl) ⟨B13.out.c0, B13.out.c1, B13.out.c2, B13.out.c3, B13.out.c4, B13.out.c5, B13.out.c6, B13.out.c7⟩ (fun hHeld => ?_)
  (refine wpAnyH_take (i := 0) (v := ?_) rfl (by kernel_rfl) (by kernel_rfl) (by kernel_rfl) (fun _ _ _ h => h) (Or.inl ⟨by rfl, ?_⟩) (by assumption) ?_; rotate_left; (focus (intro w hSw; (try dsimp only at hSw); go_simp; (try with_reducible rfl); done)); simp only [Act.put, List.getElem_toArray, List.getElem_cons_zero, List.setIfInBounds_toArray, List.set_cons_zero, List.set_cons_succ])
  (refine wpAnyH_take (i := 1) (v := ?_) rfl (by kernel_rfl) (by kernel_rfl) (by kernel_rfl) (fun _ _ _ h => h) (Or.inl ⟨by rfl, ?_⟩) (by assumption) ?_; rotate_left; (focus (intro w hSw; (try dsimp only at hSw); go_simp; (try with_reducible rfl); done)); simp only [Act.put, List.getElem_toArray, List.getElem_cons_zero, List.getElem_cons_succ, List.setIfInBounds_toArray, List.set_cons_zero, List.set_cons_succ])
  refine wpAnyH_ready (rs := [2]) (by kernel_rfl) (by simp) ?_
  refine AllReadyH.cons rfl (fun K hK => ?_) AllReadyH.nil
  go_simp
  go_wp2_with fail
  have R14 : Hid (Bx v3.drew (w.heap.size) [.int .i64 0, .int .i64 0, .int .i64 0, .int .i64 0, .slice none 0 0, .slice none 0 0, .bool false, .string ⟨#[]⟩]) := R13.out.below (belowRefl v3).drew
  have R24 : Hid (Bx v3.drew (w.heap.size + 1) [.int .i64 0, .int .i64 0, .int .i64 0, .int .i64 0, .slice none 0 0, .slice none 0 0, .bool false, .string ⟨#[]⟩]) := R23.out.below (belowRefl v3).drew
  have HB4 : Hid (Below w.heap.size w v3.drew) := HB3.out.trans ((belowRefl v3).drew.mono HB3.out.size)
  have D4 : Hid (Dn v1 v3.drew (v0.heap.size) a len cap) := D3.out.below (belowRefl v3).drew
  have OR14 : Hid (Lies encR 54 v3.drew (v1.heap.size) (v2.heap.size) (.slice ra1 t1.rs.length rc1) (t1.rs)) := OR13.out.below (belowRefl v3).drew
  have OW14 : Hid (Lies encW 56 v3.drew (v1.heap.size) (v2.heap.size) (.slice wa1 t1.ws.length wc1) (t1.ws)) := OW13.out.below (belowRefl v3).drew
  have B14 : Hid (Bx v3.drew (v2.heap.size) [.int .i64 t1.id, .int .i64 t1.st, .int .i64 t1.snap, .int .i64 t1.cs, .slice ra1 t1.rs.length rc1, .slice wa1 t1.ws.length wc1, .bool t1.out, .string t1.nm]) := B13.out.below (belowRefl v3).drew
  clear R13 R23 HB3 D3 OR13 OW13 B13
  have hd6 : v3.heap.size ≤ v3.drew.heap.size := Nat.le_refl _
  clear hHeld
  generalize v3.drew = v4 at *
  refine (drAnyT v0.heap.size len cap a _ D4.out.c).mono ?_
  rintro e v5 ⟨t2, ra2, rc2, wa2, wc2, ht, rfl, ho1, ho2, d⟩
  have HT2 := hide ht
  have hsv5 := d.size
  have R15 : Hid (Bx v5 (w.heap.size) [.int .i64 0, .int .i64 0, .int .i64 0, .int .i64 0, .slice none 0 0, .slice none 0 0, .bool false, .string ⟨#[]⟩]) := R14.out.keptD d (by omega)
  have R25 : Hid (Bx v5 (w.heap.size + 1) [.int .i64 0, .int .i64 0, .int .i64 0, .int .i64 0, .slice none 0 0, .slice none 0 0, .bool false, .string ⟨#[]⟩]) := R24.out.keptD d (by omega)
  have HB5 : Hid (Below w.heap.size w v5) := d.out HB4.out (by omega) (by omega)
  have D5 : Hid (Dn v1 v5 (v0.heap.size) a len cap) := D4.out.step d
  have OR15 : Hid (Lies encR 54 v5 (v1.heap.size) (v2.heap.size) (.slice ra1 t1.rs.length rc1) (t1.rs)) := ⟨OR14.out.own.keptD d (by omega), OR14.out.up⟩
  have OW15 : Hid (Lies encW 56 v5 (v1.heap.size) (v2.heap.size) (.slice wa1 t1.ws.length wc1) (t1.ws)) := ⟨OW14.out.own.keptD d (by omega), OW14.out.up⟩
  have B15 : Hid (Bx v5 (v2.heap.size) [.int .i64 t1.id, .int .i64 t1.st, .int .i64 t1.snap, .int .i64 t1.cs, .slice ra1 t1.rs.length rc1, .slice wa1 t1.ws.length wc1, .bool t1.out, .string t1.nm]) := B14.out.keptD d (by omega)
  clear R14 R24 HB4 D4 OR14 OW14 B14
  clear d ht
  have OR25 : Hid (Lies encR 54 v5 (v4.heap.size) (v5.heap.size) (.slice ra2 t2.rs.length rc2) (t2.rs)) := Lies.of ho1
  have OW25 : Hid (Lies encW 56 v5 (v4.heap.size) (v5.heap.size) (.slice wa2 t2.ws.length wc2) (t2.ws)) := Lies.of ho2
  clear ho1 ho2
  go_wp2_with fail
  refine hK.out _ _ ⟨B15.out.c0, B15.out.c1, B15.out.c2, B15.out.c3, B15.out.c4, B15.out.c5, B15.out.c6, B15.out.c7⟩ (fun hHeld => ?_)
  clear hK K
  clear D5
  have q0_ := R15.out.c0
  have fq0 := R15.out.fz 0
  have q1_ := R15.out.c1
  have fq1 := R15.out.fz 1
  have q2_ := R15.out.c2
  have fq2 := R15.out.fz 2
  have q3_ := R15.out.c3
  have fq3 := R15.out.fz 3
  have q4_ := R15.out.c4
  have fq4 := R15.out.fz 4
  have q5_ := R15.out.c5
  have fq5 := R15.out.fz 5
  have q6_ := R15.out.c6
  have fq6 := R15.out.fz 6
  have q7_ := R15.out.c7
  have fq7 := R15.out.fz 7
  refine wpAnyH_ready (rs := [3]) (by kernel_rfl) (by simp) ?_
  refine AllReadyH.cons rfl (fun K hK => ?_) AllReadyH.nil
  go_simp
  clear q0_ fq0 q1_ fq1 q2_ fq2 q3_ fq3 q4_ fq4 q5_ fq5 q6_ fq6 q7_ fq7
  have R16 : Hid (Bx ((((((((v5.setCell ⟨w.heap.size, 0, none⟩ (.int .i64 t1.id)).setCell ⟨w.heap.size, 1, none⟩ (.int .i64 t1.st)).setCell ⟨w.heap.size, 2, none⟩ (.int .i64 t1.snap)).setCell ⟨w.heap.size, 3, none⟩ (.int .i64 t1.cs)).setCell ⟨w.heap.size, 4, none⟩ (.slice ra1 t1.rs.length rc1)).setCell ⟨w.heap.size, 5, none⟩ (.slice wa1 t1.ws.length wc1)).setCell ⟨w.heap.size, 6, none⟩ (.bool t1.out)).setCell ⟨w.heap.size, 7, none⟩ (.string t1.nm)) (w.heap.size) [.int .i64 t1.id, .int .i64 t1.st, .int .i64 t1.snap, .int .i64 t1.cs, .slice ra1 t1.rs.length rc1, .slice wa1 t1.ws.length wc1, .bool t1.out, .string t1.nm]) := R15.out.s8P (.int .i64 t1.id) (.int .i64 t1.st) (.int .i64 t1.snap) (.int .i64 t1.cs) (.slice ra1 t1.rs.length rc1) (.slice wa1 t1.ws.length wc1) (.bool t1.out) (.string t1.nm)
  have R26 : Hid (Bx ((((((((v5.setCell ⟨w.heap.size, 0, none⟩ (.int .i64 t1.id)).setCell ⟨w.heap.size, 1, none⟩ (.int .i64 t1.st)).setCell ⟨w.heap.size, 2, none⟩ (.int .i64 t1.snap)).setCell ⟨w.heap.size, 3, none⟩ (.int .i64 t1.cs)).setCell ⟨w.heap.size, 4, none⟩ (.slice ra1 t1.rs.length rc1)).setCell ⟨w.heap.size, 5, none⟩ (.slice wa1 t1.ws.length wc1)).setCell ⟨w.heap.size, 6, none⟩ (.bool t1.out)).setCell ⟨w.heap.size, 7, none⟩ (.string t1.nm)) (w.heap.size + 1) [.int .i64 0, .int .i64 0, .int .i64 0, .int .i64 0, .slice none 0 0, .slice none 0 0, .bool false, .string ⟨#[]⟩]) := R25.out.o8P (ob := w.heap.size) (by omega) (.int .i64 t1.id) (.int .i64 t1.st) (.int .i64 t1.snap) (.int .i64 t1.cs) (.slice ra1 t1.rs.length rc1) (.slice wa1 t1.ws.length wc1) (.bool t1.out) (.string t1.nm)
  have HB6 : Hid (Below w.heap.size w ((((((((v5.setCell ⟨w.heap.size, 0, none⟩ (.int .i64 t1.id)).setCell ⟨w.heap.size, 1, none⟩ (.int .i64 t1.st)).setCell ⟨w.heap.size, 2, none⟩ (.int .i64 t1.snap)).setCell ⟨w.heap.size, 3, none⟩ (.int .i64 t1.cs)).setCell ⟨w.heap.size, 4, none⟩ (.slice ra1 t1.rs.length rc1)).setCell ⟨w.heap.size, 5, none⟩ (.slice wa1 t1.ws.length wc1)).setCell ⟨w.heap.size, 6, none⟩ (.bool t1.out)).setCell ⟨w.heap.size, 7, none⟩ (.string t1.nm))) := below_s8P HB5.out (ob := w.heap.size) (by omega) (.int .i64 t1.id) (.int .i64 t1.st) (.int .i64 t1.snap) (.int .i64 t1.cs) (.slice ra1 t1.rs.length rc1) (.slice wa1 t1.ws.length wc1) (.bool t1.out) (.string t1.nm)
  have OR16 : Hid (Lies encR 54 ((((((((v5.setCell ⟨w.heap.size, 0, none⟩ (.int .i64 t1.id)).setCell ⟨w.heap.size, 1, none⟩ (.int .i64 t1.st)).setCell ⟨w.heap.size, 2, none⟩ (.int .i64 t1.snap)).setCell ⟨w.heap.size, 3, none⟩ (.int .i64 t1.cs)).setCell ⟨w.heap.size, 4, none⟩ (.slice ra1 t1.rs.length rc1)).setCell ⟨w.heap.size, 5, none⟩ (.slice wa1 t1.ws.length wc1)).setCell ⟨w.heap.size, 6, none⟩ (.bool t1.out)).setCell ⟨w.heap.size, 7, none⟩ (.string t1.nm)) (v1.heap.size) (v2.heap.size) (.slice ra1 t1.rs.length rc1) (t1.rs)) := ⟨own_s8P OR15.out.own (ob := w.heap.size) (by omega) (.int .i64 t1.id) (.int .i64 t1.st) (.int .i64 t1.snap) (.int .i64 t1.cs) (.slice ra1 t1.rs.length rc1) (.slice wa1 t1.ws.length wc1) (.bool t1.out) (.string t1.nm), OR15.out.up⟩
  have OW16 : Hid (Lies encW 56 ((((((((v5.setCell ⟨w.heap.size, 0, none⟩ (.int .i64 t1.id)).setCell ⟨w.heap.size, 1, none⟩ (.int .i64 t1.st)).setCell ⟨w.heap.size, 2, none⟩ (.int .i64 t1.snap)).setCell ⟨w.heap.size, 3, none⟩ (.int .i64 t1.cs)).setCell ⟨w.heap.size, 4, none⟩ (.slice ra1 t1.rs.length rc1)).setCell ⟨w.heap.size, 5, none⟩ (.slice wa1 t1.ws.length wc1)).setCell ⟨w.heap.size, 6, none⟩ (.bool t1.out)).setCell ⟨w.heap.size, 7, none⟩ (.string t1.nm)) (v1.heap.size) (v2.heap.size) (.slice wa1 t1.ws.length wc1) (t1.ws)) := ⟨own_s8P OW15.out.own (ob := w.heap.size) (by omega) (.int .i64 t1.id) (.int .i64 t1.st) (.int .i64 t1.snap) (.int .i64 t1.cs) (.slice ra1 t1.rs.length rc1) (.slice wa1 t1.ws.length wc1) (.bool t1.out) (.string t1.nm), OW15.out.up⟩
  have B16 : Hid (Bx ((((((((v5.setCell ⟨w.heap.size, 0, none⟩ (.int .i64 t1.id)).setCell ⟨w.heap.size, 1, none⟩ (.int .i64 t1.st)).setCell ⟨w.heap.size, 2, none⟩ (.int .i64 t1.snap)).setCell ⟨w.heap.size, 3, none⟩ (.int .i64 t1.cs)).setCell ⟨w.heap.size, 4, none⟩ (.slice ra1 t1.rs.length rc1)).setCell ⟨w.heap.size, 5, none⟩ (.slice wa1 t1.ws.length wc1)).setCell ⟨w.heap.size, 6, none⟩ (.bool t1.out)).setCell ⟨w.heap.size, 7, none⟩ (.string t1.nm)) (v2.heap.size) [.int .i64 t1.id, .int .i64 t1.st, .int .i64 t1.snap, .int .i64 t1.cs, .slice ra1 t1.rs.length rc1, .slice wa1 t1.ws.length wc1, .bool t1.out, .string t1.nm]) := B15.out.o8P (ob := w.heap.size) (by omega) (.int .i64 t1.id) (.int .i64 t1.st) (.int .i64 t1.snap) (.int .i64 t1.cs) (.slice ra1 t1.rs.length rc1) (.slice wa1 t1.ws.length wc1) (.bool t1.out) (.string t1.nm)
  have OR26 : Hid (Lies encR 54 ((((((((v5.setCell ⟨w.heap.size, 0, none⟩ (.int .i64 t1.id)).setCell ⟨w.heap.size, 1, none⟩ (.int .i64 t1.st)).setCell ⟨w.heap.size, 2, none⟩ (.int .i64 t1.snap)).setCell ⟨w.heap.size, 3, none⟩ (.int .i64 t1.cs)).setCell ⟨w.heap.size, 4, none⟩ (.slice ra1 t1.rs.length rc1)).setCell ⟨w.heap.size, 5, none⟩ (.slice wa1 t1.ws.length wc1)).setCell ⟨w.heap.size, 6, none⟩ (.bool t1.out)).setCell ⟨w.heap.size, 7, none⟩ (.string t1.nm)) (v4.heap.size) (v5.heap.size) (.slice ra2 t2.rs.length rc2) (t2.rs)) := ⟨own_s8P OR25.out.own (ob := w.heap.size) (by omega) (.int .i64 t1.id) (.int .i64 t1.st) (.int .i64 t1.snap) (.int .i64 t1.cs) (.slice ra1 t1.rs.length rc1) (.slice wa1 t1.ws.length wc1) (.bool t1.out) (.string t1.nm), OR25.out.up⟩
  have OW26 : Hid (Lies encW 56 ((((((((v5.setCell ⟨w.heap.size, 0, none⟩ (.int .i64 t1.id)).setCell ⟨w.heap.size, 1, none⟩ (.int .i64 t1.st)).setCell ⟨w.heap.size, 2, none⟩ (.int .i64 t1.snap)).setCell ⟨w.heap.size, 3, none⟩ (.int .i64 t1.cs)).setCell ⟨w.heap.size, 4, none⟩ (.slice ra1 t1.rs.length rc1)).setCell ⟨w.heap.size, 5, none⟩ (.slice wa1 t1.ws.length wc1)).setCell ⟨w.heap.size, 6, none⟩ (.bool t1.out)).setCell ⟨w.heap.size, 7, none⟩ (.string t1.nm)) (v4.heap.size) (v5.heap.size) (.slice wa2 t2.ws.length wc2) (t2.ws)) := ⟨own_s8P OW25.out.own (ob := w.heap.size) (by omega) (.int .i64 t1.id) (.int .i64 t1.st) (.int .i64 t1.snap) (.int .i64 t1.cs) (.slice ra1 t1.rs.length rc1) (.slice wa1 t1.ws.length wc1) (.bool t1.out) (.string t1.nm), OW25.out.up⟩
  clear R15 R25 HB5 OR15 OW15 B15 OR25 OW25
  generalize ((((((((v5.setCell ⟨w.heap.size, 0, none⟩ (.int .i64 t1.id)).setCell ⟨w.heap.size, 1, none⟩ (.int .i64 t1.st)).setCell ⟨w.heap.size, 2, none⟩ (.int .i64 t1.snap)).setCell ⟨w.heap.size, 3, none⟩ (.int .i64 t1.cs)).setCell ⟨w.heap.size, 4, none⟩ (.slice ra1 t1.rs.length rc1)).setCell ⟨w.heap.size, 5, none⟩ (.slice wa1 t1.ws.length wc1)).setCell ⟨w.heap.size, 6, none⟩ (.bool t1.out)).setCell ⟨w.heap.size, 7, none⟩ (.string t1.nm)) = v8 at *
  (try go_wp2_with fail)
  refine hK.out _ _ ⟨B16.out.c0, B16.out.c1, B16.out.c2, B16.out.c3, B16.out.c4, B16.out.c5, B16.out.c6, B16.out.c7⟩ (fun hHeld => ?_)
  clear hK K
  have p0_ := R26.out.c0
  have fp0 := R26.out.fz 0
  have p1_ := R26.out.c1
  have fp1 := R26.out.fz 1
  have p2_ := R26.out.c2
  have fp2 := R26.out.fz 2
  have p3_ := R26.out.c3
  have fp3 := R26.out.fz 3
  have p4_ := R26.out.c4
  have fp4 := R26.out.fz 4
  have p5_ := R26.out.c5
  have fp5 := R26.out.fz 5
  have p6_ := R26.out.c6
  have fp6 := R26.out.fz 6
  have p7_ := R26.out.c7
  have fp7 := R26.out.fz 7
  refine wpAnyH_ready (rs := [4]) (by kernel_rfl) (by simp) ?_
  refine AllReadyH.cons rfl (fun K hK => ?_) AllReadyH.nil
  go_simp
  clear p0_ fp0 p1_ fp1 p2_ fp2 p3_ fp3 p4_ fp4 p5_ fp5 p6_ fp6 p7_ fp7
  have R17 : Hid (Bx ((((((((v8.setCell ⟨(w.heap.size + 1), 0, none⟩ (.int .i64 t2.id)).setCell ⟨(w.heap.size + 1), 1, none⟩ (.int .i64 t2.st)).setCell ⟨(w.heap.size + 1), 2, none⟩ (.int .i64 t2.snap)).setCell ⟨(w.heap.size + 1), 3, none⟩ (.int .i64 t2.cs)).setCell ⟨(w.heap.size + 1), 4, none⟩ (.slice ra2 t2.rs.length rc2)).setCell ⟨(w.heap.size + 1), 5, none⟩ (.slice wa2 t2.ws.length wc2)).setCell ⟨(w.heap.size + 1), 6, none⟩ (.bool t2.out)).setCell ⟨(w.heap.size + 1), 7, none⟩ (.string t2.nm)) (w.heap.size) [.int .i64 t1.id, .int .i64 t1.st, .int .i64 t1.snap, .int .i64 t1.cs, .slice ra1 t1.rs.length rc1, .slice wa1 t1.ws.length wc1, .bool t1.out, .string t1.nm]) := R16.out.o8P (ob := (w.heap.size + 1)) (by omega) (.int .i64 t2.id) (.int .i64 t2.st) (.int .i64 t2.snap) (.int .i64 t2.cs) (.slice ra2 t2.rs.length rc2) (.slice wa2 t2.ws.length wc2) (.bool t2.out) (.string t2.nm)
  have R27 : Hid (Bx ((((((((v8.setCell ⟨(w.heap.size + 1), 0, none⟩ (.int .i64 t2.id)).setCell ⟨(w.heap.size + 1), 1, none⟩ (.int .i64 t2.st)).setCell ⟨(w.heap.size + 1), 2, none⟩ (.int .i64 t2.snap)).setCell ⟨(w.heap.size + 1), 3, none⟩ (.int .i64 t2.cs)).setCell ⟨(w.heap.size + 1), 4, none⟩ (.slice ra2 t2.rs.length rc2)).setCell ⟨(w.heap.size + 1), 5, none⟩ (.slice wa2 t2.ws.length wc2)).setCell ⟨(w.heap.size + 1), 6, none⟩ (.bool t2.out)).setCell ⟨(w.heap.size + 1), 7, none⟩ (.string t2.nm)) (w.heap.size + 1) [.int .i64 t2.id, .int .i64 t2.st, .int .i64 t2.snap, .int .i64 t2.cs, .slice ra2 t2.rs.length rc2, .slice wa2 t2.ws.length wc2, .bool t2.out, .string t2.nm]) := R26.out.s8P (.int .i64 t2.id) (.int .i64 t2.st) (.int .i64 t2.snap) (.int .i64 t2.cs) (.slice ra2 t2.rs.length rc2) (.slice wa2 t2.ws.length wc2) (.bool t2.out) (.string t2.nm)
  have HB7 : Hid (Below w.heap.size w ((((((((v8.setCell ⟨(w.heap.size + 1), 0, none⟩ (.int .i64 t2.id)).setCell ⟨(w.heap.size + 1), 1, none⟩ (.int .i64 t2.st)).setCell ⟨(w.heap.size + 1), 2, none⟩ (.int .i64 t2.snap)).setCell ⟨(w.heap.size + 1), 3, none⟩ (.int .i64 t2.cs)).setCell ⟨(w.heap.size + 1), 4, none⟩ (.slice ra2 t2.rs.length rc2)).setCell ⟨(w.heap.size + 1), 5, none⟩ (.slice wa2 t2.ws.length wc2)).setCell ⟨(w.heap.size + 1), 6, none⟩ (.bool t2.out)).setCell ⟨(w.heap.size + 1), 7, none⟩ (.string t2.nm))) := below_s8P HB6.out (ob := (w.heap.size + 1)) (by omega) (.int .i64 t2.id) (.int .i64 t2.st) (.int .i64 t2.snap) (.int .i64 t2.cs) (.slice ra2 t2.rs.length rc2) (.slice wa2 t2.ws.length wc2) (.bool t2.out) (.string t2.nm)
  have OR17 : Hid (Lies encR 54 ((((((((v8.setCell ⟨(w.heap.size + 1), 0, none⟩ (.int .i64 t2.id)).setCell ⟨(w.heap.size + 1), 1, none⟩ (.int .i64 t2.st)).setCell ⟨(w.heap.size + 1), 2, none⟩ (.int .i64 t2.snap)).setCell ⟨(w.heap.size + 1), 3, none⟩ (.int .i64 t2.cs)).setCell ⟨(w.heap.size + 1), 4, none⟩ (.slice ra2 t2.rs.length rc2)).setCell ⟨(w.heap.size + 1), 5, none⟩ (.slice wa2 t2.ws.length wc2)).setCell ⟨(w.heap.size + 1), 6, none⟩ (.bool t2.out)).setCell ⟨(w.heap.size + 1), 7, none⟩ (.string t2.nm)) (v1.heap.size) (v2.heap.size) (.slice ra1 t1.rs.length rc1) (t1.rs)) := ⟨own_s8P OR16.out.own (ob := (w.heap.size + 1)) (by omega) (.int .i64 t2.id) (.int .i64 t2.st) (.int .i64 t2.snap) (.int .i64 t2.cs) (.slice ra2 t2.rs.length rc2) (.slice wa2 t2.ws.length wc2) (.bool t2.out) (.string t2.nm), OR16.out.up⟩
  have OW17 : Hid (Lies encW 56 ((((((((v8.setCell ⟨(w.heap.size + 1), 0, none⟩ (.int .i64 t2.id)).setCell ⟨(w.heap.size + 1), 1, none⟩ (.int .i64 t2.st)).setCell ⟨(w.heap.size + 1), 2, none⟩ (.int .i64 t2.snap)).setCell ⟨(w.heap.size + 1), 3, none⟩ (.int .i64 t2.cs)).setCell ⟨(w.heap.size + 1), 4, none⟩ (.slice ra2 t2.rs.length rc2)).setCell ⟨(w.heap.size + 1), 5, none⟩ (.slice wa2 t2.ws.length wc2)).setCell ⟨(w.heap.size + 1), 6, none⟩ (.bool t2.out)).setCell ⟨(w.heap.size + 1), 7, none⟩ (.string t2.nm)) (v1.heap.size) (v2.heap.size) (.slice wa1 t1.ws.length wc1) (t1.ws)) := ⟨own_s8P OW16.out.own (ob := (w.heap.size + 1)) (by omega) (.int .i64 t2.id) (.int .i64 t2.st) (.int .i64 t2.snap) (.int .i64 t2.cs) (.slice ra2 t2.rs.length rc2) (.slice wa2 t2.ws.length wc2) (.bool t2.out) (.string t2.nm), OW16.out.up⟩
  have B17 : Hid (Bx ((((((((v8.setCell ⟨(w.heap.size + 1), 0, none⟩ (.int .i64 t2.id)).setCell ⟨(w.heap.size + 1), 1, none⟩ (.int .i64 t2.st)).setCell ⟨(w.heap.size + 1), 2, none⟩ (.int .i64 t2.snap)).setCell ⟨(w.heap.size + 1), 3, none⟩ (.int .i64 t2.cs)).setCell ⟨(w.heap.size + 1), 4, none⟩ (.slice ra2 t2.rs.length rc2)).setCell ⟨(w.heap.size + 1), 5, none⟩ (.slice wa2 t2.ws.length wc2)).setCell ⟨(w.heap.size + 1), 6, none⟩ (.bool t2.out)).setCell ⟨(w.heap.size + 1), 7, none⟩ (.string t2.nm)) (v2.heap.size) [.int .i64 t1.id, .int .i64 t1.st, .int .i64 t1.snap, .int .i64 t1.cs, .slice ra1 t1.rs.length rc1, .slice wa1 t1.ws.length wc1, .bool t1.out, .string t1.nm]) := B16.out.o8P (ob := (w.heap.size + 1)) (by omega) (.int .i64 t2.id) (.int .i64 t2.st) (.int .i64 t2.snap) (.int .i64 t2.cs) (.slice ra2 t2.rs.length rc2) (.slice wa2 t2.ws.length wc2) (.bool t2.out) (.string t2.nm)
  have OR27 : Hid (Lies encR 54 ((((((((v8.setCell ⟨(w.heap.size + 1), 0, none⟩ (.int .i64 t2.id)).setCell ⟨(w.heap.size + 1), 1, none⟩ (.int .i64 t2.st)).setCell ⟨(w.heap.size + 1), 2, none⟩ (.int .i64 t2.snap)).setCell ⟨(w.heap.size + 1), 3, none⟩ (.int .i64 t2.cs)).setCell ⟨(w.heap.size + 1), 4, none⟩ (.slice ra2 t2.rs.length rc2)).setCell ⟨(w.heap.size + 1), 5, none⟩ (.slice wa2 t2.ws.length wc2)).setCell ⟨(w.heap.size + 1), 6, none⟩ (.bool t2.out)).setCell ⟨(w.heap.size + 1), 7, none⟩ (.string t2.nm)) (v4.heap.size) (v5.heap.size) (.slice ra2 t2.rs.length rc2) (t2.rs)) := ⟨own_s8P OR26.out.own (ob := (w.heap.size + 1)) (by omega) (.int .i64 t2.id) (.int .i64 t2.st) (.int .i64 t2.snap) (.int .i64 t2.cs) (.slice ra2 t2.rs.length rc2) (.slice wa2 t2.ws.length wc2) (.bool t2.out) (.string t2.nm), OR26.out.up⟩
  have OW27 : Hid (Lies encW 56 ((((((((v8.setCell ⟨(w.heap.size + 1), 0, none⟩ (.int .i64 t2.id)).setCell ⟨(w.heap.size + 1), 1, none⟩ (.int .i64 t2.st)).setCell ⟨(w.heap.size + 1), 2, none⟩ (.int .i64 t2.snap)).setCell ⟨(w.heap.size + 1), 3, none⟩ (.int .i64 t2.cs)).setCell ⟨(w.heap.size + 1), 4, none⟩ (.slice ra2 t2.rs.length rc2)).setCell ⟨(w.heap.size + 1), 5, none⟩ (.slice wa2 t2.ws.length wc2)).setCell ⟨(w.heap.size + 1), 6, none⟩ (.bool t2.out)).setCell ⟨(w.heap.size + 1), 7, none⟩ (.string t2.nm)) (v4.heap.size) (v5.heap.size) (.slice wa2 t2.ws.length wc2) (t2.ws)) := ⟨own_s8P OW26.out.own (ob := (w.heap.size + 1)) (by omega) (.int .i64 t2.id) (.int .i64 t2.st) (.int .i64 t2.snap) (.int .i64 t2.cs) (.slice ra2 t2.rs.length rc2) (.slice wa2 t2.ws.length wc2) (.bool t2.out) (.string t2.nm), OW26.out.up⟩
  clear R16 R26 HB6 OR16 OW16 B16 OR26 OW26
  generalize ((((((((v8.setCell ⟨(w.heap.size + 1), 0, none⟩ (.int .i64 t2.id)).setCell ⟨(w.heap.size + 1), 1, none⟩ (.int .i64 t2.st)).setCell ⟨(w.heap.size + 1), 2, none⟩ (.int .i64 t2.snap)).setCell ⟨(w.heap.size + 1), 3, none⟩ (.int .i64 t2.cs)).setCell ⟨(w.heap.size + 1), 4, none⟩ (.slice ra2 t2.rs.length rc2)).setCell ⟨(w.heap.size + 1), 5, none⟩ (.slice wa2 t2.ws.length wc2)).setCell ⟨(w.heap.size + 1), 6, none⟩ (.bool t2.out)).setCell ⟨(w.heap.size + 1), 7, none⟩ (.string t2.nm)) = v9 at *
  (try go_wp2_with fail)
  refine hK.out _ _ ⟨B17.out.c0, B17.out.c1, B17.out.c2, B17.out.c3, B17.out.c4, B17.out.c5, B17.out.c6, B17.out.c7⟩ (fun hHeld => ?_)
  clear hK K
  refine wpAnyH_done (by kernel_rfl) ?_ _
  go_wp2
  have q0_ := R17.out.c0
  have fq0 := R17.out.fz 0
  have q1_ := R17.out.c1
  have fq1 := R17.out.fz 1
  have q2_ := R17.out.c2
  have fq2 := R17.out.fz 2
  have q3_ := R17.out.c3
  have fq3 := R17.out.fz 3
  have q4_ := R17.out.c4
  have fq4 := R17.out.fz 4
  have q5_ := R17.out.c5
  have fq5 := R17.out.fz 5
  have q6_ := R17.out.c6
  have fq6 := R17.out.fz 6
  have q7_ := R17.out.c7
  have fq7 := R17.out.fz 7
  have p0_ := R27.out.c0
  have fp0 := R27.out.fz 0
  have p1_ := R27.out.c1
  have fp1 := R27.out.fz 1
  have p2_ := R27.out.c2
  have fp2 := R27.out.fz 2
  have p3_ := R27.out.c3
  have fp3 := R27.out.fz 3
  have p4_ := R27.out.c4
  have fp4 := R27.out.fz 4
  have p5_ := R27.out.c5
  have fp5 := R27.out.fz 5
  have p6_ := R27.out.c6
  have fp6 := R27.out.fz 6
  have p7_ := R27.out.c7
  have fp7 := R27.out.fz 7
  refine bodyPost_ret (v := .tuple #[.agg #[.int .i64 t1.id, .int .i64 t1.st, .int .i64 t1.snap, .int .i64 t1.cs, .slice ra1 t1.rs.length rc1, .slice wa1 t1.ws.length wc1, .bool t1.out, .string t1.nm], .agg #[.int .i64 t2.id, .int .i64 t2.st, .int .i64 t2.snap, .int .i64 t2.cs, .slice ra2 t2.rs.length rc2, .slice wa2 t2.ws.length wc2, .bool t2.out, .string t2.nm]]) (by simp [results, Try.results40, go_sem, q0_, q1_, q2_, q3_, q4_, q5_, q6_, q7_, p0_, p1_, p2_, p3_, p4_, p5_, p6_, p7_]) rfl ⟨⟨t1, ra1, rc1, wa1, wc1⟩, ⟨t2, ra2, rc2, wa2, wc2⟩, HT1.out, HT2.out, rfl, ⟨OR17.out.own.mono (by omega), OW17.out.own.mono (by omega)⟩, ⟨OR27.out.own.mono (by omega), OW27.out.own.mono (by omega)⟩, HB7.out⟩

set_option maxRecDepth 100000 in
set_option maxHeartbeats 4000000 in
theorem dAhead (len cap : Nat) (a : Option Addr) (hl : len ≤ 1048576) (w : World) (hr : CodeRow w a len) :
    Calls Try.prog 14 #[.slice a len cap] w fun e w' => ∃ x y : Ta, TxA x.t ∧ TxA y.t ∧  e = .returned (.tuple #[.agg #[.int .i64 x.t.id, .int .i64 x.t.st, .int .i64 x.t.snap, .int .i64 x.t.cs, .slice x.ra x.t.rs.length x.rc, .slice x.wa x.t.ws.length x.wc, .bool x.t.out, .string x.t.nm], .agg #[.int .i64 y.t.id, .int .i64 y.t.st, .int .i64 y.t.snap, .int .i64 y.t.cs, .slice y.ra y.t.rs.length y.rc, .slice y.wa y.t.ws.length y.wc, .bool y.t.out, .string y.t.nm]]) ∧ TOwn w' w.heap.size x ∧ TOwn w' w.heap.size y ∧ Below w.heap.size w w' := by
  have R10 : Hid (Bx ((w.alloc (.cells #[.int .i64 0, .int .i64 0, .int .i64 0, .int .i64 0, .slice none 0 0, .slice none 0 0, .bool false, .string ⟨#[]⟩] 27)).alloc (.cells #[.int .i64 0, .int .i64 0, .int .i64 0, .int .i64 0, .slice none 0 0, .slice none 0 0, .bool false, .string ⟨#[]⟩] 27)) (w.heap.size) [.int .i64 0, .int .i64 0, .int .i64 0, .int .i64 0, .slice none 0 0, .slice none 0 0, .bool false, .string ⟨#[]⟩]) := (Bx.new w [.int .i64 0, .int .i64 0, .int .i64 0, .int .i64 0, .slice none 0 0, .slice none 0 0, .bool false, .string ⟨#[]⟩] 27).alloc _
  have R20 : Hid (Bx ((w.alloc (.cells #[.int .i64 0, .int .i64 0, .int .i64 0, .int .i64 0, .slice none 0 0, .slice none 0 0, .bool false, .string ⟨#[]⟩] 27)).alloc (.cells #[.int .i64 0, .int .i64 0, .int .i64 0, .int .i64 0, .slice none 0 0, .slice none 0 0, .bool false, .string ⟨#[]⟩] 27)) (w.heap.size + 1) [.int .i64 0, .int .i64 0, .int .i64 0, .int .i64 0, .slice none 0 0, .slice none 0 0, .bool false, .string ⟨#[]⟩]) := by have h := Bx.new (w.alloc (.cells #[.int .i64 0, .int .i64 0, .int .i64 0, .int .i64 0, .slice none 0 0, .slice none 0 0, .bool false, .string ⟨#[]⟩] 27)) [.int .i64 0, .int .i64 0, .int .i64 0, .int .i64 0, .slice none 0 0, .slice none 0 0, .bool false, .string ⟨#[]⟩] 27; simpa [Hid] using h
  have HB0 : Hid (Below w.heap.size w ((w.alloc (.cells #[.int .i64 0, .int .i64 0, .int .i64 0, .int .i64 0, .slice none 0 0, .slice none 0 0, .bool false, .string ⟨#[]⟩] 27)).alloc (.cells #[.int .i64 0, .int .i64 0, .int .i64 0, .int .i64 0, .slice none 0 0, .slice none 0 0, .bool false, .string ⟨#[]⟩] 27))) := ((belowRefl w).alloc (Nat.le_refl _) _).alloc (by simp) _
  have HR : Hid (CodeRow ((w.alloc (.cells #[.int .i64 0, .int .i64 0, .int .i64 0, .int .i64 0, .slice none 0 0, .slice none 0 0, .bool false, .string ⟨#[]⟩] 27)).alloc (.cells #[.int .i64 0, .int .i64 0, .int .i64 0, .int .i64 0, .slice none 0 0, .slice none 0 0, .bool false, .string ⟨#[]⟩] 27)) a len) := hr.below HB0.out
  have hz0 : w.heap.size + 1 < ((w.alloc (.cells #[.int .i64 0, .int .i64 0, .int .i64 0, .int .i64 0, .slice none 0 0, .slice none 0 0, .bool false, .string ⟨#[]⟩] 27)).alloc (.cells #[.int .i64 0, .int .i64 0, .int .i64 0, .int .i64 0, .slice none 0 0, .slice none 0 0, .bool false, .string ⟨#[]⟩] 27)).heap.size := by simp
  clear hr
  go_enter Try.func14, Try.ntmps14
  go_wp2_with fail
  generalize ((w.alloc (.cells #[.int .i64 0, .int .i64 0, .int .i64 0, .int .i64 0, .slice none 0 0, .slice none 0 0, .bool false, .string ⟨#[]⟩] 27)).alloc (.cells #[.int .i64 0, .int .i64 0, .int .i64 0, .int .i64 0, .slice none 0 0, .slice none 0 0, .bool false, .string ⟨#[]⟩] 27)) = v0 at *
  refine (dPair len cap a hl _ HR.out).mono ?_
  rintro e v1 ⟨x, y, hx, hy, rfl, tx, ty, hb⟩
  have HX := hide hx
  have HY := hide hy
  have R11 : Hid (Bx v1 (w.heap.size) [.int .i64 0, .int .i64 0, .int .i64 0, .int .i64 0, .slice none 0 0, .slice none 0 0, .bool false, .string ⟨#[]⟩]) := R10.out.below hb
  have R21 : Hid (Bx v1 (w.heap.size + 1) [.int .i64 0, .int .i64 0, .int .i64 0, .int .i64 0, .slice none 0 0, .slice none 0 0, .bool false, .string ⟨#[]⟩]) := R20.out.below hb
  have HB1 : Hid (Below w.heap.size w v1) := HB0.out.trans (hb.mono HB0.out.size)
  clear R10 R20 HB0
  have TX1 : Hid (TOwn v1 (v0.heap.size) x) := tx
  have TY1 : Hid (TOwn v1 (v0.heap.size) y) := ty
  have hs1 := hb.size
  clear hb hx hy tx ty
  have q0_ := R11.out.c0
  have fq0 := R11.out.fz 0
  have q1_ := R11.out.c1
  have fq1 := R11.out.fz 1
  have q2_ := R11.out.c2
  have fq2 := R11.out.fz 2
  have q3_ := R11.out.c3
  have fq3 := R11.out.fz 3
  have q4_ := R11.out.c4
  have fq4 := R11.out.fz 4
  have q5_ := R11.out.c5
  have fq5 := R11.out.fz 5
  have q6_ := R11.out.c6
  have fq6 := R11.out.fz 6
  have q7_ := R11.out.c7
  have fq7 := R11.out.fz 7
  have p0_ := R21.out.c0
  have fp0 := R21.out.fz 0
  have p1_ := R21.out.c1
  have fp1 := R21.out.fz 1
  have p2_ := R21.out.c2
  have fp2 := R21.out.fz 2
  have p3_ := R21.out.c3
  have fp3 := R21.out.fz 3
  have p4_ := R21.out.c4
  have fp4 := R21.out.fz 4
  have p5_ := R21.out.c5
  have fp5 := R21.out.fz 5
  have p6_ := R21.out.c6
  have fp6 := R21.out.fz 6
  have p7_ := R21.out.c7
  have fp7 := R21.out.fz 7
  go_wp2
  clear q0_ fq0 p0_ fp0 q1_ fq1 p1_ fp1 q2_ fq2 p2_ fp2 q3_ fq3 p3_ fp3 q4_ fq4 p4_ fp4 q5_ fq5 p5_ fp5 q6_ fq6 p6_ fp6 q7_ fq7 p7_ fp7
  have R12 : Hid (Bx ((((((((v1.setCell ⟨w.heap.size, 0, none⟩ (.int .i64 x.t.id)).setCell ⟨w.heap.size, 1, none⟩ (.int .i64 x.t.st)).setCell ⟨w.heap.size, 2, none⟩ (.int .i64 x.t.snap)).setCell ⟨w.heap.size, 3, none⟩ (.int .i64 x.t.cs)).setCell ⟨w.heap.size, 4, none⟩ (.slice x.ra x.t.rs.length x.rc)).setCell ⟨w.heap.size, 5, none⟩ (.slice x.wa x.t.ws.length x.wc)).setCell ⟨w.heap.size, 6, none⟩ (.bool x.t.out)).setCell ⟨w.heap.size, 7, none⟩ (.string x.t.nm)) (w.heap.size) [.int .i64 x.t.id, .int .i64 x.t.st, .int .i64 x.t.snap, .int .i64 x.t.cs, .slice x.ra x.t.rs.length x.rc, .slice x.wa x.t.ws.length x.wc, .bool x.t.out, .string x.t.nm]) := R11.out.s8P (.int .i64 x.t.id) (.int .i64 x.t.st) (.int .i64 x.t.snap) (.int .i64 x.t.cs) (.slice x.ra x.t.rs.length x.rc) (.slice x.wa x.t.ws.length x.wc) (.bool x.t.out) (.string x.t.nm)
  have R22 : Hid (Bx ((((((((v1.setCell ⟨w.heap.size, 0, none⟩ (.int .i64 x.t.id)).setCell ⟨w.heap.size, 1, none⟩ (.int .i64 x.t.st)).setCell ⟨w.heap.size, 2, none⟩ (.int .i64 x.t.snap)).setCell ⟨w.heap.size, 3, none⟩ (.int .i64 x.t.cs)).setCell ⟨w.heap.size, 4, none⟩ (.slice x.ra x.t.rs.length x.rc)).setCell ⟨w.heap.size, 5, none⟩ (.slice x.wa x.t.ws.length x.wc)).setCell ⟨w.heap.size, 6, none⟩ (.bool x.t.out)).setCell ⟨w.heap.size, 7, none⟩ (.string x.t.nm)) (w.heap.size + 1) [.int .i64 0, .int .i64 0, .int .i64 0, .int .i64 0, .slice none 0 0, .slice none 0 0, .bool false, .string ⟨#[]⟩]) := R21.out.o8P (ob := w.heap.size) (by omega) (.int .i64 x.t.id) (.int .i64 x.t.st) (.int .i64 x.t.snap) (.int .i64 x.t.cs) (.slice x.ra x.t.rs.length x.rc) (.slice x.wa x.t.ws.length x.wc) (.bool x.t.out) (.string x.t.nm)
  have HB2 : Hid (Below w.heap.size w ((((((((v1.setCell ⟨w.heap.size, 0, none⟩ (.int .i64 x.t.id)).setCell ⟨w.heap.size, 1, none⟩ (.int .i64 x.t.st)).setCell ⟨w.heap.size, 2, none⟩ (.int .i64 x.t.snap)).setCell ⟨w.heap.size, 3, none⟩ (.int .i64 x.t.cs)).setCell ⟨w.heap.size, 4, none⟩ (.slice x.ra x.t.rs.length x.rc)).setCell ⟨w.heap.size, 5, none⟩ (.slice x.wa x.t.ws.length x.wc)).setCell ⟨w.heap.size, 6, none⟩ (.bool x.t.out)).setCell ⟨w.heap.size, 7, none⟩ (.string x.t.nm))) := below_s8P HB1.out (ob := w.heap.size) (by omega) (.int .i64 x.t.id) (.int .i64 x.t.st) (.int .i64 x.t.snap) (.int .i64 x.t.cs) (.slice x.ra x.t.rs.length x.rc) (.slice x.wa x.t.ws.length x.wc) (.bool x.t.out) (.string x.t.nm)
  have TX2 : Hid (TOwn ((((((((v1.setCell ⟨w.heap.size, 0, none⟩ (.int .i64 x.t.id)).setCell ⟨w.heap.size, 1, none⟩ (.int .i64 x.t.st)).setCell ⟨w.heap.size, 2, none⟩ (.int .i64 x.t.snap)).setCell ⟨w.heap.size, 3, none⟩ (.int .i64 x.t.cs)).setCell ⟨w.heap.size, 4, none⟩ (.slice x.ra x.t.rs.length x.rc)).setCell ⟨w.heap.size, 5, none⟩ (.slice x.wa x.t.ws.length x.wc)).setCell ⟨w.heap.size, 6, none⟩ (.bool x.t.out)).setCell ⟨w.heap.size, 7, none⟩ (.string x.t.nm)) (v0.heap.size) x) := ⟨own_s8P TX1.out.r (ob := w.heap.size) (by omega) (.int .i64 x.t.id) (.int .i64 x.t.st) (.int .i64 x.t.snap) (.int .i64 x.t.cs) (.slice x.ra x.t.rs.length x.rc) (.slice x.wa x.t.ws.length x.wc) (.bool x.t.out) (.string x.t.nm), own_s8P TX1.out.w (ob := w.heap.size) (by omega) (.int .i64 x.t.id) (.int .i64 x.t.st) (.int .i64 x.t.snap) (.int .i64 x.t.cs) (.slice x.ra x.t.rs.length x.rc) (.slice x.wa x.t.ws.length x.wc) (.bool x.t.out) (.string x.t.nm)⟩
  have TY2 : Hid (TOwn ((((((((v1.setCell ⟨w.heap.size, 0, none⟩ (.int .i64 x.t.id)).setCell ⟨w.heap.size, 1, none⟩ (.int .i64 x.t.st)).setCell ⟨w.heap.size, 2, none⟩ (.int .i64 x.t.snap)).setCell ⟨w.heap.size, 3, none⟩ (.int .i64 x.t.cs)).setCell ⟨w.heap.size, 4, none⟩ (.slice x.ra x.t.rs.length x.rc)).setCell ⟨w.heap.size, 5, none⟩ (.slice x.wa x.t.ws.length x.wc)).setCell ⟨w.heap.size, 6, none⟩ (.bool x.t.out)).setCell ⟨w.heap.size, 7, none⟩ (.string x.t.nm)) (v0.heap.size) y) := ⟨own_s8P TY1.out.r (ob := w.heap.size) (by omega) (.int .i64 x.t.id) (.int .i64 x.t.st) (.int .i64 x.t.snap) (.int .i64 x.t.cs) (.slice x.ra x.t.rs.length x.rc) (.slice x.wa x.t.ws.length x.wc) (.bool x.t.out) (.string x.t.nm), own_s8P TY1.out.w (ob := w.heap.size) (by omega) (.int .i64 x.t.id) (.int .i64 x.t.st) (.int .i64 x.t.snap) (.int .i64 x.t.cs) (.slice x.ra x.t.rs.length x.rc) (.slice x.wa x.t.ws.length x.wc) (.bool x.t.out) (.string x.t.nm)⟩
  clear R11 R21 HB1 TX1 TY1
  generalize ((((((((v1.setCell ⟨w.heap.size, 0, none⟩ (.int .i64 x.t.id)).setCell ⟨w.heap.size, 1, none⟩ (.int .i64 x.t.st)).setCell ⟨w.heap.size, 2, none⟩ (.int .i64 x.t.snap)).setCell ⟨w.heap.size, 3, none⟩ (.int .i64 x.t.cs)).setCell ⟨w.heap.size, 4, none⟩ (.slice x.ra x.t.rs.length x.rc)).setCell ⟨w.heap.size, 5, none⟩ (.slice x.wa x.t.ws.length x.wc)).setCell ⟨w.heap.size, 6, none⟩ (.bool x.t.out)).setCell ⟨w.heap.size, 7, none⟩ (.string x.t.nm)) = v2 at *
  have R13 : Hid (Bx ((((((((v2.setCell ⟨(w.heap.size + 1), 0, none⟩ (.int .i64 y.t.id)).setCell ⟨(w.heap.size + 1), 1, none⟩ (.int .i64 y.t.st)).setCell ⟨(w.heap.size + 1), 2, none⟩ (.int .i64 y.t.snap)).setCell ⟨(w.heap.size + 1), 3, none⟩ (.int .i64 y.t.cs)).setCell ⟨(w.heap.size + 1), 4, none⟩ (.slice y.ra y.t.rs.length y.rc)).setCell ⟨(w.heap.size + 1), 5, none⟩ (.slice y.wa y.t.ws.length y.wc)).setCell ⟨(w.heap.size + 1), 6, none⟩ (.bool y.t.out)).setCell ⟨(w.heap.size + 1), 7, none⟩ (.string y.t.nm)) (w.heap.size) [.int .i64 x.t.id, .int .i64 x.t.st, .int .i64 x.t.snap, .int .i64 x.t.cs, .slice x.ra x.t.rs.length x.rc, .slice x.wa x.t.ws.length x.wc, .bool x.t.out, .string x.t.nm]) := R12.out.o8P (ob := (w.heap.size + 1)) (by omega) (.int .i64 y.t.id) (.int .i64 y.t.st) (.int .i64 y.t.snap) (.int .i64 y.t.cs) (.slice y.ra y.t.rs.length y.rc) (.slice y.wa y.t.ws.length y.wc) (.bool y.t.out) (.string y.t.nm)
  have R23 : Hid (Bx ((((((((v2.setCell ⟨(w.heap.size + 1), 0, none⟩ (.int .i64 y.t.id)).setCell ⟨(w.heap.size + 1), 1, none⟩ (.int .i64 y.t.st)).setCell ⟨(w.heap.size + 1), 2, none⟩ (.int .i64 y.t.snap)).setCell ⟨(w.heap.size + 1), 3, none⟩ (.int .i64 y.t.cs)).setCell ⟨(w.heap.size + 1), 4, none⟩ (.slice y.ra y.t.rs.length y.rc)).setCell ⟨(w.heap.size + 1), 5, none⟩ (.slice y.wa y.t.ws.length y.wc)).setCell ⟨(w.heap.size + 1), 6, none⟩ (.bool y.t.out)).setCell ⟨(w.heap.size + 1), 7, none⟩ (.string y.t.nm)) (w.heap.size + 1) [.int .i64 y.t.id, .int .i64 y.t.st, .int .i64 y.t.snap, .int .i64 y.t.cs, .slice y.ra y.t.rs.length y.rc, .slice y.wa y.t.ws.length y.wc, .bool y.t.out, .string y.t.nm]) := R22.out.s8P (.int .i64 y.t.id) (.int .i64 y.t.st) (.int .i64 y.t.snap) (.int .i64 y.t.cs) (.slice y.ra y.t.rs.length y.rc) (.slice y.wa y.t.ws.length y.wc) (.bool y.t.out) (.string y.t.nm)
  have HB3 : Hid (Below w.heap.size w ((((((((v2.setCell ⟨(w.heap.size + 1), 0, none⟩ (.int .i64 y.t.id)).setCell ⟨(w.heap.size + 1), 1, none⟩ (.int .i64 y.t.st)).setCell ⟨(w.heap.size + 1), 2, none⟩ (.int .i64 y.t.snap)).setCell ⟨(w.heap.size + 1), 3, none⟩ (.int .i64 y.t.cs)).setCell ⟨(w.heap.size + 1), 4, none⟩ (.slice y.ra y.t.rs.length y.rc)).setCell ⟨(w.heap.size + 1), 5, none⟩ (.slice y.wa y.t.ws.length y.wc)).setCell ⟨(w.heap.size + 1), 6, none⟩ (.bool y.t.out)).setCell ⟨(w.heap.size + 1), 7, none⟩ (.string y.t.nm))) := below_s8P HB2.out (ob := (w.heap.size + 1)) (by omega) (.int .i64 y.t.id) (.int .i64 y.t.st) (.int .i64 y.t.snap) (.int .i64 y.t.cs) (.slice y.ra y.t.rs.length y.rc) (.slice y.wa y.t.ws.length y.wc) (.bool y.t.out) (.string y.t.nm)
  have TX3 : Hid (TOwn ((((((((v2.setCell ⟨(w.heap.size + 1), 0, none⟩ (.int .i64 y.t.id)).setCell ⟨(w.heap.size + 1), 1, none⟩ (.int .i64 y.t.st)).setCell ⟨(w.heap.size + 1), 2, none⟩ (.int .i64 y.t.snap)).setCell ⟨(w.heap.size + 1), 3, none⟩ (.int .i64 y.t.cs)).setCell ⟨(w.heap.size + 1), 4, none⟩ (.slice y.ra y.t.rs.length y.rc)).setCell ⟨(w.heap.size + 1), 5, none⟩ (.slice y.wa y.t.ws.length y.wc)).setCell ⟨(w.heap.size + 1), 6, none⟩ (.bool y.t.out)).setCell ⟨(w.heap.size + 1), 7, none⟩ (.string y.t.nm)) (v0.heap.size) x) := ⟨own_s8P TX2.out.r (ob := (w.heap.size + 1)) (by omega) (.int .i64 y.t.id) (.int .i64 y.t.st) (.int .i64 y.t.snap) (.int .i64 y.t.cs) (.slice y.ra y.t.rs.length y.rc) (.slice y.wa y.t.ws.length y.wc) (.bool y.t.out) (.string y.t.nm), own_s8P TX2.out.w (ob := (w.heap.size + 1)) (by omega) (.int .i64 y.t.id) (.int .i64 y.t.st) (.int .i64 y.t.snap) (.int .i64 y.t.cs) (.slice y.ra y.t.rs.length y.rc) (.slice y.wa y.t.ws.length y.wc) (.bool y.t.out) (.string y.t.nm)⟩
  have TY3 : Hid (TOwn ((((((((v2.setCell ⟨(w.heap.size + 1), 0, none⟩ (.int .i64 y.t.id)).setCell ⟨(w.heap.size + 1), 1, none⟩ (.int .i64 y.t.st)).setCell ⟨(w.heap.size + 1), 2, none⟩ (.int .i64 y.t.snap)).setCell ⟨(w.heap.size + 1), 3, none⟩ (.int .i64 y.t.cs)).setCell ⟨(w.heap.size + 1), 4, none⟩ (.slice y.ra y.t.rs.length y.rc)).setCell ⟨(w.heap.size + 1), 5, none⟩ (.slice y.wa y.t.ws.length y.wc)).setCell ⟨(w.heap.size + 1), 6, none⟩ (.bool y.t.out)).setCell ⟨(w.heap.size + 1), 7, none⟩ (.string y.t.nm)) (v0.heap.size) y) := ⟨own_s8P TY2.out.r (ob := (w.heap.size + 1)) (by omega) (.int .i64 y.t.id) (.int .i64 y.t.st) (.int .i64 y.t.snap) (.int .i64 y.t.cs) (.slice y.ra y.t.rs.length y.rc) (.slice y.wa y.t.ws.length y.wc) (.bool y.t.out) (.string y.t.nm), own_s8P TY2.out.w (ob := (w.heap.size + 1)) (by omega) (.int .i64 y.t.id) (.int .i64 y.t.st) (.int .i64 y.t.snap) (.int .i64 y.t.cs) (.slice y.ra y.t.rs.length y.rc) (.slice y.wa y.t.ws.length y.wc) (.bool y.t.out) (.string y.t.nm)⟩
  clear R12 R22 HB2 TX2 TY2
  generalize ((((((((v2.setCell ⟨(w.heap.size + 1), 0, none⟩ (.int .i64 y.t.id)).setCell ⟨(w.heap.size + 1), 1, none⟩ (.int .i64 y.t.st)).setCell ⟨(w.heap.size + 1), 2, none⟩ (.int .i64 y.t.snap)).setCell ⟨(w.heap.size + 1), 3, none⟩ (.int .i64 y.t.cs)).setCell ⟨(w.heap.size + 1), 4, none⟩ (.slice y.ra y.t.rs.length y.rc)).setCell ⟨(w.heap.size + 1), 5, none⟩ (.slice y.wa y.t.ws.length y.wc)).setCell ⟨(w.heap.size + 1), 6, none⟩ (.bool y.t.out)).setCell ⟨(w.heap.size + 1), 7, none⟩ (.string y.t.nm)) = v3 at *
  have q0_ := R13.out.c0
  have fq0 := R13.out.fz 0
  have q1_ := R13.out.c1
  have fq1 := R13.out.fz 1
  have q2_ := R13.out.c2
  have fq2 := R13.out.fz 2
  have q3_ := R13.out.c3
  have fq3 := R13.out.fz 3
  have q4_ := R13.out.c4
  have fq4 := R13.out.fz 4
  have q5_ := R13.out.c5
  have fq5 := R13.out.fz 5
  have q6_ := R13.out.c6
  have fq6 := R13.out.fz 6
  have q7_ := R13.out.c7
  have fq7 := R13.out.fz 7
  have p0_ := R23.out.c0
  have fp0 := R23.out.fz 0
  have p1_ := R23.out.c1
  have fp1 := R23.out.fz 1
  have p2_ := R23.out.c2
  have fp2 := R23.out.fz 2
  have p3_ := R23.out.c3
  have fp3 := R23.out.fz 3
  have p4_ := R23.out.c4
  have fp4 := R23.out.fz 4
  have p5_ := R23.out.c5
  have fp5 := R23.out.fz 5
  have p6_ := R23.out.c6
  have fp6 := R23.out.fz 6
  have p7_ := R23.out.c7
  have fp7 := R23.out.fz 7
  refine bodyPost_ret (v := .tuple #[.agg #[.int .i64 x.t.id, .int .i64 x.t.st, .int .i64 x.t.snap, .int .i64 x.t.cs, .slice x.ra x.t.rs.length x.rc, .slice x.wa x.t.ws.length x.wc, .bool x.t.out, .string x.t.nm], .agg #[.int .i64 y.t.id, .int .i64 y.t.st, .int .i64 y.t.snap, .int .i64 y.t.cs, .slice y.ra y.t.rs.length y.rc, .slice y.wa y.t.ws.length y.wc, .bool y.t.out, .string y.t.nm]]) (by simp [results, Try.results14, go_sem, q0_, q1_, q2_, q3_, q4_, q5_, q6_, q7_, p0_, p1_, p2_, p3_, p4_, p5_, p6_, p7_]) rfl ⟨x, y, HX.out, HY.out, rfl, TX3.out.mono (by omega), TY3.out.mono (by omega), HB3.out⟩


end Go.Proofs.Ythhplblohhkjbaa
