/- DrawBefore: two that were let through, or two of any kind. -/
import Derived.Test.YtbajpnbodhhmjaaGreatPs01
import Derived.Test.YtbajpnbodhhmjaaGreatPs33
namespace Go.Proofs.YtbajpnbodhhmjaaGreat
open Go.RowKit
open KM
open VM
attribute [local go_sem ↓] Go.wp_at_zero Go.wp_at_succ

theorem DoneD.any {t : Tx} (h : DoneD t) : TxA t := ⟨h.fit, Nat.le_trans h.rl (by omega), Nat.le_trans h.wl (by omega)⟩

theorem cell8P {w : World} {ob : Nat} {v0 v1 v2 v3 v4 v5 v6 v7 : Value} (b o : Nat) (hne : b ≠ ob) : ((((((((w.setCell ⟨ob, 0, none⟩ v0).setCell ⟨ob, 1, none⟩ v1).setCell ⟨ob, 2, none⟩ v2).setCell ⟨ob, 3, none⟩ v3).setCell ⟨ob, 4, none⟩ v4).setCell ⟨ob, 5, none⟩ v5).setCell ⟨ob, 6, none⟩ v6).setCell ⟨ob, 7, none⟩ v7).cell? ⟨b, o, none⟩ = w.cell? ⟨b, o, none⟩ := by
 simp only [World.cell?]
 rw [Below.heap_setCell _ _ _ _ hne, Below.heap_setCell _ _ _ _ hne, Below.heap_setCell _ _ _ _ hne, Below.heap_setCell _ _ _ _ hne, Below.heap_setCell _ _ _ _ hne, Below.heap_setCell _ _ _ _ hne, Below.heap_setCell _ _ _ _ hne, Below.heap_setCell _ _ _ _ hne]

set_option maxRecDepth 100000 in
set_option maxHeartbeats 4000000 in
theorem dBef (len cap : Nat) (a : Option Addr) (hl : len ≤ 1048576) (w : World) (hr : CodeRow w a len) :
  Calls Tryz.prog 9 #[.slice a len cap] w fun e w' => ∃ x y : Ta, TxA x.t ∧ TxA y.t ∧ e = .returned (.tuple #[.agg #[.int .i64 x.t.id, .int .i64 x.t.st, .int .i64 x.t.snap, .int .i64 x.t.cs, .slice x.ra x.t.rs.length x.rc, .slice x.wa x.t.ws.length x.wc, .bool x.t.out, .string x.t.nm], .agg #[.int .i64 y.t.id, .int .i64 y.t.st, .int .i64 y.t.snap, .int .i64 y.t.cs, .slice y.ra y.t.rs.length y.rc, .slice y.wa y.t.ws.length y.wc, .bool y.t.out, .string y.t.nm]]) ∧ TOwn w' w.heap.size x ∧ TOwn w' w.heap.size y ∧ Below w.heap.size w w' := by
 have HR0 := hide hr
 have R10 : Hid (Bx ((w.alloc (.cells #[.int .i64 0, .int .i64 0, .int .i64 0, .int .i64 0, .slice none 0 0, .slice none 0 0, .bool false, .string ⟨#[]⟩] 30)).alloc (.cells #[.int .i64 0, .int .i64 0, .int .i64 0, .int .i64 0, .slice none 0 0, .slice none 0 0, .bool false, .string ⟨#[]⟩] 30)) (w.heap.size) [.int .i64 0, .int .i64 0, .int .i64 0, .int .i64 0, .slice none 0 0, .slice none 0 0, .bool false, .string ⟨#[]⟩]) := (Bx.new w [.int .i64 0, .int .i64 0, .int .i64 0, .int .i64 0, .slice none 0 0, .slice none 0 0, .bool false, .string ⟨#[]⟩] 30).alloc _
 have R20 : Hid (Bx ((w.alloc (.cells #[.int .i64 0, .int .i64 0, .int .i64 0, .int .i64 0, .slice none 0 0, .slice none 0 0, .bool false, .string ⟨#[]⟩] 30)).alloc (.cells #[.int .i64 0, .int .i64 0, .int .i64 0, .int .i64 0, .slice none 0 0, .slice none 0 0, .bool false, .string ⟨#[]⟩] 30)) (w.heap.size + 1) [.int .i64 0, .int .i64 0, .int .i64 0, .int .i64 0, .slice none 0 0, .slice none 0 0, .bool false, .string ⟨#[]⟩]) := by have h := Bx.new (w.alloc (.cells #[.int .i64 0, .int .i64 0, .int .i64 0, .int .i64 0, .slice none 0 0, .slice none 0 0, .bool false, .string ⟨#[]⟩] 30)) [.int .i64 0, .int .i64 0, .int .i64 0, .int .i64 0, .slice none 0 0, .slice none 0 0, .bool false, .string ⟨#[]⟩] 30; simpa [Hid] using h
 have HB0 : Hid (Below w.heap.size w ((w.alloc (.cells #[.int .i64 0, .int .i64 0, .int .i64 0, .int .i64 0, .slice none 0 0, .slice none 0 0, .bool false, .string ⟨#[]⟩] 30)).alloc (.cells #[.int .i64 0, .int .i64 0, .int .i64 0, .int .i64 0, .slice none 0 0, .slice none 0 0, .bool false, .string ⟨#[]⟩] 30))) := ((belowRefl w).alloc (Nat.le_refl _) _).alloc (by simp) _
 have HR : Hid (CodeRow ((w.alloc (.cells #[.int .i64 0, .int .i64 0, .int .i64 0, .int .i64 0, .slice none 0 0, .slice none 0 0, .bool false, .string ⟨#[]⟩] 30)).alloc (.cells #[.int .i64 0, .int .i64 0, .int .i64 0, .int .i64 0, .slice none 0 0, .slice none 0 0, .bool false, .string ⟨#[]⟩] 30)) a len) := hr.below HB0.out
 have hz0 : w.heap.size + 1 < ((w.alloc (.cells #[.int .i64 0, .int .i64 0, .int .i64 0, .int .i64 0, .slice none 0 0, .slice none 0 0, .bool false, .string ⟨#[]⟩] 30)).alloc (.cells #[.int .i64 0, .int .i64 0, .int .i64 0, .int .i64 0, .slice none 0 0, .slice none 0 0, .bool false, .string ⟨#[]⟩] 30)).heap.size := by simp
 clear hr
 go_enter Tryz.func9, Tryz.ntmps9
 go_wp2_with fail
 generalize ((w.alloc (.cells #[.int .i64 0, .int .i64 0, .int .i64 0, .int .i64 0, .slice none 0 0, .slice none 0 0, .bool false, .string ⟨#[]⟩] 30)).alloc (.cells #[.int .i64 0, .int .i64 0, .int .i64 0, .int .i64 0, .slice none 0 0, .slice none 0 0, .bool false, .string ⟨#[]⟩] 30)) = v0 at *
 refine (drNew len cap a hl _ HR.out).mono ?_
 rintro e v1 ⟨rfl, hc, hb⟩
 have hz1 : v0.heap.size ≤ v1.heap.size := hb.size
 have hlc := hc.lt
 have R11 : Hid (Bx v1 (w.heap.size) [.int .i64 0, .int .i64 0, .int .i64 0, .int .i64 0, .slice none 0 0, .slice none 0 0, .bool false, .string ⟨#[]⟩]) := R10.out.below hb
 have R21 : Hid (Bx v1 (w.heap.size + 1) [.int .i64 0, .int .i64 0, .int .i64 0, .int .i64 0, .slice none 0 0, .slice none 0 0, .bool false, .string ⟨#[]⟩]) := R20.out.below hb
 have HB1 : Hid (Below w.heap.size w v1) := HB0.out.trans (hb.mono HB0.out.size)
 clear R10 R20 HB0
 have D1 : Hid (Dn v1 v1 (v0.heap.size) a len cap) := Dn.start hc
 clear hb hc HR
 go_wp2_with fail
 refine (drDones v0.heap.size len cap a _ D1.out.c).mono ?_
 rintro e v2 ⟨ys, cs, la, lc, hd, hyl, hcs, rfl, ho, d⟩
 have HD := hide hd
 have HO := hide ho
 have hsv2 := d.size
 clear hd hcs ho
 have R12 : Hid (Bx v2 (w.heap.size) [.int .i64 0, .int .i64 0, .int .i64 0, .int .i64 0, .slice none 0 0, .slice none 0 0, .bool false, .string ⟨#[]⟩]) := R11.out.keptD d (by omega)
 have R22 : Hid (Bx v2 (w.heap.size + 1) [.int .i64 0, .int .i64 0, .int .i64 0, .int .i64 0, .slice none 0 0, .slice none 0 0, .bool false, .string ⟨#[]⟩]) := R21.out.keptD d (by omega)
 have HB2 : Hid (Below w.heap.size w v2) := d.out HB1.out (by omega) (by omega)
 have D2 : Hid (Dn v1 v2 (v0.heap.size) a len cap) := D1.out.step d
 clear R11 R21 HB1 D1
 clear d
 clear D2
 obtain ⟨n, hn⟩ : ∃ n, n = ys.length := ⟨_, rfl⟩
 have HN : Hid (n = ys.length) := hn
 have hn5 : n ≤ 5 := by omega
 have HOn : Hid (LOwn v2 v1.heap.size (.slice la n lc) ys) := by show LOwn _ _ _ _; rw [hn]; exact HO.out
 rw [← hn]
 clear hn hyl
 by_cases hlt : n < 2
 ·have hlt' : (n : Int) < 2 := by omega
  clear HOn HO HD
  go_wp2_with fail
  refine (dPair len cap a hl _ (HR0.out.below HB2.out)).mono ?_
  rintro e v3 ⟨x, y, hx, hy, rfl, hox, hoy, hb⟩
  have HTX := hide hx
  have HTY := hide hy
  have hsv3 := hb.size
  have OX0 := hide hox
  have OY0 := hide hoy
  clear hx hy hox hoy
  have R13 : Hid (Bx v3 (w.heap.size) [.int .i64 0, .int .i64 0, .int .i64 0, .int .i64 0, .slice none 0 0, .slice none 0 0, .bool false, .string ⟨#[]⟩]) := R12.out.below hb
  have R23 : Hid (Bx v3 (w.heap.size + 1) [.int .i64 0, .int .i64 0, .int .i64 0, .int .i64 0, .slice none 0 0, .slice none 0 0, .bool false, .string ⟨#[]⟩]) := R22.out.below hb
  have HB3 : Hid (Below w.heap.size w v3) := HB2.out.trans (hb.mono HB2.out.size)
  clear R12 R22 HB2
  clear hb
  have q0_ := R13.out.c0
  have fq0 := R13.out.fz 0
  have q1_ := R13.out.c1
  have fq1 := R13.out.fz 1
  have q2_ := R13.out.c2
  have fq2 := R13.out.fz 2
  have q3_ := R13.out.c3
  have fq3 := R13.out.fz 3
  have q4_ := R13.out.c4
  have fq4 := R13.out.fz 4
  have q5_ := R13.out.c5
  have fq5 := R13.out.fz 5
  have q6_ := R13.out.c6
  have fq6 := R13.out.fz 6
  have q7_ := R13.out.c7
  have fq7 := R13.out.fz 7
  have p0_ := R23.out.c0
  have fp0 := R23.out.fz 0
  have p1_ := R23.out.c1
  have fp1 := R23.out.fz 1
  have p2_ := R23.out.c2
  have fp2 := R23.out.fz 2
  have p3_ := R23.out.c3
  have fp3 := R23.out.fz 3
  have p4_ := R23.out.c4
  have fp4 := R23.out.fz 4
  have p5_ := R23.out.c5
  have fp5 := R23.out.fz 5
  have p6_ := R23.out.c6
  have fp6 := R23.out.fz 6
  have p7_ := R23.out.c7
  have fp7 := R23.out.fz 7
  go_wp2
  clear q0_ fq0 p0_ fp0 q1_ fq1 p1_ fp1 q2_ fq2 p2_ fp2 q3_ fq3 p3_ fp3 q4_ fq4 p4_ fp4 q5_ fq5 p5_ fp5 q6_ fq6 p6_ fp6 q7_ fq7 p7_ fp7
  have R14 : Hid (Bx ((((((((v3.setCell ⟨w.heap.size, 0, none⟩ (.int .i64 x.t.id)).setCell ⟨w.heap.size, 1, none⟩ (.int .i64 x.t.st)).setCell ⟨w.heap.size, 2, none⟩ (.int .i64 x.t.snap)).setCell ⟨w.heap.size, 3, none⟩ (.int .i64 x.t.cs)).setCell ⟨w.heap.size, 4, none⟩ (.slice x.ra x.t.rs.length x.rc)).setCell ⟨w.heap.size, 5, none⟩ (.slice x.wa x.t.ws.length x.wc)).setCell ⟨w.heap.size, 6, none⟩ (.bool x.t.out)).setCell ⟨w.heap.size, 7, none⟩ (.string x.t.nm)) (w.heap.size) [.int .i64 x.t.id, .int .i64 x.t.st, .int .i64 x.t.snap, .int .i64 x.t.cs, .slice x.ra x.t.rs.length x.rc, .slice x.wa x.t.ws.length x.wc, .bool x.t.out, .string x.t.nm]) := R13.out.s8P (.int .i64 x.t.id) (.int .i64 x.t.st) (.int .i64 x.t.snap) (.int .i64 x.t.cs) (.slice x.ra x.t.rs.length x.rc) (.slice x.wa x.t.ws.length x.wc) (.bool x.t.out) (.string x.t.nm)
  have R24 : Hid (Bx ((((((((v3.setCell ⟨w.heap.size, 0, none⟩ (.int .i64 x.t.id)).setCell ⟨w.heap.size, 1, none⟩ (.int .i64 x.t.st)).setCell ⟨w.heap.size, 2, none⟩ (.int .i64 x.t.snap)).setCell ⟨w.heap.size, 3, none⟩ (.int .i64 x.t.cs)).setCell ⟨w.heap.size, 4, none⟩ (.slice x.ra x.t.rs.length x.rc)).setCell ⟨w.heap.size, 5, none⟩ (.slice x.wa x.t.ws.length x.wc)).setCell ⟨w.heap.size, 6, none⟩ (.bool x.t.out)).setCell ⟨w.heap.size, 7, none⟩ (.string x.t.nm)) (w.heap.size + 1) [.int .i64 0, .int .i64 0, .int .i64 0, .int .i64 0, .slice none 0 0, .slice none 0 0, .bool false, .string ⟨#[]⟩]) := R23.out.o8P (ob := w.heap.size) (by omega) (.int .i64 x.t.id) (.int .i64 x.t.st) (.int .i64 x.t.snap) (.int .i64 x.t.cs) (.slice x.ra x.t.rs.length x.rc) (.slice x.wa x.t.ws.length x.wc) (.bool x.t.out) (.string x.t.nm)
  have HB4 : Hid (Below w.heap.size w ((((((((v3.setCell ⟨w.heap.size, 0, none⟩ (.int .i64 x.t.id)).setCell ⟨w.heap.size, 1, none⟩ (.int .i64 x.t.st)).setCell ⟨w.heap.size, 2, none⟩ (.int .i64 x.t.snap)).setCell ⟨w.heap.size, 3, none⟩ (.int .i64 x.t.cs)).setCell ⟨w.heap.size, 4, none⟩ (.slice x.ra x.t.rs.length x.rc)).setCell ⟨w.heap.size, 5, none⟩ (.slice x.wa x.t.ws.length x.wc)).setCell ⟨w.heap.size, 6, none⟩ (.bool x.t.out)).setCell ⟨w.heap.size, 7, none⟩ (.string x.t.nm))) := below_s8P HB3.out (ob := w.heap.size) (by omega) (.int .i64 x.t.id) (.int .i64 x.t.st) (.int .i64 x.t.snap) (.int .i64 x.t.cs) (.slice x.ra x.t.rs.length x.rc) (.slice x.wa x.t.ws.length x.wc) (.bool x.t.out) (.string x.t.nm)
  have OX4 : Hid (TOwn ((((((((v3.setCell ⟨w.heap.size, 0, none⟩ (.int .i64 x.t.id)).setCell ⟨w.heap.size, 1, none⟩ (.int .i64 x.t.st)).setCell ⟨w.heap.size, 2, none⟩ (.int .i64 x.t.snap)).setCell ⟨w.heap.size, 3, none⟩ (.int .i64 x.t.cs)).setCell ⟨w.heap.size, 4, none⟩ (.slice x.ra x.t.rs.length x.rc)).setCell ⟨w.heap.size, 5, none⟩ (.slice x.wa x.t.ws.length x.wc)).setCell ⟨w.heap.size, 6, none⟩ (.bool x.t.out)).setCell ⟨w.heap.size, 7, none⟩ (.string x.t.nm)) (v2.heap.size) x) := ⟨own_s8P OX0.out.r (ob := w.heap.size) (by omega) (.int .i64 x.t.id) (.int .i64 x.t.st) (.int .i64 x.t.snap) (.int .i64 x.t.cs) (.slice x.ra x.t.rs.length x.rc) (.slice x.wa x.t.ws.length x.wc) (.bool x.t.out) (.string x.t.nm), own_s8P OX0.out.w (ob := w.heap.size) (by omega) (.int .i64 x.t.id) (.int .i64 x.t.st) (.int .i64 x.t.snap) (.int .i64 x.t.cs) (.slice x.ra x.t.rs.length x.rc) (.slice x.wa x.t.ws.length x.wc) (.bool x.t.out) (.string x.t.nm)⟩
  have OY4 : Hid (TOwn ((((((((v3.setCell ⟨w.heap.size, 0, none⟩ (.int .i64 x.t.id)).setCell ⟨w.heap.size, 1, none⟩ (.int .i64 x.t.st)).setCell ⟨w.heap.size, 2, none⟩ (.int .i64 x.t.snap)).setCell ⟨w.heap.size, 3, none⟩ (.int .i64 x.t.cs)).setCell ⟨w.heap.size, 4, none⟩ (.slice x.ra x.t.rs.length x.rc)).setCell ⟨w.heap.size, 5, none⟩ (.slice x.wa x.t.ws.length x.wc)).setCell ⟨w.heap.size, 6, none⟩ (.bool x.t.out)).setCell ⟨w.heap.size, 7, none⟩ (.string x.t.nm)) (v2.heap.size) y) := ⟨own_s8P OY0.out.r (ob := w.heap.size) (by omega) (.int .i64 x.t.id) (.int .i64 x.t.st) (.int .i64 x.t.snap) (.int .i64 x.t.cs) (.slice x.ra x.t.rs.length x.rc) (.slice x.wa x.t.ws.length x.wc) (.bool x.t.out) (.string x.t.nm), own_s8P OY0.out.w (ob := w.heap.size) (by omega) (.int .i64 x.t.id) (.int .i64 x.t.st) (.int .i64 x.t.snap) (.int .i64 x.t.cs) (.slice x.ra x.t.rs.length x.rc) (.slice x.wa x.t.ws.length x.wc) (.bool x.t.out) (.string x.t.nm)⟩
  clear R13 R23 HB3 OX0 OY0
  have R15 : Hid (Bx ((((((((((((((((v3.setCell ⟨w.heap.size, 0, none⟩ (.int .i64 x.t.id)).setCell ⟨w.heap.size, 1, none⟩ (.int .i64 x.t.st)).setCell ⟨w.heap.size, 2, none⟩ (.int .i64 x.t.snap)).setCell ⟨w.heap.size, 3, none⟩ (.int .i64 x.t.cs)).setCell ⟨w.heap.size, 4, none⟩ (.slice x.ra x.t.rs.length x.rc)).setCell ⟨w.heap.size, 5, none⟩ (.slice x.wa x.t.ws.length x.wc)).setCell ⟨w.heap.size, 6, none⟩ (.bool x.t.out)).setCell ⟨w.heap.size, 7, none⟩ (.string x.t.nm)).setCell ⟨(w.heap.size + 1), 0, none⟩ (.int .i64 y.t.id)).setCell ⟨(w.heap.size + 1), 1, none⟩ (.int .i64 y.t.st)).setCell ⟨(w.heap.size + 1), 2, none⟩ (.int .i64 y.t.snap)).setCell ⟨(w.heap.size + 1), 3, none⟩ (.int .i64 y.t.cs)).setCell ⟨(w.heap.size + 1), 4, none⟩ (.slice y.ra y.t.rs.length y.rc)).setCell ⟨(w.heap.size + 1), 5, none⟩ (.slice y.wa y.t.ws.length y.wc)).setCell ⟨(w.heap.size + 1), 6, none⟩ (.bool y.t.out)).setCell ⟨(w.heap.size + 1), 7, none⟩ (.string y.t.nm)) (w.heap.size) [.int .i64 x.t.id, .int .i64 x.t.st, .int .i64 x.t.snap, .int .i64 x.t.cs, .slice x.ra x.t.rs.length x.rc, .slice x.wa x.t.ws.length x.wc, .bool x.t.out, .string x.t.nm]) := R14.out.o8P (ob := (w.heap.size + 1)) (by omega) (.int .i64 y.t.id) (.int .i64 y.t.st) (.int .i64 y.t.snap) (.int .i64 y.t.cs) (.slice y.ra y.t.rs.length y.rc) (.slice y.wa y.t.ws.length y.wc) (.bool y.t.out) (.string y.t.nm)
  have R25 : Hid (Bx ((((((((((((((((v3.setCell ⟨w.heap.size, 0, none⟩ (.int .i64 x.t.id)).setCell ⟨w.heap.size, 1, none⟩ (.int .i64 x.t.st)).setCell ⟨w.heap.size, 2, none⟩ (.int .i64 x.t.snap)).setCell ⟨w.heap.size, 3, none⟩ (.int .i64 x.t.cs)).setCell ⟨w.heap.size, 4, none⟩ (.slice x.ra x.t.rs.length x.rc)).setCell ⟨w.heap.size, 5, none⟩ (.slice x.wa x.t.ws.length x.wc)).setCell ⟨w.heap.size, 6, none⟩ (.bool x.t.out)).setCell ⟨w.heap.size, 7, none⟩ (.string x.t.nm)).setCell ⟨(w.heap.size + 1), 0, none⟩ (.int .i64 y.t.id)).setCell ⟨(w.heap.size + 1), 1, none⟩ (.int .i64 y.t.st)).setCell ⟨(w.heap.size + 1), 2, none⟩ (.int .i64 y.t.snap)).setCell ⟨(w.heap.size + 1), 3, none⟩ (.int .i64 y.t.cs)).setCell ⟨(w.heap.size + 1), 4, none⟩ (.slice y.ra y.t.rs.length y.rc)).setCell ⟨(w.heap.size + 1), 5, none⟩ (.slice y.wa y.t.ws.length y.wc)).setCell ⟨(w.heap.size + 1), 6, none⟩ (.bool y.t.out)).setCell ⟨(w.heap.size + 1), 7, none⟩ (.string y.t.nm)) (w.heap.size + 1) [.int .i64 y.t.id, .int .i64 y.t.st, .int .i64 y.t.snap, .int .i64 y.t.cs, .slice y.ra y.t.rs.length y.rc, .slice y.wa y.t.ws.length y.wc, .bool y.t.out, .string y.t.nm]) := R24.out.s8P (.int .i64 y.t.id) (.int .i64 y.t.st) (.int .i64 y.t.snap) (.int .i64 y.t.cs) (.slice y.ra y.t.rs.length y.rc) (.slice y.wa y.t.ws.length y.wc) (.bool y.t.out) (.string y.t.nm)
  have HB5 : Hid (Below w.heap.size w ((((((((((((((((v3.setCell ⟨w.heap.size, 0, none⟩ (.int .i64 x.t.id)).setCell ⟨w.heap.size, 1, none⟩ (.int .i64 x.t.st)).setCell ⟨w.heap.size, 2, none⟩ (.int .i64 x.t.snap)).setCell ⟨w.heap.size, 3, none⟩ (.int .i64 x.t.cs)).setCell ⟨w.heap.size, 4, none⟩ (.slice x.ra x.t.rs.length x.rc)).setCell ⟨w.heap.size, 5, none⟩ (.slice x.wa x.t.ws.length x.wc)).setCell ⟨w.heap.size, 6, none⟩ (.bool x.t.out)).setCell ⟨w.heap.size, 7, none⟩ (.string x.t.nm)).setCell ⟨(w.heap.size + 1), 0, none⟩ (.int .i64 y.t.id)).setCell ⟨(w.heap.size + 1), 1, none⟩ (.int .i64 y.t.st)).setCell ⟨(w.heap.size + 1), 2, none⟩ (.int .i64 y.t.snap)).setCell ⟨(w.heap.size + 1), 3, none⟩ (.int .i64 y.t.cs)).setCell ⟨(w.heap.size + 1), 4, none⟩ (.slice y.ra y.t.rs.length y.rc)).setCell ⟨(w.heap.size + 1), 5, none⟩ (.slice y.wa y.t.ws.length y.wc)).setCell ⟨(w.heap.size + 1), 6, none⟩ (.bool y.t.out)).setCell ⟨(w.heap.size + 1), 7, none⟩ (.string y.t.nm))) := below_s8P HB4.out (ob := (w.heap.size + 1)) (by omega) (.int .i64 y.t.id) (.int .i64 y.t.st) (.int .i64 y.t.snap) (.int .i64 y.t.cs) (.slice y.ra y.t.rs.length y.rc) (.slice y.wa y.t.ws.length y.wc) (.bool y.t.out) (.string y.t.nm)
  have OX5 : Hid (TOwn ((((((((((((((((v3.setCell ⟨w.heap.size, 0, none⟩ (.int .i64 x.t.id)).setCell ⟨w.heap.size, 1, none⟩ (.int .i64 x.t.st)).setCell ⟨w.heap.size, 2, none⟩ (.int .i64 x.t.snap)).setCell ⟨w.heap.size, 3, none⟩ (.int .i64 x.t.cs)).setCell ⟨w.heap.size, 4, none⟩ (.slice x.ra x.t.rs.length x.rc)).setCell ⟨w.heap.size, 5, none⟩ (.slice x.wa x.t.ws.length x.wc)).setCell ⟨w.heap.size, 6, none⟩ (.bool x.t.out)).setCell ⟨w.heap.size, 7, none⟩ (.string x.t.nm)).setCell ⟨(w.heap.size + 1), 0, none⟩ (.int .i64 y.t.id)).setCell ⟨(w.heap.size + 1), 1, none⟩ (.int .i64 y.t.st)).setCell ⟨(w.heap.size + 1), 2, none⟩ (.int .i64 y.t.snap)).setCell ⟨(w.heap.size + 1), 3, none⟩ (.int .i64 y.t.cs)).setCell ⟨(w.heap.size + 1), 4, none⟩ (.slice y.ra y.t.rs.length y.rc)).setCell ⟨(w.heap.size + 1), 5, none⟩ (.slice y.wa y.t.ws.length y.wc)).setCell ⟨(w.heap.size + 1), 6, none⟩ (.bool y.t.out)).setCell ⟨(w.heap.size + 1), 7, none⟩ (.string y.t.nm)) (v2.heap.size) x) := ⟨own_s8P OX4.out.r (ob := (w.heap.size + 1)) (by omega) (.int .i64 y.t.id) (.int .i64 y.t.st) (.int .i64 y.t.snap) (.int .i64 y.t.cs) (.slice y.ra y.t.rs.length y.rc) (.slice y.wa y.t.ws.length y.wc) (.bool y.t.out) (.string y.t.nm), own_s8P OX4.out.w (ob := (w.heap.size + 1)) (by omega) (.int .i64 y.t.id) (.int .i64 y.t.st) (.int .i64 y.t.snap) (.int .i64 y.t.cs) (.slice y.ra y.t.rs.length y.rc) (.slice y.wa y.t.ws.length y.wc) (.bool y.t.out) (.string y.t.nm)⟩
  have OY5 : Hid (TOwn ((((((((((((((((v3.setCell ⟨w.heap.size, 0, none⟩ (.int .i64 x.t.id)).setCell ⟨w.heap.size, 1, none⟩ (.int .i64 x.t.st)).setCell ⟨w.heap.size, 2, none⟩ (.int .i64 x.t.snap)).setCell ⟨w.heap.size, 3, none⟩ (.int .i64 x.t.cs)).setCell ⟨w.heap.size, 4, none⟩ (.slice x.ra x.t.rs.length x.rc)).setCell ⟨w.heap.size, 5, none⟩ (.slice x.wa x.t.ws.length x.wc)).setCell ⟨w.heap.size, 6, none⟩ (.bool x.t.out)).setCell ⟨w.heap.size, 7, none⟩ (.string x.t.nm)).setCell ⟨(w.heap.size + 1), 0, none⟩ (.int .i64 y.t.id)).setCell ⟨(w.heap.size + 1), 1, none⟩ (.int .i64 y.t.st)).setCell ⟨(w.heap.size + 1), 2, none⟩ (.int .i64 y.t.snap)).setCell ⟨(w.heap.size + 1), 3, none⟩ (.int .i64 y.t.cs)).setCell ⟨(w.heap.size + 1), 4, none⟩ (.slice y.ra y.t.rs.length y.rc)).setCell ⟨(w.heap.size + 1), 5, none⟩ (.slice y.wa y.t.ws.length y.wc)).setCell ⟨(w.heap.size + 1), 6, none⟩ (.bool y.t.out)).setCell ⟨(w.heap.size + 1), 7, none⟩ (.string y.t.nm)) (v2.heap.size) y) := ⟨own_s8P OY4.out.r (ob := (w.heap.size + 1)) (by omega) (.int .i64 y.t.id) (.int .i64 y.t.st) (.int .i64 y.t.snap) (.int .i64 y.t.cs) (.slice y.ra y.t.rs.length y.rc) (.slice y.wa y.t.ws.length y.wc) (.bool y.t.out) (.string y.t.nm), own_s8P OY4.out.w (ob := (w.heap.size + 1)) (by omega) (.int .i64 y.t.id) (.int .i64 y.t.st) (.int .i64 y.t.snap) (.int .i64 y.t.cs) (.slice y.ra y.t.rs.length y.rc) (.slice y.wa y.t.ws.length y.wc) (.bool y.t.out) (.string y.t.nm)⟩
  clear R14 R24 HB4 OX4 OY4
  generalize ((((((((((((((((v3.setCell ⟨w.heap.size, 0, none⟩ (.int .i64 x.t.id)).setCell ⟨w.heap.size, 1, none⟩ (.int .i64 x.t.st)).setCell ⟨w.heap.size, 2, none⟩ (.int .i64 x.t.snap)).setCell ⟨w.heap.size, 3, none⟩ (.int .i64 x.t.cs)).setCell ⟨w.heap.size, 4, none⟩ (.slice x.ra x.t.rs.length x.rc)).setCell ⟨w.heap.size, 5, none⟩ (.slice x.wa x.t.ws.length x.wc)).setCell ⟨w.heap.size, 6, none⟩ (.bool x.t.out)).setCell ⟨w.heap.size, 7, none⟩ (.string x.t.nm)).setCell ⟨(w.heap.size + 1), 0, none⟩ (.int .i64 y.t.id)).setCell ⟨(w.heap.size + 1), 1, none⟩ (.int .i64 y.t.st)).setCell ⟨(w.heap.size + 1), 2, none⟩ (.int .i64 y.t.snap)).setCell ⟨(w.heap.size + 1), 3, none⟩ (.int .i64 y.t.cs)).setCell ⟨(w.heap.size + 1), 4, none⟩ (.slice y.ra y.t.rs.length y.rc)).setCell ⟨(w.heap.size + 1), 5, none⟩ (.slice y.wa y.t.ws.length y.wc)).setCell ⟨(w.heap.size + 1), 6, none⟩ (.bool y.t.out)).setCell ⟨(w.heap.size + 1), 7, none⟩ (.string y.t.nm)) = v9 at *
  have q0_ := R15.out.c0
  have fq0 := R15.out.fz 0
  have q1_ := R15.out.c1
  have fq1 := R15.out.fz 1
  have q2_ := R15.out.c2
  have fq2 := R15.out.fz 2
  have q3_ := R15.out.c3
  have fq3 := R15.out.fz 3
  have q4_ := R15.out.c4
  have fq4 := R15.out.fz 4
  have q5_ := R15.out.c5
  have fq5 := R15.out.fz 5
  have q6_ := R15.out.c6
  have fq6 := R15.out.fz 6
  have q7_ := R15.out.c7
  have fq7 := R15.out.fz 7
  have p0_ := R25.out.c0
  have fp0 := R25.out.fz 0
  have p1_ := R25.out.c1
  have fp1 := R25.out.fz 1
  have p2_ := R25.out.c2
  have fp2 := R25.out.fz 2
  have p3_ := R25.out.c3
  have fp3 := R25.out.fz 3
  have p4_ := R25.out.c4
  have fp4 := R25.out.fz 4
  have p5_ := R25.out.c5
  have fp5 := R25.out.fz 5
  have p6_ := R25.out.c6
  have fp6 := R25.out.fz 6
  have p7_ := R25.out.c7
  have fp7 := R25.out.fz 7
  exact bodyPost_ret (v := .tuple #[.agg #[.int .i64 x.t.id, .int .i64 x.t.st, .int .i64 x.t.snap, .int .i64 x.t.cs, .slice x.ra x.t.rs.length x.rc, .slice x.wa x.t.ws.length x.wc, .bool x.t.out, .string x.t.nm], .agg #[.int .i64 y.t.id, .int .i64 y.t.st, .int .i64 y.t.snap, .int .i64 y.t.cs, .slice y.ra y.t.rs.length y.rc, .slice y.wa y.t.ws.length y.wc, .bool y.t.out, .string y.t.nm]]) (by simp [results, Tryz.results9, go_sem, q0_, q1_, q2_, q3_, q4_, q5_, q6_, q7_, p0_, p1_, p2_, p3_, p4_, p5_, p6_, p7_]) rfl ⟨x, y, HTX.out, HTY.out, rfl, OX5.out.mono (by omega), OY5.out.mono (by omega), HB5.out⟩
 ·have hlt' : ¬ (n : Int) < 2 := by omega
  have h0y : 0 < ys.length := by rw [← HN.out]; omega
  have hly : n - 1 < ys.length := by rw [← HN.out]; omega
  obtain ⟨m, hm⟩ : ∃ m, m = n - 1 := ⟨_, rfl⟩
  rw [← hm] at hly
  have e1 : IntKind.i64.wrap ((n : Int) - 1) = (m : Int) := by rw [IntKind.wrap_i64]; omega
  have e2 : (n : Int) - 1 = (m : Int) := by omega
  have e3 : IntKind.i64.wrap (m : Int) = (m : Int) := by rw [IntKind.wrap_i64]; omega
  have hmn : (m : Int) < (n : Int) := by omega
  have hm0 : (0 : Int) ≤ (m : Int) := by omega
  have hn0 : (0 : Int) < (n : Int) := by omega
  have hn0N : 0 < n := by omega
  have HLR : Hid (TRows v2 la ys) := by have h := HOn.out; show TRows _ _ _; rw [HN.out] at h; exact h.rows
  obtain ⟨b2, o2, rfl, hbl2, hcx, -⟩ := HLR.out.cls 0 h0y
  obtain ⟨b9, o9, e9, hbl9, hcy, -⟩ := HLR.out.cls m hly
  cases e9
  have hb2w : w.heap.size + 1 < b2 := by
   have h := (World.ownsRow.lt HOn.out.row b2 rfl).1
   omega
  have HX : Hid (DoneD ys[0].t) := by have h := (HD.out.each _ (List.getElem_mem (by rw [txs_len]; exact h0y : 0 < (txs ys).length))).1; show DoneD _; simpa [txs] using h
  have HY : Hid (DoneD ys[m].t) := by have h := (HD.out.each _ (List.getElem_mem (by rw [txs_len]; exact hly : m < (txs ys).length))).1; show DoneD _; simpa [txs] using h
  have OX0 : Hid (TOwn v2 v1.heap.size ys[0]) := HOn.out.each _ (List.getElem_mem h0y)
  have OY0 : Hid (TOwn v2 v1.heap.size ys[m]) := HOn.out.each _ (List.getElem_mem hly)
  obtain ⟨x, hx⟩ : ∃ x, x = ys[0] := ⟨_, rfl⟩
  obtain ⟨y, hy⟩ : ∃ y, y = ys[m] := ⟨_, rfl⟩
  rw [← hx] at hcx HX OX0
  rw [← hy] at hcy HY OY0
  have hlo : ∀ i, i < 8 → v2.cell? ⟨b2, o2 + i, none⟩ = v2.cell? ⟨b2, o2 + 0 * 8 + i, none⟩ := fun i _ => by rw [Nat.zero_mul, Nat.add_zero]
  have hmnN : m < n := by omega
  clear hx hy hbl9 HLR HOn HO HD h0y hly hm
  have r0 := hcx.c0
  have r1 := hcx.c1
  have r2 := hcx.c2
  have r3 := hcx.c3
  have r4 := hcx.c4
  have r5 := hcx.c5
  have r6 := hcx.c6
  have r7 := hcx.c7
  have s0 := hcy.c0
  have s1 := hcy.c1
  have s2 := hcy.c2
  have s3 := hcy.c3
  have s4 := hcy.c4
  have s5 := hcy.c5
  have s6 := hcy.c6
  have s7 := hcy.c7
  clear hcx hcy hlo
  simp only [Nat.zero_mul, Nat.add_zero] at r0 r1 r2 r3 r4 r5 r6 r7
  have HC0 : Hid (v2.cell? ⟨b2, o2, none⟩ = some (.int .i64 x.t.id) ∧ v2.cell? ⟨b2, o2 + 1, none⟩ = some (.int .i64 x.t.st) ∧ v2.cell? ⟨b2, o2 + 2, none⟩ = some (.int .i64 x.t.snap) ∧ v2.cell? ⟨b2, o2 + 3, none⟩ = some (.int .i64 x.t.cs) ∧ v2.cell? ⟨b2, o2 + 4, none⟩ = some (.slice x.ra x.t.rs.length x.rc) ∧ v2.cell? ⟨b2, o2 + 5, none⟩ = some (.slice x.wa x.t.ws.length x.wc) ∧ v2.cell? ⟨b2, o2 + 6, none⟩ = some (.bool x.t.out) ∧ v2.cell? ⟨b2, o2 + 7, none⟩ = some (.string x.t.nm) ∧ v2.cell? ⟨b2, o2 + m * 8, none⟩ = some (.int .i64 y.t.id) ∧ v2.cell? ⟨b2, o2 + m * 8 + 1, none⟩ = some (.int .i64 y.t.st) ∧ v2.cell? ⟨b2, o2 + m * 8 + 2, none⟩ = some (.int .i64 y.t.snap) ∧ v2.cell? ⟨b2, o2 + m * 8 + 3, none⟩ = some (.int .i64 y.t.cs) ∧ v2.cell? ⟨b2, o2 + m * 8 + 4, none⟩ = some (.slice y.ra y.t.rs.length y.rc) ∧ v2.cell? ⟨b2, o2 + m * 8 + 5, none⟩ = some (.slice y.wa y.t.ws.length y.wc) ∧ v2.cell? ⟨b2, o2 + m * 8 + 6, none⟩ = some (.bool y.t.out) ∧ v2.cell? ⟨b2, o2 + m * 8 + 7, none⟩ = some (.string y.t.nm)) := ⟨r0, r1, r2, r3, r4, r5, r6, r7, s0, s1, s2, s3, s4, s5, s6, s7⟩
  go_wp2
  refine wp_region_held_drew (S := fun w' => w'.cell? ⟨b2, o2, none⟩ = some (.int .i64 x.t.id) ∧ w'.cell? ⟨b2, o2 + 1, none⟩ = some (.int .i64 x.t.st) ∧ w'.cell? ⟨b2, o2 + 2, none⟩ = some (.int .i64 x.t.snap) ∧ w'.cell? ⟨b2, o2 + 3, none⟩ = some (.int .i64 x.t.cs) ∧ w'.cell? ⟨b2, o2 + 4, none⟩ = some (.slice x.ra x.t.rs.length x.rc) ∧ w'.cell? ⟨b2, o2 + 5, none⟩ = some (.slice x.wa x.t.ws.length x.wc) ∧ w'.cell? ⟨b2, o2 + 6, none⟩ = some (.bool x.t.out) ∧ w'.cell? ⟨b2, o2 + 7, none⟩ = some (.string x.t.nm) ∧ w'.cell? ⟨b2, o2 + m * 8, none⟩ = some (.int .i64 y.t.id) ∧ w'.cell? ⟨b2, o2 + m * 8 + 1, none⟩ = some (.int .i64 y.t.st) ∧ w'.cell? ⟨b2, o2 + m * 8 + 2, none⟩ = some (.int .i64 y.t.snap) ∧ w'.cell? ⟨b2, o2 + m * 8 + 3, none⟩ = some (.int .i64 y.t.cs) ∧ w'.cell? ⟨b2, o2 + m * 8 + 4, none⟩ = some (.slice y.ra y.t.rs.length y.rc) ∧ w'.cell? ⟨b2, o2 + m * 8 + 5, none⟩ = some (.slice y.wa y.t.ws.length y.wc) ∧ w'.cell? ⟨b2, o2 + m * 8 + 6, none⟩ = some (.bool y.t.out) ∧ w'.cell? ⟨b2, o2 + m * 8 + 7, none⟩ = some (.string y.t.nm)) (by kernel_rfl) HC0.out (fun hHeld => ?_)
  (refine tk 0 ?_ rfl (Or.inl ⟨by rfl, ?_⟩) ?_; rotate_left; (focus (intro w h; (try dsimp only at h); go_simp; (try with_reducible rfl))); simp only [Act.put, tA, tB, tD, tE, tF])
  (refine tk 1 ?_ rfl (Or.inl ⟨by rfl, ?_⟩) ?_; rotate_left; (focus (intro w h; (try dsimp only at h); go_simp; (try with_reducible rfl))); simp only [Act.put, tA, tB, tC, tD, tE, tF])
  (refine tk 2 ?_ rfl (Or.inl ⟨by rfl, ?_⟩) ?_; rotate_left; (focus (intro w h; (try dsimp only at h); go_simp; (try with_reducible rfl))); simp only [Act.put, tA, tB, tC, tD, tE, tF])
  (refine tk 3 ?_ rfl (Or.inl ⟨by rfl, ?_⟩) ?_; rotate_left; (focus (intro w h; (try dsimp only at h); go_simp; (try with_reducible rfl))); simp only [Act.put, tA, tB, tC, tD, tE, tF])
  (refine tk 4 ?_ rfl (Or.inl ⟨by rfl, ?_⟩) ?_; rotate_left; (focus (intro w h; (try dsimp only at h); go_simp; (try with_reducible rfl))); simp only [Act.put, tA, tB, tC, tD, tE, tF])
  (refine tk 5 ?_ rfl (Or.inl ⟨by rfl, ?_⟩) ?_; rotate_left; (focus (intro w h; (try dsimp only at h); go_simp; (try with_reducible rfl))); simp only [Act.put, tA, tB, tC, tD, tE, tF])
  (refine tk 6 ?_ rfl (Or.inl ⟨by rfl, ?_⟩) ?_; rotate_left; (focus (intro w h; (try dsimp only at h); go_simp; (try with_reducible rfl))); simp only [Act.put, tA, tB, tC, tD, tE, tF])
  (refine tk 7 ?_ rfl (Or.inl ⟨by rfl, ?_⟩) ?_; rotate_left; (focus (intro w h; (try dsimp only at h); go_simp; (try with_reducible rfl))); simp only [Act.put, tA, tB, tC, tD, tE, tF])
  (refine tk 8 ?_ rfl (Or.inl ⟨by rfl, ?_⟩) ?_; rotate_left; (focus (intro w h; (try dsimp only at h); go_simp; (try with_reducible rfl))); simp only [Act.put, tA, tB, tC, tD, tE, tF])
  have R13 : Hid (Bx v2.drew (w.heap.size) [.int .i64 0, .int .i64 0, .int .i64 0, .int .i64 0, .slice none 0 0, .slice none 0 0, .bool false, .string ⟨#[]⟩]) := R12.out.below (belowRefl v2).drew
  have R23 : Hid (Bx v2.drew (w.heap.size + 1) [.int .i64 0, .int .i64 0, .int .i64 0, .int .i64 0, .slice none 0 0, .slice none 0 0, .bool false, .string ⟨#[]⟩]) := R22.out.below (belowRefl v2).drew
  have HB3 : Hid (Below w.heap.size w v2.drew) := HB2.out.trans ((belowRefl v2).drew.mono HB2.out.size)
  have OX3 : Hid (TOwn v2.drew (v1.heap.size) x) := OX0.out.below (belowRefl v2).drew
  have OY3 : Hid (TOwn v2.drew (v1.heap.size) y) := OY0.out.below (belowRefl v2).drew
  clear R12 R22 HB2 OX0 OY0
  have HC1 : Hid (v2.drew.cell? ⟨b2, o2, none⟩ = some (.int .i64 x.t.id) ∧ v2.drew.cell? ⟨b2, o2 + 1, none⟩ = some (.int .i64 x.t.st) ∧ v2.drew.cell? ⟨b2, o2 + 2, none⟩ = some (.int .i64 x.t.snap) ∧ v2.drew.cell? ⟨b2, o2 + 3, none⟩ = some (.int .i64 x.t.cs) ∧ v2.drew.cell? ⟨b2, o2 + 4, none⟩ = some (.slice x.ra x.t.rs.length x.rc) ∧ v2.drew.cell? ⟨b2, o2 + 5, none⟩ = some (.slice x.wa x.t.ws.length x.wc) ∧ v2.drew.cell? ⟨b2, o2 + 6, none⟩ = some (.bool x.t.out) ∧ v2.drew.cell? ⟨b2, o2 + 7, none⟩ = some (.string x.t.nm) ∧ v2.drew.cell? ⟨b2, o2 + m * 8, none⟩ = some (.int .i64 y.t.id) ∧ v2.drew.cell? ⟨b2, o2 + m * 8 + 1, none⟩ = some (.int .i64 y.t.st) ∧ v2.drew.cell? ⟨b2, o2 + m * 8 + 2, none⟩ = some (.int .i64 y.t.snap) ∧ v2.drew.cell? ⟨b2, o2 + m * 8 + 3, none⟩ = some (.int .i64 y.t.cs) ∧ v2.drew.cell? ⟨b2, o2 + m * 8 + 4, none⟩ = some (.slice y.ra y.t.rs.length y.rc) ∧ v2.drew.cell? ⟨b2, o2 + m * 8 + 5, none⟩ = some (.slice y.wa y.t.ws.length y.wc) ∧ v2.drew.cell? ⟨b2, o2 + m * 8 + 6, none⟩ = some (.bool y.t.out) ∧ v2.drew.cell? ⟨b2, o2 + m * 8 + 7, none⟩ = some (.string y.t.nm)) := ⟨r0, r1, r2, r3, r4, r5, r6, r7, s0, s1, s2, s3, s4, s5, s6, s7⟩
  clear HC0 r0 r1 r2 r3 r4 r5 r6 r7 s0 s1 s2 s3 s4 s5 s6 s7 hHeld
  have hd6 : v2.heap.size ≤ v2.drew.heap.size := Nat.le_refl _
  generalize v2.drew = v4 at *
  have q0_ := R13.out.c0
  have fq0 := R13.out.fz 0
  have q1_ := R13.out.c1
  have fq1 := R13.out.fz 1
  have q2_ := R13.out.c2
  have fq2 := R13.out.fz 2
  have q3_ := R13.out.c3
  have fq3 := R13.out.fz 3
  have q4_ := R13.out.c4
  have fq4 := R13.out.fz 4
  have q5_ := R13.out.c5
  have fq5 := R13.out.fz 5
  have q6_ := R13.out.c6
  have fq6 := R13.out.fz 6
  have q7_ := R13.out.c7
  have fq7 := R13.out.fz 7
  refine wpAnyH_ready (rs := [9]) (by kernel_rfl) (by simp) ?_
  refine AllReadyH.cons rfl (fun K hK => ?_) AllReadyH.nil
  go_simp
  clear q0_ fq0 q1_ fq1 q2_ fq2 q3_ fq3 q4_ fq4 q5_ fq5 q6_ fq6 q7_ fq7
  have HC2 : Hid (((((((((v4.setCell ⟨w.heap.size, 0, none⟩ (.int .i64 x.t.id)).setCell ⟨w.heap.size, 1, none⟩ (.int .i64 x.t.st)).setCell ⟨w.heap.size, 2, none⟩ (.int .i64 x.t.snap)).setCell ⟨w.heap.size, 3, none⟩ (.int .i64 x.t.cs)).setCell ⟨w.heap.size, 4, none⟩ (.slice x.ra x.t.rs.length x.rc)).setCell ⟨w.heap.size, 5, none⟩ (.slice x.wa x.t.ws.length x.wc)).setCell ⟨w.heap.size, 6, none⟩ (.bool x.t.out)).setCell ⟨w.heap.size, 7, none⟩ (.string x.t.nm)).cell? ⟨b2, o2, none⟩ = some (.int .i64 x.t.id) ∧ ((((((((v4.setCell ⟨w.heap.size, 0, none⟩ (.int .i64 x.t.id)).setCell ⟨w.heap.size, 1, none⟩ (.int .i64 x.t.st)).setCell ⟨w.heap.size, 2, none⟩ (.int .i64 x.t.snap)).setCell ⟨w.heap.size, 3, none⟩ (.int .i64 x.t.cs)).setCell ⟨w.heap.size, 4, none⟩ (.slice x.ra x.t.rs.length x.rc)).setCell ⟨w.heap.size, 5, none⟩ (.slice x.wa x.t.ws.length x.wc)).setCell ⟨w.heap.size, 6, none⟩ (.bool x.t.out)).setCell ⟨w.heap.size, 7, none⟩ (.string x.t.nm)).cell? ⟨b2, o2 + 1, none⟩ = some (.int .i64 x.t.st) ∧ ((((((((v4.setCell ⟨w.heap.size, 0, none⟩ (.int .i64 x.t.id)).setCell ⟨w.heap.size, 1, none⟩ (.int .i64 x.t.st)).setCell ⟨w.heap.size, 2, none⟩ (.int .i64 x.t.snap)).setCell ⟨w.heap.size, 3, none⟩ (.int .i64 x.t.cs)).setCell ⟨w.heap.size, 4, none⟩ (.slice x.ra x.t.rs.length x.rc)).setCell ⟨w.heap.size, 5, none⟩ (.slice x.wa x.t.ws.length x.wc)).setCell ⟨w.heap.size, 6, none⟩ (.bool x.t.out)).setCell ⟨w.heap.size, 7, none⟩ (.string x.t.nm)).cell? ⟨b2, o2 + 2, none⟩ = some (.int .i64 x.t.snap) ∧ ((((((((v4.setCell ⟨w.heap.size, 0, none⟩ (.int .i64 x.t.id)).setCell ⟨w.heap.size, 1, none⟩ (.int .i64 x.t.st)).setCell ⟨w.heap.size, 2, none⟩ (.int .i64 x.t.snap)).setCell ⟨w.heap.size, 3, none⟩ (.int .i64 x.t.cs)).setCell ⟨w.heap.size, 4, none⟩ (.slice x.ra x.t.rs.length x.rc)).setCell ⟨w.heap.size, 5, none⟩ (.slice x.wa x.t.ws.length x.wc)).setCell ⟨w.heap.size, 6, none⟩ (.bool x.t.out)).setCell ⟨w.heap.size, 7, none⟩ (.string x.t.nm)).cell? ⟨b2, o2 + 3, none⟩ = some (.int .i64 x.t.cs) ∧ ((((((((v4.setCell ⟨w.heap.size, 0, none⟩ (.int .i64 x.t.id)).setCell ⟨w.heap.size, 1, none⟩ (.int .i64 x.t.st)).setCell ⟨w.heap.size, 2, none⟩ (.int .i64 x.t.snap)).setCell ⟨w.heap.size, 3, none⟩ (.int .i64 x.t.cs)).setCell ⟨w.heap.size, 4, none⟩ (.slice x.ra x.t.rs.length x.rc)).setCell ⟨w.heap.size, 5, none⟩ (.slice x.wa x.t.ws.length x.wc)).setCell ⟨w.heap.size, 6, none⟩ (.bool x.t.out)).setCell ⟨w.heap.size, 7, none⟩ (.string x.t.nm)).cell? ⟨b2, o2 + 4, none⟩ = some (.slice x.ra x.t.rs.length x.rc) ∧ ((((((((v4.setCell ⟨w.heap.size, 0, none⟩ (.int .i64 x.t.id)).setCell ⟨w.heap.size, 1, none⟩ (.int .i64 x.t.st)).setCell ⟨w.heap.size, 2, none⟩ (.int .i64 x.t.snap)).setCell ⟨w.heap.size, 3, none⟩ (.int .i64 x.t.cs)).setCell ⟨w.heap.size, 4, none⟩ (.slice x.ra x.t.rs.length x.rc)).setCell ⟨w.heap.size, 5, none⟩ (.slice x.wa x.t.ws.length x.wc)).setCell ⟨w.heap.size, 6, none⟩ (.bool x.t.out)).setCell ⟨w.heap.size, 7, none⟩ (.string x.t.nm)).cell? ⟨b2, o2 + 5, none⟩ = some (.slice x.wa x.t.ws.length x.wc) ∧ ((((((((v4.setCell ⟨w.heap.size, 0, none⟩ (.int .i64 x.t.id)).setCell ⟨w.heap.size, 1, none⟩ (.int .i64 x.t.st)).setCell ⟨w.heap.size, 2, none⟩ (.int .i64 x.t.snap)).setCell ⟨w.heap.size, 3, none⟩ (.int .i64 x.t.cs)).setCell ⟨w.heap.size, 4, none⟩ (.slice x.ra x.t.rs.length x.rc)).setCell ⟨w.heap.size, 5, none⟩ (.slice x.wa x.t.ws.length x.wc)).setCell ⟨w.heap.size, 6, none⟩ (.bool x.t.out)).setCell ⟨w.heap.size, 7, none⟩ (.string x.t.nm)).cell? ⟨b2, o2 + 6, none⟩ = some (.bool x.t.out) ∧ ((((((((v4.setCell ⟨w.heap.size, 0, none⟩ (.int .i64 x.t.id)).setCell ⟨w.heap.size, 1, none⟩ (.int .i64 x.t.st)).setCell ⟨w.heap.size, 2, none⟩ (.int .i64 x.t.snap)).setCell ⟨w.heap.size, 3, none⟩ (.int .i64 x.t.cs)).setCell ⟨w.heap.size, 4, none⟩ (.slice x.ra x.t.rs.length x.rc)).setCell ⟨w.heap.size, 5, none⟩ (.slice x.wa x.t.ws.length x.wc)).setCell ⟨w.heap.size, 6, none⟩ (.bool x.t.out)).setCell ⟨w.heap.size, 7, none⟩ (.string x.t.nm)).cell? ⟨b2, o2 + 7, none⟩ = some (.string x.t.nm) ∧ ((((((((v4.setCell ⟨w.heap.size, 0, none⟩ (.int .i64 x.t.id)).setCell ⟨w.heap.size, 1, none⟩ (.int .i64 x.t.st)).setCell ⟨w.heap.size, 2, none⟩ (.int .i64 x.t.snap)).setCell ⟨w.heap.size, 3, none⟩ (.int .i64 x.t.cs)).setCell ⟨w.heap.size, 4, none⟩ (.slice x.ra x.t.rs.length x.rc)).setCell ⟨w.heap.size, 5, none⟩ (.slice x.wa x.t.ws.length x.wc)).setCell ⟨w.heap.size, 6, none⟩ (.bool x.t.out)).setCell ⟨w.heap.size, 7, none⟩ (.string x.t.nm)).cell? ⟨b2, o2 + m * 8, none⟩ = some (.int .i64 y.t.id) ∧ ((((((((v4.setCell ⟨w.heap.size, 0, none⟩ (.int .i64 x.t.id)).setCell ⟨w.heap.size, 1, none⟩ (.int .i64 x.t.st)).setCell ⟨w.heap.size, 2, none⟩ (.int .i64 x.t.snap)).setCell ⟨w.heap.size, 3, none⟩ (.int .i64 x.t.cs)).setCell ⟨w.heap.size, 4, none⟩ (.slice x.ra x.t.rs.length x.rc)).setCell ⟨w.heap.size, 5, none⟩ (.slice x.wa x.t.ws.length x.wc)).setCell ⟨w.heap.size, 6, none⟩ (.bool x.t.out)).setCell ⟨w.heap.size, 7, none⟩ (.string x.t.nm)).cell? ⟨b2, o2 + m * 8 + 1, none⟩ = some (.int .i64 y.t.st) ∧ ((((((((v4.setCell ⟨w.heap.size, 0, none⟩ (.int .i64 x.t.id)).setCell ⟨w.heap.size, 1, none⟩ (.int .i64 x.t.st)).setCell ⟨w.heap.size, 2, none⟩ (.int .i64 x.t.snap)).setCell ⟨w.heap.size, 3, none⟩ (.int .i64 x.t.cs)).setCell ⟨w.heap.size, 4, none⟩ (.slice x.ra x.t.rs.length x.rc)).setCell ⟨w.heap.size, 5, none⟩ (.slice x.wa x.t.ws.length x.wc)).setCell ⟨w.heap.size, 6, none⟩ (.bool x.t.out)).setCell ⟨w.heap.size, 7, none⟩ (.string x.t.nm)).cell? ⟨b2, o2 + m * 8 + 2, none⟩ = some (.int .i64 y.t.snap) ∧ ((((((((v4.setCell ⟨w.heap.size, 0, none⟩ (.int .i64 x.t.id)).setCell ⟨w.heap.size, 1, none⟩ (.int .i64 x.t.st)).setCell ⟨w.heap.size, 2, none⟩ (.int .i64 x.t.snap)).setCell ⟨w.heap.size, 3, none⟩ (.int .i64 x.t.cs)).setCell ⟨w.heap.size, 4, none⟩ (.slice x.ra x.t.rs.length x.rc)).setCell ⟨w.heap.size, 5, none⟩ (.slice x.wa x.t.ws.length x.wc)).setCell ⟨w.heap.size, 6, none⟩ (.bool x.t.out)).setCell ⟨w.heap.size, 7, none⟩ (.string x.t.nm)).cell? ⟨b2, o2 + m * 8 + 3, none⟩ = some (.int .i64 y.t.cs) ∧ ((((((((v4.setCell ⟨w.heap.size, 0, none⟩ (.int .i64 x.t.id)).setCell ⟨w.heap.size, 1, none⟩ (.int .i64 x.t.st)).setCell ⟨w.heap.size, 2, none⟩ (.int .i64 x.t.snap)).setCell ⟨w.heap.size, 3, none⟩ (.int .i64 x.t.cs)).setCell ⟨w.heap.size, 4, none⟩ (.slice x.ra x.t.rs.length x.rc)).setCell ⟨w.heap.size, 5, none⟩ (.slice x.wa x.t.ws.length x.wc)).setCell ⟨w.heap.size, 6, none⟩ (.bool x.t.out)).setCell ⟨w.heap.size, 7, none⟩ (.string x.t.nm)).cell? ⟨b2, o2 + m * 8 + 4, none⟩ = some (.slice y.ra y.t.rs.length y.rc) ∧ ((((((((v4.setCell ⟨w.heap.size, 0, none⟩ (.int .i64 x.t.id)).setCell ⟨w.heap.size, 1, none⟩ (.int .i64 x.t.st)).setCell ⟨w.heap.size, 2, none⟩ (.int .i64 x.t.snap)).setCell ⟨w.heap.size, 3, none⟩ (.int .i64 x.t.cs)).setCell ⟨w.heap.size, 4, none⟩ (.slice x.ra x.t.rs.length x.rc)).setCell ⟨w.heap.size, 5, none⟩ (.slice x.wa x.t.ws.length x.wc)).setCell ⟨w.heap.size, 6, none⟩ (.bool x.t.out)).setCell ⟨w.heap.size, 7, none⟩ (.string x.t.nm)).cell? ⟨b2, o2 + m * 8 + 5, none⟩ = some (.slice y.wa y.t.ws.length y.wc) ∧ ((((((((v4.setCell ⟨w.heap.size, 0, none⟩ (.int .i64 x.t.id)).setCell ⟨w.heap.size, 1, none⟩ (.int .i64 x.t.st)).setCell ⟨w.heap.size, 2, none⟩ (.int .i64 x.t.snap)).setCell ⟨w.heap.size, 3, none⟩ (.int .i64 x.t.cs)).setCell ⟨w.heap.size, 4, none⟩ (.slice x.ra x.t.rs.length x.rc)).setCell ⟨w.heap.size, 5, none⟩ (.slice x.wa x.t.ws.length x.wc)).setCell ⟨w.heap.size, 6, none⟩ (.bool x.t.out)).setCell ⟨w.heap.size, 7, none⟩ (.string x.t.nm)).cell? ⟨b2, o2 + m * 8 + 6, none⟩ = some (.bool y.t.out) ∧ ((((((((v4.setCell ⟨w.heap.size, 0, none⟩ (.int .i64 x.t.id)).setCell ⟨w.heap.size, 1, none⟩ (.int .i64 x.t.st)).setCell ⟨w.heap.size, 2, none⟩ (.int .i64 x.t.snap)).setCell ⟨w.heap.size, 3, none⟩ (.int .i64 x.t.cs)).setCell ⟨w.heap.size, 4, none⟩ (.slice x.ra x.t.rs.length x.rc)).setCell ⟨w.heap.size, 5, none⟩ (.slice x.wa x.t.ws.length x.wc)).setCell ⟨w.heap.size, 6, none⟩ (.bool x.t.out)).setCell ⟨w.heap.size, 7, none⟩ (.string x.t.nm)).cell? ⟨b2, o2 + m * 8 + 7, none⟩ = some (.string y.t.nm)) := by
   have h := HC1.out
   have hne : b2 ≠ w.heap.size := by omega
   show _ ∧ _
   simp only [cell8P _ _ hne]
   exact h
  clear HC1
  have R14 : Hid (Bx ((((((((v4.setCell ⟨w.heap.size, 0, none⟩ (.int .i64 x.t.id)).setCell ⟨w.heap.size, 1, none⟩ (.int .i64 x.t.st)).setCell ⟨w.heap.size, 2, none⟩ (.int .i64 x.t.snap)).setCell ⟨w.heap.size, 3, none⟩ (.int .i64 x.t.cs)).setCell ⟨w.heap.size, 4, none⟩ (.slice x.ra x.t.rs.length x.rc)).setCell ⟨w.heap.size, 5, none⟩ (.slice x.wa x.t.ws.length x.wc)).setCell ⟨w.heap.size, 6, none⟩ (.bool x.t.out)).setCell ⟨w.heap.size, 7, none⟩ (.string x.t.nm)) (w.heap.size) [.int .i64 x.t.id, .int .i64 x.t.st, .int .i64 x.t.snap, .int .i64 x.t.cs, .slice x.ra x.t.rs.length x.rc, .slice x.wa x.t.ws.length x.wc, .bool x.t.out, .string x.t.nm]) := R13.out.s8P (.int .i64 x.t.id) (.int .i64 x.t.st) (.int .i64 x.t.snap) (.int .i64 x.t.cs) (.slice x.ra x.t.rs.length x.rc) (.slice x.wa x.t.ws.length x.wc) (.bool x.t.out) (.string x.t.nm)
  have R24 : Hid (Bx ((((((((v4.setCell ⟨w.heap.size, 0, none⟩ (.int .i64 x.t.id)).setCell ⟨w.heap.size, 1, none⟩ (.int .i64 x.t.st)).setCell ⟨w.heap.size, 2, none⟩ (.int .i64 x.t.snap)).setCell ⟨w.heap.size, 3, none⟩ (.int .i64 x.t.cs)).setCell ⟨w.heap.size, 4, none⟩ (.slice x.ra x.t.rs.length x.rc)).setCell ⟨w.heap.size, 5, none⟩ (.slice x.wa x.t.ws.length x.wc)).setCell ⟨w.heap.size, 6, none⟩ (.bool x.t.out)).setCell ⟨w.heap.size, 7, none⟩ (.string x.t.nm)) (w.heap.size + 1) [.int .i64 0, .int .i64 0, .int .i64 0, .int .i64 0, .slice none 0 0, .slice none 0 0, .bool false, .string ⟨#[]⟩]) := R23.out.o8P (ob := w.heap.size) (by omega) (.int .i64 x.t.id) (.int .i64 x.t.st) (.int .i64 x.t.snap) (.int .i64 x.t.cs) (.slice x.ra x.t.rs.length x.rc) (.slice x.wa x.t.ws.length x.wc) (.bool x.t.out) (.string x.t.nm)
  have HB4 : Hid (Below w.heap.size w ((((((((v4.setCell ⟨w.heap.size, 0, none⟩ (.int .i64 x.t.id)).setCell ⟨w.heap.size, 1, none⟩ (.int .i64 x.t.st)).setCell ⟨w.heap.size, 2, none⟩ (.int .i64 x.t.snap)).setCell ⟨w.heap.size, 3, none⟩ (.int .i64 x.t.cs)).setCell ⟨w.heap.size, 4, none⟩ (.slice x.ra x.t.rs.length x.rc)).setCell ⟨w.heap.size, 5, none⟩ (.slice x.wa x.t.ws.length x.wc)).setCell ⟨w.heap.size, 6, none⟩ (.bool x.t.out)).setCell ⟨w.heap.size, 7, none⟩ (.string x.t.nm))) := below_s8P HB3.out (ob := w.heap.size) (by omega) (.int .i64 x.t.id) (.int .i64 x.t.st) (.int .i64 x.t.snap) (.int .i64 x.t.cs) (.slice x.ra x.t.rs.length x.rc) (.slice x.wa x.t.ws.length x.wc) (.bool x.t.out) (.string x.t.nm)
  have OX4 : Hid (TOwn ((((((((v4.setCell ⟨w.heap.size, 0, none⟩ (.int .i64 x.t.id)).setCell ⟨w.heap.size, 1, none⟩ (.int .i64 x.t.st)).setCell ⟨w.heap.size, 2, none⟩ (.int .i64 x.t.snap)).setCell ⟨w.heap.size, 3, none⟩ (.int .i64 x.t.cs)).setCell ⟨w.heap.size, 4, none⟩ (.slice x.ra x.t.rs.length x.rc)).setCell ⟨w.heap.size, 5, none⟩ (.slice x.wa x.t.ws.length x.wc)).setCell ⟨w.heap.size, 6, none⟩ (.bool x.t.out)).setCell ⟨w.heap.size, 7, none⟩ (.string x.t.nm)) (v1.heap.size) x) := ⟨own_s8P OX3.out.r (ob := w.heap.size) (by omega) (.int .i64 x.t.id) (.int .i64 x.t.st) (.int .i64 x.t.snap) (.int .i64 x.t.cs) (.slice x.ra x.t.rs.length x.rc) (.slice x.wa x.t.ws.length x.wc) (.bool x.t.out) (.string x.t.nm), own_s8P OX3.out.w (ob := w.heap.size) (by omega) (.int .i64 x.t.id) (.int .i64 x.t.st) (.int .i64 x.t.snap) (.int .i64 x.t.cs) (.slice x.ra x.t.rs.length x.rc) (.slice x.wa x.t.ws.length x.wc) (.bool x.t.out) (.string x.t.nm)⟩
  have OY4 : Hid (TOwn ((((((((v4.setCell ⟨w.heap.size, 0, none⟩ (.int .i64 x.t.id)).setCell ⟨w.heap.size, 1, none⟩ (.int .i64 x.t.st)).setCell ⟨w.heap.size, 2, none⟩ (.int .i64 x.t.snap)).setCell ⟨w.heap.size, 3, none⟩ (.int .i64 x.t.cs)).setCell ⟨w.heap.size, 4, none⟩ (.slice x.ra x.t.rs.length x.rc)).setCell ⟨w.heap.size, 5, none⟩ (.slice x.wa x.t.ws.length x.wc)).setCell ⟨w.heap.size, 6, none⟩ (.bool x.t.out)).setCell ⟨w.heap.size, 7, none⟩ (.string x.t.nm)) (v1.heap.size) y) := ⟨own_s8P OY3.out.r (ob := w.heap.size) (by omega) (.int .i64 x.t.id) (.int .i64 x.t.st) (.int .i64 x.t.snap) (.int .i64 x.t.cs) (.slice x.ra x.t.rs.length x.rc) (.slice x.wa x.t.ws.length x.wc) (.bool x.t.out) (.string x.t.nm), own_s8P OY3.out.w (ob := w.heap.size) (by omega) (.int .i64 x.t.id) (.int .i64 x.t.st) (.int .i64 x.t.snap) (.int .i64 x.t.cs) (.slice x.ra x.t.rs.length x.rc) (.slice x.wa x.t.ws.length x.wc) (.bool x.t.out) (.string x.t.nm)⟩
  clear R13 R23 HB3 OX3 OY3
  generalize ((((((((v4.setCell ⟨w.heap.size, 0, none⟩ (.int .i64 x.t.id)).setCell ⟨w.heap.size, 1, none⟩ (.int .i64 x.t.st)).setCell ⟨w.heap.size, 2, none⟩ (.int .i64 x.t.snap)).setCell ⟨w.heap.size, 3, none⟩ (.int .i64 x.t.cs)).setCell ⟨w.heap.size, 4, none⟩ (.slice x.ra x.t.rs.length x.rc)).setCell ⟨w.heap.size, 5, none⟩ (.slice x.wa x.t.ws.length x.wc)).setCell ⟨w.heap.size, 6, none⟩ (.bool x.t.out)).setCell ⟨w.heap.size, 7, none⟩ (.string x.t.nm)) = v8 at *
  (try go_wp2_with fail)
  refine hK.out _ _ HC2.out (fun hHeld => ?_)
  clear hK K hHeld
  have q0_ := R24.out.c0
  have fq0 := R24.out.fz 0
  have q1_ := R24.out.c1
  have fq1 := R24.out.fz 1
  have q2_ := R24.out.c2
  have fq2 := R24.out.fz 2
  have q3_ := R24.out.c3
  have fq3 := R24.out.fz 3
  have q4_ := R24.out.c4
  have fq4 := R24.out.fz 4
  have q5_ := R24.out.c5
  have fq5 := R24.out.fz 5
  have q6_ := R24.out.c6
  have fq6 := R24.out.fz 6
  have q7_ := R24.out.c7
  have fq7 := R24.out.fz 7
  refine wpAnyH_ready (rs := [10]) (by kernel_rfl) (by simp) ?_
  refine AllReadyH.cons rfl (fun K hK => ?_) AllReadyH.nil
  go_simp
  clear q0_ fq0 q1_ fq1 q2_ fq2 q3_ fq3 q4_ fq4 q5_ fq5 q6_ fq6 q7_ fq7
  have HC3 : Hid (((((((((v8.setCell ⟨(w.heap.size + 1), 0, none⟩ (.int .i64 y.t.id)).setCell ⟨(w.heap.size + 1), 1, none⟩ (.int .i64 y.t.st)).setCell ⟨(w.heap.size + 1), 2, none⟩ (.int .i64 y.t.snap)).setCell ⟨(w.heap.size + 1), 3, none⟩ (.int .i64 y.t.cs)).setCell ⟨(w.heap.size + 1), 4, none⟩ (.slice y.ra y.t.rs.length y.rc)).setCell ⟨(w.heap.size + 1), 5, none⟩ (.slice y.wa y.t.ws.length y.wc)).setCell ⟨(w.heap.size + 1), 6, none⟩ (.bool y.t.out)).setCell ⟨(w.heap.size + 1), 7, none⟩ (.string y.t.nm)).cell? ⟨b2, o2, none⟩ = some (.int .i64 x.t.id) ∧ ((((((((v8.setCell ⟨(w.heap.size + 1), 0, none⟩ (.int .i64 y.t.id)).setCell ⟨(w.heap.size + 1), 1, none⟩ (.int .i64 y.t.st)).setCell ⟨(w.heap.size + 1), 2, none⟩ (.int .i64 y.t.snap)).setCell ⟨(w.heap.size + 1), 3, none⟩ (.int .i64 y.t.cs)).setCell ⟨(w.heap.size + 1), 4, none⟩ (.slice y.ra y.t.rs.length y.rc)).setCell ⟨(w.heap.size + 1), 5, none⟩ (.slice y.wa y.t.ws.length y.wc)).setCell ⟨(w.heap.size + 1), 6, none⟩ (.bool y.t.out)).setCell ⟨(w.heap.size + 1), 7, none⟩ (.string y.t.nm)).cell? ⟨b2, o2 + 1, none⟩ = some (.int .i64 x.t.st) ∧ ((((((((v8.setCell ⟨(w.heap.size + 1), 0, none⟩ (.int .i64 y.t.id)).setCell ⟨(w.heap.size + 1), 1, none⟩ (.int .i64 y.t.st)).setCell ⟨(w.heap.size + 1), 2, none⟩ (.int .i64 y.t.snap)).setCell ⟨(w.heap.size + 1), 3, none⟩ (.int .i64 y.t.cs)).setCell ⟨(w.heap.size + 1), 4, none⟩ (.slice y.ra y.t.rs.length y.rc)).setCell ⟨(w.heap.size + 1), 5, none⟩ (.slice y.wa y.t.ws.length y.wc)).setCell ⟨(w.heap.size + 1), 6, none⟩ (.bool y.t.out)).setCell ⟨(w.heap.size + 1), 7, none⟩ (.string y.t.nm)).cell? ⟨b2, o2 + 2, none⟩ = some (.int .i64 x.t.snap) ∧ ((((((((v8.setCell ⟨(w.heap.size + 1), 0, none⟩ (.int .i64 y.t.id)).setCell ⟨(w.heap.size + 1), 1, none⟩ (.int .i64 y.t.st)).setCell ⟨(w.heap.size + 1), 2, none⟩ (.int .i64 y.t.snap)).setCell ⟨(w.heap.size + 1), 3, none⟩ (.int .i64 y.t.cs)).setCell ⟨(w.heap.size + 1), 4, none⟩ (.slice y.ra y.t.rs.length y.rc)).setCell ⟨(w.heap.size + 1), 5, none⟩ (.slice y.wa y.t.ws.length y.wc)).setCell ⟨(w.heap.size + 1), 6, none⟩ (.bool y.t.out)).setCell ⟨(w.heap.size + 1), 7, none⟩ (.string y.t.nm)).cell? ⟨b2, o2 + 3, none⟩ = some (.int .i64 x.t.cs) ∧ ((((((((v8.setCell ⟨(w.heap.size + 1), 0, none⟩ (.int .i64 y.t.id)).setCell ⟨(w.heap.size + 1), 1, none⟩ (.int .i64 y.t.st)).setCell ⟨(w.heap.size + 1), 2, none⟩ (.int .i64 y.t.snap)).setCell ⟨(w.heap.size + 1), 3, none⟩ (.int .i64 y.t.cs)).setCell ⟨(w.heap.size + 1), 4, none⟩ (.slice y.ra y.t.rs.length y.rc)).setCell ⟨(w.heap.size + 1), 5, none⟩ (.slice y.wa y.t.ws.length y.wc)).setCell ⟨(w.heap.size + 1), 6, none⟩ (.bool y.t.out)).setCell ⟨(w.heap.size + 1), 7, none⟩ (.string y.t.nm)).cell? ⟨b2, o2 + 4, none⟩ = some (.slice x.ra x.t.rs.length x.rc) ∧ ((((((((v8.setCell ⟨(w.heap.size + 1), 0, none⟩ (.int .i64 y.t.id)).setCell ⟨(w.heap.size + 1), 1, none⟩ (.int .i64 y.t.st)).setCell ⟨(w.heap.size + 1), 2, none⟩ (.int .i64 y.t.snap)).setCell ⟨(w.heap.size + 1), 3, none⟩ (.int .i64 y.t.cs)).setCell ⟨(w.heap.size + 1), 4, none⟩ (.slice y.ra y.t.rs.length y.rc)).setCell ⟨(w.heap.size + 1), 5, none⟩ (.slice y.wa y.t.ws.length y.wc)).setCell ⟨(w.heap.size + 1), 6, none⟩ (.bool y.t.out)).setCell ⟨(w.heap.size + 1), 7, none⟩ (.string y.t.nm)).cell? ⟨b2, o2 + 5, none⟩ = some (.slice x.wa x.t.ws.length x.wc) ∧ ((((((((v8.setCell ⟨(w.heap.size + 1), 0, none⟩ (.int .i64 y.t.id)).setCell ⟨(w.heap.size + 1), 1, none⟩ (.int .i64 y.t.st)).setCell ⟨(w.heap.size + 1), 2, none⟩ (.int .i64 y.t.snap)).setCell ⟨(w.heap.size + 1), 3, none⟩ (.int .i64 y.t.cs)).setCell ⟨(w.heap.size + 1), 4, none⟩ (.slice y.ra y.t.rs.length y.rc)).setCell ⟨(w.heap.size + 1), 5, none⟩ (.slice y.wa y.t.ws.length y.wc)).setCell ⟨(w.heap.size + 1), 6, none⟩ (.bool y.t.out)).setCell ⟨(w.heap.size + 1), 7, none⟩ (.string y.t.nm)).cell? ⟨b2, o2 + 6, none⟩ = some (.bool x.t.out) ∧ ((((((((v8.setCell ⟨(w.heap.size + 1), 0, none⟩ (.int .i64 y.t.id)).setCell ⟨(w.heap.size + 1), 1, none⟩ (.int .i64 y.t.st)).setCell ⟨(w.heap.size + 1), 2, none⟩ (.int .i64 y.t.snap)).setCell ⟨(w.heap.size + 1), 3, none⟩ (.int .i64 y.t.cs)).setCell ⟨(w.heap.size + 1), 4, none⟩ (.slice y.ra y.t.rs.length y.rc)).setCell ⟨(w.heap.size + 1), 5, none⟩ (.slice y.wa y.t.ws.length y.wc)).setCell ⟨(w.heap.size + 1), 6, none⟩ (.bool y.t.out)).setCell ⟨(w.heap.size + 1), 7, none⟩ (.string y.t.nm)).cell? ⟨b2, o2 + 7, none⟩ = some (.string x.t.nm) ∧ ((((((((v8.setCell ⟨(w.heap.size + 1), 0, none⟩ (.int .i64 y.t.id)).setCell ⟨(w.heap.size + 1), 1, none⟩ (.int .i64 y.t.st)).setCell ⟨(w.heap.size + 1), 2, none⟩ (.int .i64 y.t.snap)).setCell ⟨(w.heap.size + 1), 3, none⟩ (.int .i64 y.t.cs)).setCell ⟨(w.heap.size + 1), 4, none⟩ (.slice y.ra y.t.rs.length y.rc)).setCell ⟨(w.heap.size + 1), 5, none⟩ (.slice y.wa y.t.ws.length y.wc)).setCell ⟨(w.heap.size + 1), 6, none⟩ (.bool y.t.out)).setCell ⟨(w.heap.size + 1), 7, none⟩ (.string y.t.nm)).cell? ⟨b2, o2 + m * 8, none⟩ = some (.int .i64 y.t.id) ∧ ((((((((v8.setCell ⟨(w.heap.size + 1), 0, none⟩ (.int .i64 y.t.id)).setCell ⟨(w.heap.size + 1), 1, none⟩ (.int .i64 y.t.st)).setCell ⟨(w.heap.size + 1), 2, none⟩ (.int .i64 y.t.snap)).setCell ⟨(w.heap.size + 1), 3, none⟩ (.int .i64 y.t.cs)).setCell ⟨(w.heap.size + 1), 4, none⟩ (.slice y.ra y.t.rs.length y.rc)).setCell ⟨(w.heap.size + 1), 5, none⟩ (.slice y.wa y.t.ws.length y.wc)).setCell ⟨(w.heap.size + 1), 6, none⟩ (.bool y.t.out)).setCell ⟨(w.heap.size + 1), 7, none⟩ (.string y.t.nm)).cell? ⟨b2, o2 + m * 8 + 1, none⟩ = some (.int .i64 y.t.st) ∧ ((((((((v8.setCell ⟨(w.heap.size + 1), 0, none⟩ (.int .i64 y.t.id)).setCell ⟨(w.heap.size + 1), 1, none⟩ (.int .i64 y.t.st)).setCell ⟨(w.heap.size + 1), 2, none⟩ (.int .i64 y.t.snap)).setCell ⟨(w.heap.size + 1), 3, none⟩ (.int .i64 y.t.cs)).setCell ⟨(w.heap.size + 1), 4, none⟩ (.slice y.ra y.t.rs.length y.rc)).setCell ⟨(w.heap.size + 1), 5, none⟩ (.slice y.wa y.t.ws.length y.wc)).setCell ⟨(w.heap.size + 1), 6, none⟩ (.bool y.t.out)).setCell ⟨(w.heap.size + 1), 7, none⟩ (.string y.t.nm)).cell? ⟨b2, o2 + m * 8 + 2, none⟩ = some (.int .i64 y.t.snap) ∧ ((((((((v8.setCell ⟨(w.heap.size + 1), 0, none⟩ (.int .i64 y.t.id)).setCell ⟨(w.heap.size + 1), 1, none⟩ (.int .i64 y.t.st)).setCell ⟨(w.heap.size + 1), 2, none⟩ (.int .i64 y.t.snap)).setCell ⟨(w.heap.size + 1), 3, none⟩ (.int .i64 y.t.cs)).setCell ⟨(w.heap.size + 1), 4, none⟩ (.slice y.ra y.t.rs.length y.rc)).setCell ⟨(w.heap.size + 1), 5, none⟩ (.slice y.wa y.t.ws.length y.wc)).setCell ⟨(w.heap.size + 1), 6, none⟩ (.bool y.t.out)).setCell ⟨(w.heap.size + 1), 7, none⟩ (.string y.t.nm)).cell? ⟨b2, o2 + m * 8 + 3, none⟩ = some (.int .i64 y.t.cs) ∧ ((((((((v8.setCell ⟨(w.heap.size + 1), 0, none⟩ (.int .i64 y.t.id)).setCell ⟨(w.heap.size + 1), 1, none⟩ (.int .i64 y.t.st)).setCell ⟨(w.heap.size + 1), 2, none⟩ (.int .i64 y.t.snap)).setCell ⟨(w.heap.size + 1), 3, none⟩ (.int .i64 y.t.cs)).setCell ⟨(w.heap.size + 1), 4, none⟩ (.slice y.ra y.t.rs.length y.rc)).setCell ⟨(w.heap.size + 1), 5, none⟩ (.slice y.wa y.t.ws.length y.wc)).setCell ⟨(w.heap.size + 1), 6, none⟩ (.bool y.t.out)).setCell ⟨(w.heap.size + 1), 7, none⟩ (.string y.t.nm)).cell? ⟨b2, o2 + m * 8 + 4, none⟩ = some (.slice y.ra y.t.rs.length y.rc) ∧ ((((((((v8.setCell ⟨(w.heap.size + 1), 0, none⟩ (.int .i64 y.t.id)).setCell ⟨(w.heap.size + 1), 1, none⟩ (.int .i64 y.t.st)).setCell ⟨(w.heap.size + 1), 2, none⟩ (.int .i64 y.t.snap)).setCell ⟨(w.heap.size + 1), 3, none⟩ (.int .i64 y.t.cs)).setCell ⟨(w.heap.size + 1), 4, none⟩ (.slice y.ra y.t.rs.length y.rc)).setCell ⟨(w.heap.size + 1), 5, none⟩ (.slice y.wa y.t.ws.length y.wc)).setCell ⟨(w.heap.size + 1), 6, none⟩ (.bool y.t.out)).setCell ⟨(w.heap.size + 1), 7, none⟩ (.string y.t.nm)).cell? ⟨b2, o2 + m * 8 + 5, none⟩ = some (.slice y.wa y.t.ws.length y.wc) ∧ ((((((((v8.setCell ⟨(w.heap.size + 1), 0, none⟩ (.int .i64 y.t.id)).setCell ⟨(w.heap.size + 1), 1, none⟩ (.int .i64 y.t.st)).setCell ⟨(w.heap.size + 1), 2, none⟩ (.int .i64 y.t.snap)).setCell ⟨(w.heap.size + 1), 3, none⟩ (.int .i64 y.t.cs)).setCell ⟨(w.heap.size + 1), 4, none⟩ (.slice y.ra y.t.rs.length y.rc)).setCell ⟨(w.heap.size + 1), 5, none⟩ (.slice y.wa y.t.ws.length y.wc)).setCell ⟨(w.heap.size + 1), 6, none⟩ (.bool y.t.out)).setCell ⟨(w.heap.size + 1), 7, none⟩ (.string y.t.nm)).cell? ⟨b2, o2 + m * 8 + 6, none⟩ = some (.bool y.t.out) ∧ ((((((((v8.setCell ⟨(w.heap.size + 1), 0, none⟩ (.int .i64 y.t.id)).setCell ⟨(w.heap.size + 1), 1, none⟩ (.int .i64 y.t.st)).setCell ⟨(w.heap.size + 1), 2, none⟩ (.int .i64 y.t.snap)).setCell ⟨(w.heap.size + 1), 3, none⟩ (.int .i64 y.t.cs)).setCell ⟨(w.heap.size + 1), 4, none⟩ (.slice y.ra y.t.rs.length y.rc)).setCell ⟨(w.heap.size + 1), 5, none⟩ (.slice y.wa y.t.ws.length y.wc)).setCell ⟨(w.heap.size + 1), 6, none⟩ (.bool y.t.out)).setCell ⟨(w.heap.size + 1), 7, none⟩ (.string y.t.nm)).cell? ⟨b2, o2 + m * 8 + 7, none⟩ = some (.string y.t.nm)) := by
   have h := HC2.out
   have hne : b2 ≠ (w.heap.size + 1) := by omega
   show _ ∧ _
   simp only [cell8P _ _ hne]
   exact h
  clear HC2
  have R15 : Hid (Bx ((((((((v8.setCell ⟨(w.heap.size + 1), 0, none⟩ (.int .i64 y.t.id)).setCell ⟨(w.heap.size + 1), 1, none⟩ (.int .i64 y.t.st)).setCell ⟨(w.heap.size + 1), 2, none⟩ (.int .i64 y.t.snap)).setCell ⟨(w.heap.size + 1), 3, none⟩ (.int .i64 y.t.cs)).setCell ⟨(w.heap.size + 1), 4, none⟩ (.slice y.ra y.t.rs.length y.rc)).setCell ⟨(w.heap.size + 1), 5, none⟩ (.slice y.wa y.t.ws.length y.wc)).setCell ⟨(w.heap.size + 1), 6, none⟩ (.bool y.t.out)).setCell ⟨(w.heap.size + 1), 7, none⟩ (.string y.t.nm)) (w.heap.size) [.int .i64 x.t.id, .int .i64 x.t.st, .int .i64 x.t.snap, .int .i64 x.t.cs, .slice x.ra x.t.rs.length x.rc, .slice x.wa x.t.ws.length x.wc, .bool x.t.out, .string x.t.nm]) := R14.out.o8P (ob := (w.heap.size + 1)) (by omega) (.int .i64 y.t.id) (.int .i64 y.t.st) (.int .i64 y.t.snap) (.int .i64 y.t.cs) (.slice y.ra y.t.rs.length y.rc) (.slice y.wa y.t.ws.length y.wc) (.bool y.t.out) (.string y.t.nm)
  have R25 : Hid (Bx ((((((((v8.setCell ⟨(w.heap.size + 1), 0, none⟩ (.int .i64 y.t.id)).setCell ⟨(w.heap.size + 1), 1, none⟩ (.int .i64 y.t.st)).setCell ⟨(w.heap.size + 1), 2, none⟩ (.int .i64 y.t.snap)).setCell ⟨(w.heap.size + 1), 3, none⟩ (.int .i64 y.t.cs)).setCell ⟨(w.heap.size + 1), 4, none⟩ (.slice y.ra y.t.rs.length y.rc)).setCell ⟨(w.heap.size + 1), 5, none⟩ (.slice y.wa y.t.ws.length y.wc)).setCell ⟨(w.heap.size + 1), 6, none⟩ (.bool y.t.out)).setCell ⟨(w.heap.size + 1), 7, none⟩ (.string y.t.nm)) (w.heap.size + 1) [.int .i64 y.t.id, .int .i64 y.t.st, .int .i64 y.t.snap, .int .i64 y.t.cs, .slice y.ra y.t.rs.length y.rc, .slice y.wa y.t.ws.length y.wc, .bool y.t.out, .string y.t.nm]) := R24.out.s8P (.int .i64 y.t.id) (.int .i64 y.t.st) (.int .i64 y.t.snap) (.int .i64 y.t.cs) (.slice y.ra y.t.rs.length y.rc) (.slice y.wa y.t.ws.length y.wc) (.bool y.t.out) (.string y.t.nm)
  have HB5 : Hid (Below w.heap.size w ((((((((v8.setCell ⟨(w.heap.size + 1), 0, none⟩ (.int .i64 y.t.id)).setCell ⟨(w.heap.size + 1), 1, none⟩ (.int .i64 y.t.st)).setCell ⟨(w.heap.size + 1), 2, none⟩ (.int .i64 y.t.snap)).setCell ⟨(w.heap.size + 1), 3, none⟩ (.int .i64 y.t.cs)).setCell ⟨(w.heap.size + 1), 4, none⟩ (.slice y.ra y.t.rs.length y.rc)).setCell ⟨(w.heap.size + 1), 5, none⟩ (.slice y.wa y.t.ws.length y.wc)).setCell ⟨(w.heap.size + 1), 6, none⟩ (.bool y.t.out)).setCell ⟨(w.heap.size + 1), 7, none⟩ (.string y.t.nm))) := below_s8P HB4.out (ob := (w.heap.size + 1)) (by omega) (.int .i64 y.t.id) (.int .i64 y.t.st) (.int .i64 y.t.snap) (.int .i64 y.t.cs) (.slice y.ra y.t.rs.length y.rc) (.slice y.wa y.t.ws.length y.wc) (.bool y.t.out) (.string y.t.nm)
  have OX5 : Hid (TOwn ((((((((v8.setCell ⟨(w.heap.size + 1), 0, none⟩ (.int .i64 y.t.id)).setCell ⟨(w.heap.size + 1), 1, none⟩ (.int .i64 y.t.st)).setCell ⟨(w.heap.size + 1), 2, none⟩ (.int .i64 y.t.snap)).setCell ⟨(w.heap.size + 1), 3, none⟩ (.int .i64 y.t.cs)).setCell ⟨(w.heap.size + 1), 4, none⟩ (.slice y.ra y.t.rs.length y.rc)).setCell ⟨(w.heap.size + 1), 5, none⟩ (.slice y.wa y.t.ws.length y.wc)).setCell ⟨(w.heap.size + 1), 6, none⟩ (.bool y.t.out)).setCell ⟨(w.heap.size + 1), 7, none⟩ (.string y.t.nm)) (v1.heap.size) x) := ⟨own_s8P OX4.out.r (ob := (w.heap.size + 1)) (by omega) (.int .i64 y.t.id) (.int .i64 y.t.st) (.int .i64 y.t.snap) (.int .i64 y.t.cs) (.slice y.ra y.t.rs.length y.rc) (.slice y.wa y.t.ws.length y.wc) (.bool y.t.out) (.string y.t.nm), own_s8P OX4.out.w (ob := (w.heap.size + 1)) (by omega) (.int .i64 y.t.id) (.int .i64 y.t.st) (.int .i64 y.t.snap) (.int .i64 y.t.cs) (.slice y.ra y.t.rs.length y.rc) (.slice y.wa y.t.ws.length y.wc) (.bool y.t.out) (.string y.t.nm)⟩
  have OY5 : Hid (TOwn ((((((((v8.setCell ⟨(w.heap.size + 1), 0, none⟩ (.int .i64 y.t.id)).setCell ⟨(w.heap.size + 1), 1, none⟩ (.int .i64 y.t.st)).setCell ⟨(w.heap.size + 1), 2, none⟩ (.int .i64 y.t.snap)).setCell ⟨(w.heap.size + 1), 3, none⟩ (.int .i64 y.t.cs)).setCell ⟨(w.heap.size + 1), 4, none⟩ (.slice y.ra y.t.rs.length y.rc)).setCell ⟨(w.heap.size + 1), 5, none⟩ (.slice y.wa y.t.ws.length y.wc)).setCell ⟨(w.heap.size + 1), 6, none⟩ (.bool y.t.out)).setCell ⟨(w.heap.size + 1), 7, none⟩ (.string y.t.nm)) (v1.heap.size) y) := ⟨own_s8P OY4.out.r (ob := (w.heap.size + 1)) (by omega) (.int .i64 y.t.id) (.int .i64 y.t.st) (.int .i64 y.t.snap) (.int .i64 y.t.cs) (.slice y.ra y.t.rs.length y.rc) (.slice y.wa y.t.ws.length y.wc) (.bool y.t.out) (.string y.t.nm), own_s8P OY4.out.w (ob := (w.heap.size + 1)) (by omega) (.int .i64 y.t.id) (.int .i64 y.t.st) (.int .i64 y.t.snap) (.int .i64 y.t.cs) (.slice y.ra y.t.rs.length y.rc) (.slice y.wa y.t.ws.length y.wc) (.bool y.t.out) (.string y.t.nm)⟩
  clear R14 R24 HB4 OX4 OY4
  generalize ((((((((v8.setCell ⟨(w.heap.size + 1), 0, none⟩ (.int .i64 y.t.id)).setCell ⟨(w.heap.size + 1), 1, none⟩ (.int .i64 y.t.st)).setCell ⟨(w.heap.size + 1), 2, none⟩ (.int .i64 y.t.snap)).setCell ⟨(w.heap.size + 1), 3, none⟩ (.int .i64 y.t.cs)).setCell ⟨(w.heap.size + 1), 4, none⟩ (.slice y.ra y.t.rs.length y.rc)).setCell ⟨(w.heap.size + 1), 5, none⟩ (.slice y.wa y.t.ws.length y.wc)).setCell ⟨(w.heap.size + 1), 6, none⟩ (.bool y.t.out)).setCell ⟨(w.heap.size + 1), 7, none⟩ (.string y.t.nm)) = v9 at *
  (try go_wp2_with fail)
  refine hK.out _ _ HC3.out (fun hHeld => ?_)
  clear hK K hHeld
  refine wpAnyH_done (by kernel_rfl) ?_ _
  go_wp2
  have q0_ := R15.out.c0
  have fq0 := R15.out.fz 0
  have q1_ := R15.out.c1
  have fq1 := R15.out.fz 1
  have q2_ := R15.out.c2
  have fq2 := R15.out.fz 2
  have q3_ := R15.out.c3
  have fq3 := R15.out.fz 3
  have q4_ := R15.out.c4
  have fq4 := R15.out.fz 4
  have q5_ := R15.out.c5
  have fq5 := R15.out.fz 5
  have q6_ := R15.out.c6
  have fq6 := R15.out.fz 6
  have q7_ := R15.out.c7
  have fq7 := R15.out.fz 7
  have p0_ := R25.out.c0
  have fp0 := R25.out.fz 0
  have p1_ := R25.out.c1
  have fp1 := R25.out.fz 1
  have p2_ := R25.out.c2
  have fp2 := R25.out.fz 2
  have p3_ := R25.out.c3
  have fp3 := R25.out.fz 3
  have p4_ := R25.out.c4
  have fp4 := R25.out.fz 4
  have p5_ := R25.out.c5
  have fp5 := R25.out.fz 5
  have p6_ := R25.out.c6
  have fp6 := R25.out.fz 6
  have p7_ := R25.out.c7
  have fp7 := R25.out.fz 7
  exact bodyPost_ret (v := .tuple #[.agg #[.int .i64 x.t.id, .int .i64 x.t.st, .int .i64 x.t.snap, .int .i64 x.t.cs, .slice x.ra x.t.rs.length x.rc, .slice x.wa x.t.ws.length x.wc, .bool x.t.out, .string x.t.nm], .agg #[.int .i64 y.t.id, .int .i64 y.t.st, .int .i64 y.t.snap, .int .i64 y.t.cs, .slice y.ra y.t.rs.length y.rc, .slice y.wa y.t.ws.length y.wc, .bool y.t.out, .string y.t.nm]]) (by simp [results, Tryz.results9, go_sem, q0_, q1_, q2_, q3_, q4_, q5_, q6_, q7_, p0_, p1_, p2_, p3_, p4_, p5_, p6_, p7_]) rfl ⟨x, y, HX.out.any, HY.out.any, rfl, OX5.out.mono (by omega), OY5.out.mono (by omega), HB5.out⟩

end Go.Proofs.YtbajpnbodhhmjaaGreat
