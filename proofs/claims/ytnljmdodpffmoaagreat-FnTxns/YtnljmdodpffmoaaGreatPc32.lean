/- What ReadRange returns: the specification. -/
import Derived.Test.YtnljmdodpffmoaaGreatPc01
import Derived.Test.YtnljmdodpffmoaaGreatPc31
import Derived.Test.YtnljmdodpffmoaaGreatPc12
namespace Go.Proofs.YtnljmdodpffmoaaGreat
open Go.RowKit
open KM
open VM
attribute [local go_sem ↓] Go.wp_at_zero Go.wp_at_succ

def RPost (t : Tx) (r : Rg) (w : World) (e : Ending) (w' : World) : Prop := ∃ (t' : Tx) (b : Bool) (ra1 : Option Addr) (rc1 : Nat) (wa1 : Option Addr) (wc1 : Nat), RA t r t' b ∧ e = .returned (.tuple #[.agg #[.int .i64 t'.id, .int .i64 t'.st, .int .i64 t'.snap, .int .i64 t'.cs, .slice ra1 t'.rs.length rc1, .slice wa1 t'.ws.length wc1, .bool t'.out, .string t'.nm], .bool b]) ∧ TRow w' t' ra1 wa1 ∧ Below w.heap.size w w'

set_option maxRecDepth 100000 in
set_option maxHeartbeats 4000000 in
theorem srr (t : Tx) (ra wa : Option Addr) (rc wc : Nat) (r : Rg) (lo1 lo2 : Nat) (hf : TFit t) (hr8 : t.rs.length ≤ 8) (h8 : t.rs.length = 8 → r ∉ t.rs) (hx : r.1.size ≤ 1048576 ∧ r.2.size ≤ 1048576) (w : World) (h1 : GOwn encR 36 w lo1 (.slice ra t.rs.length rc) t.rs) (h2 : GOwn encW 42 w lo2 (.slice wa t.ws.length wc) t.ws) :
  Calls Tryz.prog 12 #[.agg #[.int .i64 t.id, .int .i64 t.st, .int .i64 t.snap, .int .i64 t.cs, .slice ra t.rs.length rc, .slice wa t.ws.length wc, .bool t.out, .string t.nm], .agg #[.string r.1, .string r.2]] w fun e w' => RPost t r w e w' := by
 have HF : Hid (TFit t) := hf
 have H8 : Hid (t.rs.length = 8 → r ∉ t.rs) := h8
 have HX : Hid (r.1.size ≤ 1048576 ∧ r.2.size ≤ 1048576) := hx
 have HP : Hid (TRow w t ra wa) := ⟨h1.grow, h2.grow⟩
 have hwl : t.ws.length ≤ 1048576 := hf.2.2.1
 have H1 := hide h1
 have H2 := hide h2
 clear hf h8 hx h1 h2
 obtain ⟨b1, hb1⟩ : ∃ b, b = (decide (t.st = 1) && txnB t) := ⟨_, rfl⟩
 obtain ⟨b2, hb2⟩ : ∃ b, b = rangeB (r.1, r.2) := ⟨_, rfl⟩
 have HB1x := hide hb1
 have HB2x := hide hb2
 have BA0 : Hid (Bx (((w.alloc (.cells #[.int .i64 t.id, .int .i64 t.st, .int .i64 t.snap, .int .i64 t.cs, .slice ra t.rs.length rc, .slice wa t.ws.length wc, .bool t.out, .string t.nm] 27)).alloc (.cells #[.string r.1, .string r.2] 36)).alloc (.cells #[.int .i64 0, .int .i64 0, .int .i64 0, .int .i64 0, .slice none 0 0, .slice none 0 0, .bool false, .string ⟨#[]⟩] 27)) (w.heap.size) [.int .i64 t.id, .int .i64 t.st, .int .i64 t.snap, .int .i64 t.cs, .slice ra t.rs.length rc, .slice wa t.ws.length wc, .bool t.out, .string t.nm]) := ((Bx.new w [.int .i64 t.id, .int .i64 t.st, .int .i64 t.snap, .int .i64 t.cs, .slice ra t.rs.length rc, .slice wa t.ws.length wc, .bool t.out, .string t.nm] 27).alloc _).alloc _
 have BX0 : Hid (Bx (((w.alloc (.cells #[.int .i64 t.id, .int .i64 t.st, .int .i64 t.snap, .int .i64 t.cs, .slice ra t.rs.length rc, .slice wa t.ws.length wc, .bool t.out, .string t.nm] 27)).alloc (.cells #[.string r.1, .string r.2] 36)).alloc (.cells #[.int .i64 0, .int .i64 0, .int .i64 0, .int .i64 0, .slice none 0 0, .slice none 0 0, .bool false, .string ⟨#[]⟩] 27)) (w.heap.size + 1) [.string r.1, .string r.2]) := by have h := (Bx.new (w.alloc (.cells #[.int .i64 t.id, .int .i64 t.st, .int .i64 t.snap, .int .i64 t.cs, .slice ra t.rs.length rc, .slice wa t.ws.length wc, .bool t.out, .string t.nm] 27)) [.string r.1, .string r.2] 36).alloc (.cells #[.int .i64 0, .int .i64 0, .int .i64 0, .int .i64 0, .slice none 0 0, .slice none 0 0, .bool false, .string ⟨#[]⟩] 27); rw [show (w.alloc (.cells #[.int .i64 t.id, .int .i64 t.st, .int .i64 t.snap, .int .i64 t.cs, .slice ra t.rs.length rc, .slice wa t.ws.length wc, .bool t.out, .string t.nm] 27)).heap.size = w.heap.size + 1 by simp] at h; exact h
 have R10 : Hid (Bx (((w.alloc (.cells #[.int .i64 t.id, .int .i64 t.st, .int .i64 t.snap, .int .i64 t.cs, .slice ra t.rs.length rc, .slice wa t.ws.length wc, .bool t.out, .string t.nm] 27)).alloc (.cells #[.string r.1, .string r.2] 36)).alloc (.cells #[.int .i64 0, .int .i64 0, .int .i64 0, .int .i64 0, .slice none 0 0, .slice none 0 0, .bool false, .string ⟨#[]⟩] 27)) (w.heap.size + 1 + 1) [.int .i64 0, .int .i64 0, .int .i64 0, .int .i64 0, .slice none 0 0, .slice none 0 0, .bool false, .string ⟨#[]⟩]) := by have h := Bx.new ((w.alloc (.cells #[.int .i64 t.id, .int .i64 t.st, .int .i64 t.snap, .int .i64 t.cs, .slice ra t.rs.length rc, .slice wa t.ws.length wc, .bool t.out, .string t.nm] 27)).alloc (.cells #[.string r.1, .string r.2] 36)) [.int .i64 0, .int .i64 0, .int .i64 0, .int .i64 0, .slice none 0 0, .slice none 0 0, .bool false, .string ⟨#[]⟩] 27; rw [show ((w.alloc (.cells #[.int .i64 t.id, .int .i64 t.st, .int .i64 t.snap, .int .i64 t.cs, .slice ra t.rs.length rc, .slice wa t.ws.length wc, .bool t.out, .string t.nm] 27)).alloc (.cells #[.string r.1, .string r.2] 36)).heap.size = w.heap.size + 1 + 1 by simp] at h; exact h
 have HB0 : Hid (Below w.heap.size w (((w.alloc (.cells #[.int .i64 t.id, .int .i64 t.st, .int .i64 t.snap, .int .i64 t.cs, .slice ra t.rs.length rc, .slice wa t.ws.length wc, .bool t.out, .string t.nm] 27)).alloc (.cells #[.string r.1, .string r.2] 36)).alloc (.cells #[.int .i64 0, .int .i64 0, .int .i64 0, .int .i64 0, .slice none 0 0, .slice none 0 0, .bool false, .string ⟨#[]⟩] 27))) := (((belowRefl w).alloc (Nat.le_refl _) _).alloc (by simp) _).alloc (by simp; omega) _
 have hz0 : (((w.alloc (.cells #[.int .i64 t.id, .int .i64 t.st, .int .i64 t.snap, .int .i64 t.cs, .slice ra t.rs.length rc, .slice wa t.ws.length wc, .bool t.out, .string t.nm] 27)).alloc (.cells #[.string r.1, .string r.2] 36)).alloc (.cells #[.int .i64 0, .int .i64 0, .int .i64 0, .int .i64 0, .slice none 0 0, .slice none 0 0, .bool false, .string ⟨#[]⟩] 27)).heap.size = w.heap.size + 1 + 1 + 1 := by simp
 go_enter Tryz.func12, Tryz.ntmps12
 go_wp2_with fail
 generalize (((w.alloc (.cells #[.int .i64 t.id, .int .i64 t.st, .int .i64 t.snap, .int .i64 t.cs, .slice ra t.rs.length rc, .slice wa t.ws.length wc, .bool t.out, .string t.nm] 27)).alloc (.cells #[.string r.1, .string r.2] 36)).alloc (.cells #[.int .i64 0, .int .i64 0, .int .i64 0, .int .i64 0, .slice none 0 0, .slice none 0 0, .bool false, .string ⟨#[]⟩] 27)) = w0 at *
 refine (scopyTe t ra wa rc wc lo1 lo2 (by omega) (by omega) _ (H1.out.below HB0.out) (H2.out.below HB0.out)).mono ?_
 rintro e w1 ⟨pa, pc, qa, qc, rfl, hl1, hq1⟩
 have hs1 := hq1.size
 obtain ⟨m, p1, p2, k1, k2⟩ := hl1.ex
 have BA1 := hide (BA0.out.below hq1)
 have BX1 := hide (BX0.out.below hq1)
 have R11 := hide (R10.out.below hq1)
 have HB1 := hide (HB0.out.trans (hq1.mono HB0.out.size))
 clear BA0 BX0 R10 HB0
 have OR1 : Hid (Lies encR 36 w1 (w0.heap.size) (m) (.slice pa t.rs.length pc) (t.rs)) := k1
 have OW1 : Hid (Lies encW 42 w1 (m) (w1.heap.size) (.slice qa t.ws.length qc) (t.ws)) := k2
 clear k1 k2 hl1 hq1
 go_upto_region 2 with fail
 have hb : Below w1.heap.size w1 (w1.alloc (.cells #[.int .i64 t.id, .int .i64 t.st, .int .i64 t.snap, .int .i64 t.cs, .slice pa t.rs.length pc, .slice qa t.ws.length qc, .bool t.out, .string t.nm] 27)) := (belowRefl w1).alloc (Nat.le_refl _) _
 have BA2 := hide (BA1.out.below hb)
 have BX2 := hide (BX1.out.below hb)
 have R12 := hide (R11.out.below hb)
 have HB2 := hide (HB1.out.trans (hb.mono HB1.out.size))
 have OR2 := hide (OR1.out.below hb)
 have OW2 := hide (OW1.out.below hb)
 clear BA1 BX1 R11 HB1 OR1 OW1
 have BO2 := hide (Bx.new w1 [.int .i64 t.id, .int .i64 t.st, .int .i64 t.snap, .int .i64 t.cs, .slice pa t.rs.length pc, .slice qa t.ws.length qc, .bool t.out, .string t.nm] 27)
 clear hb
 generalize (w1.alloc (.cells #[.int .i64 t.id, .int .i64 t.st, .int .i64 t.snap, .int .i64 t.cs, .slice pa t.rs.length pc, .slice qa t.ws.length qc, .bool t.out, .string t.nm] 27)) = w2 at *
 have hlw2 : w1.heap.size < w2.heap.size := BO2.out.lt
 obtain ⟨bT, hbT⟩ : ∃ b, b = txnB t := ⟨_, rfl⟩
 have HBT := hide hbT
 have C1 : Hid (∀ w', TRow w' t ra wa → Calls Tryz.prog 19 #[.agg #[.int .i64 t.id, .int .i64 t.st, .int .i64 t.snap, .int .i64 t.cs, .slice ra t.rs.length rc, .slice wa t.ws.length wc, .bool t.out, .string t.nm]] w' fun e w'' => e = .returned (.bool bT) ∧ Below w'.heap.size w' w'') := fun w' h => by rw [hbT]; exact stxn t ra wa rc wc HF.out w' h
 have C2 : Hid (∀ w', Calls Tryz.prog 45 #[.agg #[.string r.1, .string r.2]] w' fun e w'' => e = .returned (.bool b2) ∧ Below w'.heap.size w' w'') := fun w' => by rw [hb2]; exact srange r.1 r.2 HX.out.1 HX.out.2 w'
 clear hb1 hb2 hbT
 have x0 := BA2.out.c0
 have x1 := BA2.out.c1
 have x2 := BA2.out.c2
 have x3 := BA2.out.c3
 have x4 := BA2.out.c4
 have x5 := BA2.out.c5
 have x6 := BA2.out.c6
 have x7 := BA2.out.c7
 go_wp2_with fail
 refine (C1.out _ (HP.out.below HB2.out)).mono ?_
 rintro e w3 ⟨rfl, hq⟩
 have hsw3 := hq.size
 have BA3 := hide (BA2.out.below hq)
 have BX3 := hide (BX2.out.below hq)
 have R13 := hide (R12.out.below hq)
 have HB3 := hide (HB2.out.trans (hq.mono HB2.out.size))
 have OR3 := hide (OR2.out.below hq)
 have OW3 := hide (OW2.out.below hq)
 have BO3 := hide (BO2.out.below hq)
 clear BA2 BX2 R12 HB2 OR2 OW2 BO2
 clear hq x0 x1 x2 x3 x4 x5 x6 x7
 cases bT
 ·have q0_ := R13.out.c0
  have fq0 := R13.out.fz 0
  have q1_ := R13.out.c1
  have fq1 := R13.out.fz 1
  have q2_ := R13.out.c2
  have fq2 := R13.out.fz 2
  have q3_ := R13.out.c3
  have fq3 := R13.out.fz 3
  have q4_ := R13.out.c4
  have fq4 := R13.out.fz 4
  have q5_ := R13.out.c5
  have fq5 := R13.out.fz 5
  have q6_ := R13.out.c6
  have fq6 := R13.out.fz 6
  have q7_ := R13.out.c7
  have fq7 := R13.out.fz 7
  have o0_ := BO3.out.c0
  have o1_ := BO3.out.c1
  have o2_ := BO3.out.c2
  have o3_ := BO3.out.c3
  have o4_ := BO3.out.c4
  have o5_ := BO3.out.c5
  have o6_ := BO3.out.c6
  have o7_ := BO3.out.c7
  go_wp2
  clear q0_ fq0 o0_ q1_ fq1 o1_ q2_ fq2 o2_ q3_ fq3 o3_ q4_ fq4 o4_ q5_ fq5 o5_ q6_ fq6 o6_ q7_ fq7 o7_
  have BA4 := hide (BA3.out.o8P (ob := w.heap.size + 1 + 1) (by omega) (.int .i64 t.id) (.int .i64 t.st) (.int .i64 t.snap) (.int .i64 t.cs) (.slice pa t.rs.length pc) (.slice qa t.ws.length qc) (.bool t.out) (.string t.nm))
  have BX4 := hide (BX3.out.o8P (ob := w.heap.size + 1 + 1) (by omega) (.int .i64 t.id) (.int .i64 t.st) (.int .i64 t.snap) (.int .i64 t.cs) (.slice pa t.rs.length pc) (.slice qa t.ws.length qc) (.bool t.out) (.string t.nm))
  have R14 := hide (R13.out.s8P (.int .i64 t.id) (.int .i64 t.st) (.int .i64 t.snap) (.int .i64 t.cs) (.slice pa t.rs.length pc) (.slice qa t.ws.length qc) (.bool t.out) (.string t.nm))
  have HB4 := hide (below_s8P HB3.out (ob := w.heap.size + 1 + 1) (by omega) (.int .i64 t.id) (.int .i64 t.st) (.int .i64 t.snap) (.int .i64 t.cs) (.slice pa t.rs.length pc) (.slice qa t.ws.length qc) (.bool t.out) (.string t.nm))
  have OR4 : Hid (Lies encR 36 ((((((((w3.setCell ⟨w.heap.size + 1 + 1, 0, none⟩ (.int .i64 t.id)).setCell ⟨w.heap.size + 1 + 1, 1, none⟩ (.int .i64 t.st)).setCell ⟨w.heap.size + 1 + 1, 2, none⟩ (.int .i64 t.snap)).setCell ⟨w.heap.size + 1 + 1, 3, none⟩ (.int .i64 t.cs)).setCell ⟨w.heap.size + 1 + 1, 4, none⟩ (.slice pa t.rs.length pc)).setCell ⟨w.heap.size + 1 + 1, 5, none⟩ (.slice qa t.ws.length qc)).setCell ⟨w.heap.size + 1 + 1, 6, none⟩ (.bool t.out)).setCell ⟨w.heap.size + 1 + 1, 7, none⟩ (.string t.nm)) (w0.heap.size) (m) (.slice pa t.rs.length pc) (t.rs)) := ⟨own_s8P OR3.out.own (ob := w.heap.size + 1 + 1) (by omega) (.int .i64 t.id) (.int .i64 t.st) (.int .i64 t.snap) (.int .i64 t.cs) (.slice pa t.rs.length pc) (.slice qa t.ws.length qc) (.bool t.out) (.string t.nm), OR3.out.up⟩
  have OW4 : Hid (Lies encW 42 ((((((((w3.setCell ⟨w.heap.size + 1 + 1, 0, none⟩ (.int .i64 t.id)).setCell ⟨w.heap.size + 1 + 1, 1, none⟩ (.int .i64 t.st)).setCell ⟨w.heap.size + 1 + 1, 2, none⟩ (.int .i64 t.snap)).setCell ⟨w.heap.size + 1 + 1, 3, none⟩ (.int .i64 t.cs)).setCell ⟨w.heap.size + 1 + 1, 4, none⟩ (.slice pa t.rs.length pc)).setCell ⟨w.heap.size + 1 + 1, 5, none⟩ (.slice qa t.ws.length qc)).setCell ⟨w.heap.size + 1 + 1, 6, none⟩ (.bool t.out)).setCell ⟨w.heap.size + 1 + 1, 7, none⟩ (.string t.nm)) (m) (w1.heap.size) (.slice qa t.ws.length qc) (t.ws)) := ⟨own_s8P OW3.out.own (ob := w.heap.size + 1 + 1) (by omega) (.int .i64 t.id) (.int .i64 t.st) (.int .i64 t.snap) (.int .i64 t.cs) (.slice pa t.rs.length pc) (.slice qa t.ws.length qc) (.bool t.out) (.string t.nm), OW3.out.up⟩
  have BO4 := hide (BO3.out.o8P (ob := w.heap.size + 1 + 1) (by omega) (.int .i64 t.id) (.int .i64 t.st) (.int .i64 t.snap) (.int .i64 t.cs) (.slice pa t.rs.length pc) (.slice qa t.ws.length qc) (.bool t.out) (.string t.nm))
  clear BA3 BX3 R13 HB3 OR3 OW3 BO3
  generalize ((((((((w3.setCell ⟨w.heap.size + 1 + 1, 0, none⟩ (.int .i64 t.id)).setCell ⟨w.heap.size + 1 + 1, 1, none⟩ (.int .i64 t.st)).setCell ⟨w.heap.size + 1 + 1, 2, none⟩ (.int .i64 t.snap)).setCell ⟨w.heap.size + 1 + 1, 3, none⟩ (.int .i64 t.cs)).setCell ⟨w.heap.size + 1 + 1, 4, none⟩ (.slice pa t.rs.length pc)).setCell ⟨w.heap.size + 1 + 1, 5, none⟩ (.slice qa t.ws.length qc)).setCell ⟨w.heap.size + 1 + 1, 6, none⟩ (.bool t.out)).setCell ⟨w.heap.size + 1 + 1, 7, none⟩ (.string t.nm)) = z9 at *
  have q0_ := R14.out.c0
  have fq0 := R14.out.fz 0
  have q1_ := R14.out.c1
  have fq1 := R14.out.fz 1
  have q2_ := R14.out.c2
  have fq2 := R14.out.fz 2
  have q3_ := R14.out.c3
  have fq3 := R14.out.fz 3
  have q4_ := R14.out.c4
  have fq4 := R14.out.fz 4
  have q5_ := R14.out.c5
  have fq5 := R14.out.fz 5
  have q6_ := R14.out.c6
  have fq6 := R14.out.fz 6
  have q7_ := R14.out.c7
  have fq7 := R14.out.fz 7
  exact bodyPost_ret (v := .tuple #[.agg #[.int .i64 t.id, .int .i64 t.st, .int .i64 t.snap, .int .i64 t.cs, .slice pa t.rs.length pc, .slice qa t.ws.length qc, .bool t.out, .string t.nm], .bool false]) (by simp [results, Tryz.results12, go_sem, q0_, q1_, q2_, q3_, q4_, q5_, q6_, q7_]) rfl (by unfold RPost; exact ⟨t, false, pa, pc, qa, qc, Or.inl ⟨by rw [← HBT.out]; simp, rfl, rfl⟩, rfl, ⟨OR4.out.own.grow, OW4.out.own.grow⟩, HB4.out⟩)
 ·by_cases hst : t.st = 1
  ·have x1 := BA3.out.c1
   have y0 := BX3.out.c0
   have y1 := BX3.out.c1
   have z1 : (t.st != 1) = false := by simp [hst]
   have HS : Hid (t.st = 1) := hst
   clear hst
   go_wp2_with fail
   refine (C2.out _).mono ?_
   rintro e w4 ⟨rfl, hq⟩
   have hsw4 := hq.size
   have BA4 := hide (BA3.out.below hq)
   have BX4 := hide (BX3.out.below hq)
   have R14 := hide (R13.out.below hq)
   have HB4 := hide (HB3.out.trans (hq.mono HB3.out.size))
   have OR4 := hide (OR3.out.below hq)
   have OW4 := hide (OW3.out.below hq)
   have BO4 := hide (BO3.out.below hq)
   clear BA3 BX3 R13 HB3 OR3 OW3 BO3
   clear hq x1 y0 y1 z1
   cases b2
   ·have q0_ := R14.out.c0
    have fq0 := R14.out.fz 0
    have q1_ := R14.out.c1
    have fq1 := R14.out.fz 1
    have q2_ := R14.out.c2
    have fq2 := R14.out.fz 2
    have q3_ := R14.out.c3
    have fq3 := R14.out.fz 3
    have q4_ := R14.out.c4
    have fq4 := R14.out.fz 4
    have q5_ := R14.out.c5
    have fq5 := R14.out.fz 5
    have q6_ := R14.out.c6
    have fq6 := R14.out.fz 6
    have q7_ := R14.out.c7
    have fq7 := R14.out.fz 7
    have o0_ := BO4.out.c0
    have o1_ := BO4.out.c1
    have o2_ := BO4.out.c2
    have o3_ := BO4.out.c3
    have o4_ := BO4.out.c4
    have o5_ := BO4.out.c5
    have o6_ := BO4.out.c6
    have o7_ := BO4.out.c7
    go_wp2
    clear q0_ fq0 o0_ q1_ fq1 o1_ q2_ fq2 o2_ q3_ fq3 o3_ q4_ fq4 o4_ q5_ fq5 o5_ q6_ fq6 o6_ q7_ fq7 o7_
    have BA5 := hide (BA4.out.o8P (ob := w.heap.size + 1 + 1) (by omega) (.int .i64 t.id) (.int .i64 t.st) (.int .i64 t.snap) (.int .i64 t.cs) (.slice pa t.rs.length pc) (.slice qa t.ws.length qc) (.bool t.out) (.string t.nm))
    have BX5 := hide (BX4.out.o8P (ob := w.heap.size + 1 + 1) (by omega) (.int .i64 t.id) (.int .i64 t.st) (.int .i64 t.snap) (.int .i64 t.cs) (.slice pa t.rs.length pc) (.slice qa t.ws.length qc) (.bool t.out) (.string t.nm))
    have R15 := hide (R14.out.s8P (.int .i64 t.id) (.int .i64 t.st) (.int .i64 t.snap) (.int .i64 t.cs) (.slice pa t.rs.length pc) (.slice qa t.ws.length qc) (.bool t.out) (.string t.nm))
    have HB5 := hide (below_s8P HB4.out (ob := w.heap.size + 1 + 1) (by omega) (.int .i64 t.id) (.int .i64 t.st) (.int .i64 t.snap) (.int .i64 t.cs) (.slice pa t.rs.length pc) (.slice qa t.ws.length qc) (.bool t.out) (.string t.nm))
    have OR5 : Hid (Lies encR 36 ((((((((w4.setCell ⟨w.heap.size + 1 + 1, 0, none⟩ (.int .i64 t.id)).setCell ⟨w.heap.size + 1 + 1, 1, none⟩ (.int .i64 t.st)).setCell ⟨w.heap.size + 1 + 1, 2, none⟩ (.int .i64 t.snap)).setCell ⟨w.heap.size + 1 + 1, 3, none⟩ (.int .i64 t.cs)).setCell ⟨w.heap.size + 1 + 1, 4, none⟩ (.slice pa t.rs.length pc)).setCell ⟨w.heap.size + 1 + 1, 5, none⟩ (.slice qa t.ws.length qc)).setCell ⟨w.heap.size + 1 + 1, 6, none⟩ (.bool t.out)).setCell ⟨w.heap.size + 1 + 1, 7, none⟩ (.string t.nm)) (w0.heap.size) (m) (.slice pa t.rs.length pc) (t.rs)) := ⟨own_s8P OR4.out.own (ob := w.heap.size + 1 + 1) (by omega) (.int .i64 t.id) (.int .i64 t.st) (.int .i64 t.snap) (.int .i64 t.cs) (.slice pa t.rs.length pc) (.slice qa t.ws.length qc) (.bool t.out) (.string t.nm), OR4.out.up⟩
    have OW5 : Hid (Lies encW 42 ((((((((w4.setCell ⟨w.heap.size + 1 + 1, 0, none⟩ (.int .i64 t.id)).setCell ⟨w.heap.size + 1 + 1, 1, none⟩ (.int .i64 t.st)).setCell ⟨w.heap.size + 1 + 1, 2, none⟩ (.int .i64 t.snap)).setCell ⟨w.heap.size + 1 + 1, 3, none⟩ (.int .i64 t.cs)).setCell ⟨w.heap.size + 1 + 1, 4, none⟩ (.slice pa t.rs.length pc)).setCell ⟨w.heap.size + 1 + 1, 5, none⟩ (.slice qa t.ws.length qc)).setCell ⟨w.heap.size + 1 + 1, 6, none⟩ (.bool t.out)).setCell ⟨w.heap.size + 1 + 1, 7, none⟩ (.string t.nm)) (m) (w1.heap.size) (.slice qa t.ws.length qc) (t.ws)) := ⟨own_s8P OW4.out.own (ob := w.heap.size + 1 + 1) (by omega) (.int .i64 t.id) (.int .i64 t.st) (.int .i64 t.snap) (.int .i64 t.cs) (.slice pa t.rs.length pc) (.slice qa t.ws.length qc) (.bool t.out) (.string t.nm), OW4.out.up⟩
    have BO5 := hide (BO4.out.o8P (ob := w.heap.size + 1 + 1) (by omega) (.int .i64 t.id) (.int .i64 t.st) (.int .i64 t.snap) (.int .i64 t.cs) (.slice pa t.rs.length pc) (.slice qa t.ws.length qc) (.bool t.out) (.string t.nm))
    clear BA4 BX4 R14 HB4 OR4 OW4 BO4
    generalize ((((((((w4.setCell ⟨w.heap.size + 1 + 1, 0, none⟩ (.int .i64 t.id)).setCell ⟨w.heap.size + 1 + 1, 1, none⟩ (.int .i64 t.st)).setCell ⟨w.heap.size + 1 + 1, 2, none⟩ (.int .i64 t.snap)).setCell ⟨w.heap.size + 1 + 1, 3, none⟩ (.int .i64 t.cs)).setCell ⟨w.heap.size + 1 + 1, 4, none⟩ (.slice pa t.rs.length pc)).setCell ⟨w.heap.size + 1 + 1, 5, none⟩ (.slice qa t.ws.length qc)).setCell ⟨w.heap.size + 1 + 1, 6, none⟩ (.bool t.out)).setCell ⟨w.heap.size + 1 + 1, 7, none⟩ (.string t.nm)) = z9 at *
    have q0_ := R15.out.c0
    have fq0 := R15.out.fz 0
    have q1_ := R15.out.c1
    have fq1 := R15.out.fz 1
    have q2_ := R15.out.c2
    have fq2 := R15.out.fz 2
    have q3_ := R15.out.c3
    have fq3 := R15.out.fz 3
    have q4_ := R15.out.c4
    have fq4 := R15.out.fz 4
    have q5_ := R15.out.c5
    have fq5 := R15.out.fz 5
    have q6_ := R15.out.c6
    have fq6 := R15.out.fz 6
    have q7_ := R15.out.c7
    have fq7 := R15.out.fz 7
    exact bodyPost_ret (v := .tuple #[.agg #[.int .i64 t.id, .int .i64 t.st, .int .i64 t.snap, .int .i64 t.cs, .slice pa t.rs.length pc, .slice qa t.ws.length qc, .bool t.out, .string t.nm], .bool false]) (by simp [results, Tryz.results12, go_sem, q0_, q1_, q2_, q3_, q4_, q5_, q6_, q7_]) rfl (by unfold RPost; exact ⟨t, false, pa, pc, qa, qc, Or.inl ⟨by rw [← HB2x.out]; simp, rfl, rfl⟩, rfl, ⟨OR5.out.own.grow, OW5.out.own.grow⟩, HB5.out⟩)
   ·go_wp2
    go_loopw [7] (fun v wr => ∃ k : Nat, k ≤ t.rs.length ∧ v = .int .i64 k ∧ Hid (NoR t.rs r k) ∧ Hid (Bx wr (w.heap.size) [.int .i64 t.id, .int .i64 t.st, .int .i64 t.snap, .int .i64 t.cs, .slice ra t.rs.length rc, .slice wa t.ws.length wc, .bool t.out, .string t.nm]) ∧ Hid (Bx wr (w.heap.size + 1) [.string r.1, .string r.2]) ∧ Hid (Bx wr (w.heap.size + 1 + 1) [.int .i64 0, .int .i64 0, .int .i64 0, .int .i64 0, .slice none 0 0, .slice none 0 0, .bool false, .string ⟨#[]⟩]) ∧ Hid (Below w.heap.size w wr) ∧ Hid (Lies encR 36 wr (w0.heap.size) (m) (.slice pa t.rs.length pc) (t.rs)) ∧ Hid (Lies encW 42 wr (m) (w1.heap.size) (.slice qa t.ws.length qc) (t.ws)) ∧ Hid (Bx wr (w1.heap.size) [.int .i64 t.id, .int .i64 t.st, .int .i64 t.snap, .int .i64 t.cs, .slice pa t.rs.length pc, .slice qa t.ws.length qc, .bool t.out, .string t.nm])) (fun v _ => t.rs.length - (intOf v).toNat)
    case atStart => exact ⟨0, Nat.zero_le _, rfl, (fun i _ h => by cases h), BA4, BX4, R14, HB4, OR4, OW4, BO4⟩
    case round =>
     clear BA4 BX4 R14 HB4 OR4 OW4 BO4 C1 C2
     obtain ⟨k, hk, rfl, HN, BA5, BX5, R15, HB5, OR5, OW5, BO5⟩ := hrel
     by_cases hlt : k < t.rs.length
     ·have hlt' : (k : Int) < (t.rs.length : Int) := by omega
      have h0 : (0 : Int) ≤ (k : Int) := by omega
      obtain ⟨bb, off, rfl, hbl, q⟩ := (HP.out.r.below HB5.out) (by omega)
      have Q := hide (rat q k hlt)
      clear q
      by_cases he : r.1.toList = t.rs[k].1.toList ∧ r.2.toList = t.rs[k].2.toList
      ·obtain ⟨e1, e2⟩ := he
       have HI : Hid (r ∈ t.rs) := by show _ ∈ _; rw [← rg_eq e1 e2]; exact List.getElem_mem hlt
       have g1 : (r.1.toList == t.rs[k].1.toList) = true := by simpa using e1
       have g1s : (t.rs[k].1.toList == r.1.toList) = true := by rw [beq_iff_eq]; exact e1.symm
       have g2 : (r.2.toList == t.rs[k].2.toList) = true := by simpa using e2
       have g2s : (t.rs[k].2.toList == r.2.toList) = true := by rw [beq_iff_eq]; exact e2.symm
       have x4 := BA5.out.c4
       go_wp2
       clear x4
       refine wp_region_held_drew (S := fun w' => w'.cell? ⟨w.heap.size, 4, none⟩ = some (.slice (some ⟨bb, off, none⟩) t.rs.length rc) ∧ w'.cell? ⟨w.heap.size + 1, 0, none⟩ = some (.string r.1) ∧ w'.cell? ⟨w.heap.size + 1, 1, none⟩ = some (.string r.2) ∧ w'.cell? ⟨bb, off + k * 2, none⟩ = some (.string t.rs[k].1) ∧ w'.cell? ⟨bb, off + k * 2 + 1, none⟩ = some (.string t.rs[k].2)) (by kernel_rfl) ⟨BA5.out.c4, BX5.out.c0, BX5.out.c1, Q.out.1, Q.out.2⟩ (fun hHeld => ?_)
       (refine tk 0 ?_ rfl (Or.inl ⟨by rfl, ?_⟩) ?_; rotate_left; (focus (intro w h; (try dsimp only at h); go_simp; (try with_reducible rfl))); simp only [Act.put, tA, tB, tD, tE, tF])
       (refine tk 1 ?_ rfl (Or.inl ⟨by rfl, ?_⟩) ?_; rotate_left; (focus (intro w h; (try dsimp only at h); go_simp; (try with_reducible rfl))); simp only [Act.put, tA, tB, tC, tD, tE, tF])
       (refine tk 2 ?_ rfl (Or.inl ⟨by rfl, ?_⟩) ?_; rotate_left; (focus (intro w h; (try dsimp only at h); go_simp; (try with_reducible rfl))); simp only [Act.put, tA, tB, tC, tD, tE, tF])
       (refine tk 3 ?_ rfl (Or.inl ⟨by rfl, ?_⟩) ?_; rotate_left; (focus (intro w h; (try dsimp only at h); go_simp; (try with_reducible rfl))); simp only [Act.put, tA, tB, tC, tD, tE, tF])
       (refine tk 4 ?_ rfl (Or.inl ⟨by rfl, ?_⟩) ?_; rotate_left; (focus (intro w h; (try dsimp only at h); go_simp; (try with_reducible rfl))); simp only [Act.put, tA, tB, tC, tD, tE, tF])
       (refine tk 5 ?_ rfl (Or.inl ⟨by rfl, ?_⟩) ?_; rotate_left; (focus (intro w h; (try dsimp only at h); go_simp; (try with_reducible rfl))); simp only [Act.put, tA, tB, tC, tD, tE, tF])
       (refine tk 6 ?_ rfl (Or.inl ⟨by rfl, ?_⟩) ?_; rotate_left; (focus (intro w h; (try dsimp only at h); go_simp; (try with_reducible rfl))); simp only [Act.put, tA, tB, tC, tD, tE, tF])
       refine wpAnyH_done (by kernel_rfl) ?_ _
       have BA6 := hide (BA5.out.below (belowRefl wr).drew)
       have BX6 := hide (BX5.out.below (belowRefl wr).drew)
       have R16 := hide (R15.out.below (belowRefl wr).drew)
       have HB6 := hide (HB5.out.trans ((belowRefl wr).drew.mono HB5.out.size))
       have OR6 := hide (OR5.out.below (belowRefl wr).drew)
       have OW6 := hide (OW5.out.below (belowRefl wr).drew)
       have BO6 := hide (BO5.out.below (belowRefl wr).drew)
       clear BA5 BX5 R15 HB5 OR5 OW5 BO5
       clear e1 e2 g1 g1s g2 g2s Q hHeld
       generalize wr.drew = u1 at *
       have q0_ := R16.out.c0
       have fq0 := R16.out.fz 0
       have q1_ := R16.out.c1
       have fq1 := R16.out.fz 1
       have q2_ := R16.out.c2
       have fq2 := R16.out.fz 2
       have q3_ := R16.out.c3
       have fq3 := R16.out.fz 3
       have q4_ := R16.out.c4
       have fq4 := R16.out.fz 4
       have q5_ := R16.out.c5
       have fq5 := R16.out.fz 5
       have q6_ := R16.out.c6
       have fq6 := R16.out.fz 6
       have q7_ := R16.out.c7
       have fq7 := R16.out.fz 7
       have o0_ := BO6.out.c0
       have o1_ := BO6.out.c1
       have o2_ := BO6.out.c2
       have o3_ := BO6.out.c3
       have o4_ := BO6.out.c4
       have o5_ := BO6.out.c5
       have o6_ := BO6.out.c6
       have o7_ := BO6.out.c7
       go_wp2
       clear q0_ fq0 o0_ q1_ fq1 o1_ q2_ fq2 o2_ q3_ fq3 o3_ q4_ fq4 o4_ q5_ fq5 o5_ q6_ fq6 o6_ q7_ fq7 o7_
       have BA7 := hide (BA6.out.o8P (ob := w.heap.size + 1 + 1) (by omega) (.int .i64 t.id) (.int .i64 t.st) (.int .i64 t.snap) (.int .i64 t.cs) (.slice pa t.rs.length pc) (.slice qa t.ws.length qc) (.bool t.out) (.string t.nm))
       have BX7 := hide (BX6.out.o8P (ob := w.heap.size + 1 + 1) (by omega) (.int .i64 t.id) (.int .i64 t.st) (.int .i64 t.snap) (.int .i64 t.cs) (.slice pa t.rs.length pc) (.slice qa t.ws.length qc) (.bool t.out) (.string t.nm))
       have R17 := hide (R16.out.s8P (.int .i64 t.id) (.int .i64 t.st) (.int .i64 t.snap) (.int .i64 t.cs) (.slice pa t.rs.length pc) (.slice qa t.ws.length qc) (.bool t.out) (.string t.nm))
       have HB7 := hide (below_s8P HB6.out (ob := w.heap.size + 1 + 1) (by omega) (.int .i64 t.id) (.int .i64 t.st) (.int .i64 t.snap) (.int .i64 t.cs) (.slice pa t.rs.length pc) (.slice qa t.ws.length qc) (.bool t.out) (.string t.nm))
       have OR7 : Hid (Lies encR 36 ((((((((u1.setCell ⟨w.heap.size + 1 + 1, 0, none⟩ (.int .i64 t.id)).setCell ⟨w.heap.size + 1 + 1, 1, none⟩ (.int .i64 t.st)).setCell ⟨w.heap.size + 1 + 1, 2, none⟩ (.int .i64 t.snap)).setCell ⟨w.heap.size + 1 + 1, 3, none⟩ (.int .i64 t.cs)).setCell ⟨w.heap.size + 1 + 1, 4, none⟩ (.slice pa t.rs.length pc)).setCell ⟨w.heap.size + 1 + 1, 5, none⟩ (.slice qa t.ws.length qc)).setCell ⟨w.heap.size + 1 + 1, 6, none⟩ (.bool t.out)).setCell ⟨w.heap.size + 1 + 1, 7, none⟩ (.string t.nm)) (w0.heap.size) (m) (.slice pa t.rs.length pc) (t.rs)) := ⟨own_s8P OR6.out.own (ob := w.heap.size + 1 + 1) (by omega) (.int .i64 t.id) (.int .i64 t.st) (.int .i64 t.snap) (.int .i64 t.cs) (.slice pa t.rs.length pc) (.slice qa t.ws.length qc) (.bool t.out) (.string t.nm), OR6.out.up⟩
       have OW7 : Hid (Lies encW 42 ((((((((u1.setCell ⟨w.heap.size + 1 + 1, 0, none⟩ (.int .i64 t.id)).setCell ⟨w.heap.size + 1 + 1, 1, none⟩ (.int .i64 t.st)).setCell ⟨w.heap.size + 1 + 1, 2, none⟩ (.int .i64 t.snap)).setCell ⟨w.heap.size + 1 + 1, 3, none⟩ (.int .i64 t.cs)).setCell ⟨w.heap.size + 1 + 1, 4, none⟩ (.slice pa t.rs.length pc)).setCell ⟨w.heap.size + 1 + 1, 5, none⟩ (.slice qa t.ws.length qc)).setCell ⟨w.heap.size + 1 + 1, 6, none⟩ (.bool t.out)).setCell ⟨w.heap.size + 1 + 1, 7, none⟩ (.string t.nm)) (m) (w1.heap.size) (.slice qa t.ws.length qc) (t.ws)) := ⟨own_s8P OW6.out.own (ob := w.heap.size + 1 + 1) (by omega) (.int .i64 t.id) (.int .i64 t.st) (.int .i64 t.snap) (.int .i64 t.cs) (.slice pa t.rs.length pc) (.slice qa t.ws.length qc) (.bool t.out) (.string t.nm), OW6.out.up⟩
       have BO7 := hide (BO6.out.o8P (ob := w.heap.size + 1 + 1) (by omega) (.int .i64 t.id) (.int .i64 t.st) (.int .i64 t.snap) (.int .i64 t.cs) (.slice pa t.rs.length pc) (.slice qa t.ws.length qc) (.bool t.out) (.string t.nm))
       clear BA6 BX6 R16 HB6 OR6 OW6 BO6
       generalize ((((((((u1.setCell ⟨w.heap.size + 1 + 1, 0, none⟩ (.int .i64 t.id)).setCell ⟨w.heap.size + 1 + 1, 1, none⟩ (.int .i64 t.st)).setCell ⟨w.heap.size + 1 + 1, 2, none⟩ (.int .i64 t.snap)).setCell ⟨w.heap.size + 1 + 1, 3, none⟩ (.int .i64 t.cs)).setCell ⟨w.heap.size + 1 + 1, 4, none⟩ (.slice pa t.rs.length pc)).setCell ⟨w.heap.size + 1 + 1, 5, none⟩ (.slice qa t.ws.length qc)).setCell ⟨w.heap.size + 1 + 1, 6, none⟩ (.bool t.out)).setCell ⟨w.heap.size + 1 + 1, 7, none⟩ (.string t.nm)) = z9 at *
       have q0_ := R17.out.c0
       have fq0 := R17.out.fz 0
       have q1_ := R17.out.c1
       have fq1 := R17.out.fz 1
       have q2_ := R17.out.c2
       have fq2 := R17.out.fz 2
       have q3_ := R17.out.c3
       have fq3 := R17.out.fz 3
       have q4_ := R17.out.c4
       have fq4 := R17.out.fz 4
       have q5_ := R17.out.c5
       have fq5 := R17.out.fz 5
       have q6_ := R17.out.c6
       have fq6 := R17.out.fz 6
       have q7_ := R17.out.c7
       have fq7 := R17.out.fz 7
       exact bodyPost_ret (v := .tuple #[.agg #[.int .i64 t.id, .int .i64 t.st, .int .i64 t.snap, .int .i64 t.cs, .slice pa t.rs.length pc, .slice qa t.ws.length qc, .bool t.out, .string t.nm], .bool true]) (by simp [results, Tryz.results12, go_sem, q0_, q1_, q2_, q3_, q4_, q5_, q6_, q7_]) rfl (by unfold RPost; exact ⟨t, true, pa, pc, qa, qc, Or.inr ⟨by rw [decide_eq_true HS.out, ← HBT.out, ← HB2x.out]; rfl, Or.inl ⟨HI.out, rfl, rfl⟩⟩, rfl, ⟨OR7.out.own.grow, OW7.out.own.grow⟩, HB7.out⟩)
      ·have HNn := hide (noR_more HN.out hlt (rg_ne he))
       by_cases e1 : r.1.toList = t.rs[k].1.toList
       ·have e2 : ¬ r.2.toList = t.rs[k].2.toList := fun e => he ⟨e1, e⟩
        have g1 : (r.1.toList == t.rs[k].1.toList) = true := by simpa using e1
        have g1s : (t.rs[k].1.toList == r.1.toList) = true := by rw [beq_iff_eq]; exact e1.symm
        have g2 : (r.2.toList == t.rs[k].2.toList) = false := by simpa using e2
        have g2s : (t.rs[k].2.toList == r.2.toList) = false := by rw [beq_eq_false_iff_ne]; exact fun h => e2 h.symm
        clear he
        have x4 := BA5.out.c4
        go_wp2
        clear x4
        refine wp_region_held_drew (S := fun w' => w'.cell? ⟨w.heap.size, 4, none⟩ = some (.slice (some ⟨bb, off, none⟩) t.rs.length rc) ∧ w'.cell? ⟨w.heap.size + 1, 0, none⟩ = some (.string r.1) ∧ w'.cell? ⟨w.heap.size + 1, 1, none⟩ = some (.string r.2) ∧ w'.cell? ⟨bb, off + k * 2, none⟩ = some (.string t.rs[k].1) ∧ w'.cell? ⟨bb, off + k * 2 + 1, none⟩ = some (.string t.rs[k].2)) (by kernel_rfl) ⟨BA5.out.c4, BX5.out.c0, BX5.out.c1, Q.out.1, Q.out.2⟩ (fun hHeld => ?_)
        (refine tk 0 ?_ rfl (Or.inl ⟨by rfl, ?_⟩) ?_; rotate_left; (focus (intro w h; (try dsimp only at h); go_simp; (try with_reducible rfl))); simp only [Act.put, tA, tB, tD, tE, tF])
        (refine tk 1 ?_ rfl (Or.inl ⟨by rfl, ?_⟩) ?_; rotate_left; (focus (intro w h; (try dsimp only at h); go_simp; (try with_reducible rfl))); simp only [Act.put, tA, tB, tC, tD, tE, tF])
        (refine tk 2 ?_ rfl (Or.inl ⟨by rfl, ?_⟩) ?_; rotate_left; (focus (intro w h; (try dsimp only at h); go_simp; (try with_reducible rfl))); simp only [Act.put, tA, tB, tC, tD, tE, tF])
        (refine tk 3 ?_ rfl (Or.inl ⟨by rfl, ?_⟩) ?_; rotate_left; (focus (intro w h; (try dsimp only at h); go_simp; (try with_reducible rfl))); simp only [Act.put, tA, tB, tC, tD, tE, tF])
        (refine tk 4 ?_ rfl (Or.inl ⟨by rfl, ?_⟩) ?_; rotate_left; (focus (intro w h; (try dsimp only at h); go_simp; (try with_reducible rfl))); simp only [Act.put, tA, tB, tC, tD, tE, tF])
        (refine tk 5 ?_ rfl (Or.inl ⟨by rfl, ?_⟩) ?_; rotate_left; (focus (intro w h; (try dsimp only at h); go_simp; (try with_reducible rfl))); simp only [Act.put, tA, tB, tC, tD, tE, tF])
        (refine tk 6 ?_ rfl (Or.inl ⟨by rfl, ?_⟩) ?_; rotate_left; (focus (intro w h; (try dsimp only at h); go_simp; (try with_reducible rfl))); simp only [Act.put, tA, tB, tC, tD, tE, tF])
        refine wpAnyH_done (by kernel_rfl) ?_ _
        have BA6 := hide (BA5.out.below (belowRefl wr).drew)
        have BX6 := hide (BX5.out.below (belowRefl wr).drew)
        have R16 := hide (R15.out.below (belowRefl wr).drew)
        have HB6 := hide (HB5.out.trans ((belowRefl wr).drew.mono HB5.out.size))
        have OR6 := hide (OR5.out.below (belowRefl wr).drew)
        have OW6 := hide (OW5.out.below (belowRefl wr).drew)
        have BO6 := hide (BO5.out.below (belowRefl wr).drew)
        clear BA5 BX5 R15 HB5 OR5 OW5 BO5
        go_wp2
        go_roundw
        case rel => exact ⟨k + 1, by omega, by go_num, HNn, BA6, BX6, R16, HB6, OR6, OW6, BO6⟩
        case measure => simp [intOf]; omega
       ·have g1 : (r.1.toList == t.rs[k].1.toList) = false := by simpa using e1
        have g1s : (t.rs[k].1.toList == r.1.toList) = false := by rw [beq_eq_false_iff_ne]; exact fun h => e1 h.symm
        clear he
        have x4 := BA5.out.c4
        go_wp2
        clear x4
        refine wp_region_held_drew (S := fun w' => w'.cell? ⟨w.heap.size, 4, none⟩ = some (.slice (some ⟨bb, off, none⟩) t.rs.length rc) ∧ w'.cell? ⟨w.heap.size + 1, 0, none⟩ = some (.string r.1) ∧ w'.cell? ⟨w.heap.size + 1, 1, none⟩ = some (.string r.2) ∧ w'.cell? ⟨bb, off + k * 2, none⟩ = some (.string t.rs[k].1) ∧ w'.cell? ⟨bb, off + k * 2 + 1, none⟩ = some (.string t.rs[k].2)) (by kernel_rfl) ⟨BA5.out.c4, BX5.out.c0, BX5.out.c1, Q.out.1, Q.out.2⟩ (fun hHeld => ?_)
        (refine tk 0 ?_ rfl (Or.inl ⟨by rfl, ?_⟩) ?_; rotate_left; (focus (intro w h; (try dsimp only at h); go_simp; (try with_reducible rfl))); simp only [Act.put, tA, tB, tD, tE, tF])
        (refine tk 1 ?_ rfl (Or.inl ⟨by rfl, ?_⟩) ?_; rotate_left; (focus (intro w h; (try dsimp only at h); go_simp; (try with_reducible rfl))); simp only [Act.put, tA, tB, tC, tD, tE, tF])
        (refine tk 2 ?_ rfl (Or.inl ⟨by rfl, ?_⟩) ?_; rotate_left; (focus (intro w h; (try dsimp only at h); go_simp; (try with_reducible rfl))); simp only [Act.put, tA, tB, tC, tD, tE, tF])
        (refine tk 3 ?_ rfl (Or.inl ⟨by rfl, ?_⟩) ?_; rotate_left; (focus (intro w h; (try dsimp only at h); go_simp; (try with_reducible rfl))); simp only [Act.put, tA, tB, tC, tD, tE, tF])
        (refine tk 4 ?_ rfl (Or.inl ⟨by rfl, ?_⟩) ?_; rotate_left; (focus (intro w h; (try dsimp only at h); go_simp; (try with_reducible rfl))); simp only [Act.put, tA, tB, tC, tD, tE, tF])
        (refine tk 5 ?_ rfl (Or.inl ⟨by rfl, ?_⟩) ?_; rotate_left; (focus (intro w h; (try dsimp only at h); go_simp; (try with_reducible rfl))); simp only [Act.put, tA, tB, tC, tD, tE, tF])
        (refine tk 6 ?_ rfl (Or.inl ⟨by rfl, ?_⟩) ?_; rotate_left; (focus (intro w h; (try dsimp only at h); go_simp; (try with_reducible rfl))); simp only [Act.put, tA, tB, tC, tD, tE, tF])
        refine wpAnyH_done (by kernel_rfl) ?_ _
        have BA6 := hide (BA5.out.below (belowRefl wr).drew)
        have BX6 := hide (BX5.out.below (belowRefl wr).drew)
        have R16 := hide (R15.out.below (belowRefl wr).drew)
        have HB6 := hide (HB5.out.trans ((belowRefl wr).drew.mono HB5.out.size))
        have OR6 := hide (OR5.out.below (belowRefl wr).drew)
        have OW6 := hide (OW5.out.below (belowRefl wr).drew)
        have BO6 := hide (BO5.out.below (belowRefl wr).drew)
        clear BA5 BX5 R15 HB5 OR5 OW5 BO5
        go_wp2
        go_roundw
        case rel => exact ⟨k + 1, by omega, by go_num, HNn, BA6, BX6, R16, HB6, OR6, OW6, BO6⟩
        case measure => simp [intOf]; omega
     ·have hlt' : ¬ (k : Int) < (t.rs.length : Int) := by omega
      have HNo : Hid (r ∉ t.rs) := fun hm => by
       obtain ⟨i, hi, e⟩ := List.getElem_of_mem hm
       exact HN.out i hi (by omega) e
      by_cases h8 : t.rs.length = 8
      ·have x4 := BA5.out.c4
       have z8 : (8 : Int) ≤ (t.rs.length : Int) := by omega
       have H8h := hide h8
       clear h8
       have q0_ := R15.out.c0
       have fq0 := R15.out.fz 0
       have q1_ := R15.out.c1
       have fq1 := R15.out.fz 1
       have q2_ := R15.out.c2
       have fq2 := R15.out.fz 2
       have q3_ := R15.out.c3
       have fq3 := R15.out.fz 3
       have q4_ := R15.out.c4
       have fq4 := R15.out.fz 4
       have q5_ := R15.out.c5
       have fq5 := R15.out.fz 5
       have q6_ := R15.out.c6
       have fq6 := R15.out.fz 6
       have q7_ := R15.out.c7
       have fq7 := R15.out.fz 7
       have o0_ := BO5.out.c0
       have o1_ := BO5.out.c1
       have o2_ := BO5.out.c2
       have o3_ := BO5.out.c3
       have o4_ := BO5.out.c4
       have o5_ := BO5.out.c5
       have o6_ := BO5.out.c6
       have o7_ := BO5.out.c7
       go_wp2
       clear q0_ fq0 o0_ q1_ fq1 o1_ q2_ fq2 o2_ q3_ fq3 o3_ q4_ fq4 o4_ q5_ fq5 o5_ q6_ fq6 o6_ q7_ fq7 o7_
       have BA6 := hide (BA5.out.o8P (ob := w.heap.size + 1 + 1) (by omega) (.int .i64 t.id) (.int .i64 t.st) (.int .i64 t.snap) (.int .i64 t.cs) (.slice pa t.rs.length pc) (.slice qa t.ws.length qc) (.bool t.out) (.string t.nm))
       have BX6 := hide (BX5.out.o8P (ob := w.heap.size + 1 + 1) (by omega) (.int .i64 t.id) (.int .i64 t.st) (.int .i64 t.snap) (.int .i64 t.cs) (.slice pa t.rs.length pc) (.slice qa t.ws.length qc) (.bool t.out) (.string t.nm))
       have R16 := hide (R15.out.s8P (.int .i64 t.id) (.int .i64 t.st) (.int .i64 t.snap) (.int .i64 t.cs) (.slice pa t.rs.length pc) (.slice qa t.ws.length qc) (.bool t.out) (.string t.nm))
       have HB6 := hide (below_s8P HB5.out (ob := w.heap.size + 1 + 1) (by omega) (.int .i64 t.id) (.int .i64 t.st) (.int .i64 t.snap) (.int .i64 t.cs) (.slice pa t.rs.length pc) (.slice qa t.ws.length qc) (.bool t.out) (.string t.nm))
       have OR6 : Hid (Lies encR 36 ((((((((wr.setCell ⟨w.heap.size + 1 + 1, 0, none⟩ (.int .i64 t.id)).setCell ⟨w.heap.size + 1 + 1, 1, none⟩ (.int .i64 t.st)).setCell ⟨w.heap.size + 1 + 1, 2, none⟩ (.int .i64 t.snap)).setCell ⟨w.heap.size + 1 + 1, 3, none⟩ (.int .i64 t.cs)).setCell ⟨w.heap.size + 1 + 1, 4, none⟩ (.slice pa t.rs.length pc)).setCell ⟨w.heap.size + 1 + 1, 5, none⟩ (.slice qa t.ws.length qc)).setCell ⟨w.heap.size + 1 + 1, 6, none⟩ (.bool t.out)).setCell ⟨w.heap.size + 1 + 1, 7, none⟩ (.string t.nm)) (w0.heap.size) (m) (.slice pa t.rs.length pc) (t.rs)) := ⟨own_s8P OR5.out.own (ob := w.heap.size + 1 + 1) (by omega) (.int .i64 t.id) (.int .i64 t.st) (.int .i64 t.snap) (.int .i64 t.cs) (.slice pa t.rs.length pc) (.slice qa t.ws.length qc) (.bool t.out) (.string t.nm), OR5.out.up⟩
       have OW6 : Hid (Lies encW 42 ((((((((wr.setCell ⟨w.heap.size + 1 + 1, 0, none⟩ (.int .i64 t.id)).setCell ⟨w.heap.size + 1 + 1, 1, none⟩ (.int .i64 t.st)).setCell ⟨w.heap.size + 1 + 1, 2, none⟩ (.int .i64 t.snap)).setCell ⟨w.heap.size + 1 + 1, 3, none⟩ (.int .i64 t.cs)).setCell ⟨w.heap.size + 1 + 1, 4, none⟩ (.slice pa t.rs.length pc)).setCell ⟨w.heap.size + 1 + 1, 5, none⟩ (.slice qa t.ws.length qc)).setCell ⟨w.heap.size + 1 + 1, 6, none⟩ (.bool t.out)).setCell ⟨w.heap.size + 1 + 1, 7, none⟩ (.string t.nm)) (m) (w1.heap.size) (.slice qa t.ws.length qc) (t.ws)) := ⟨own_s8P OW5.out.own (ob := w.heap.size + 1 + 1) (by omega) (.int .i64 t.id) (.int .i64 t.st) (.int .i64 t.snap) (.int .i64 t.cs) (.slice pa t.rs.length pc) (.slice qa t.ws.length qc) (.bool t.out) (.string t.nm), OW5.out.up⟩
       have BO6 := hide (BO5.out.o8P (ob := w.heap.size + 1 + 1) (by omega) (.int .i64 t.id) (.int .i64 t.st) (.int .i64 t.snap) (.int .i64 t.cs) (.slice pa t.rs.length pc) (.slice qa t.ws.length qc) (.bool t.out) (.string t.nm))
       clear BA5 BX5 R15 HB5 OR5 OW5 BO5
       generalize ((((((((wr.setCell ⟨w.heap.size + 1 + 1, 0, none⟩ (.int .i64 t.id)).setCell ⟨w.heap.size + 1 + 1, 1, none⟩ (.int .i64 t.st)).setCell ⟨w.heap.size + 1 + 1, 2, none⟩ (.int .i64 t.snap)).setCell ⟨w.heap.size + 1 + 1, 3, none⟩ (.int .i64 t.cs)).setCell ⟨w.heap.size + 1 + 1, 4, none⟩ (.slice pa t.rs.length pc)).setCell ⟨w.heap.size + 1 + 1, 5, none⟩ (.slice qa t.ws.length qc)).setCell ⟨w.heap.size + 1 + 1, 6, none⟩ (.bool t.out)).setCell ⟨w.heap.size + 1 + 1, 7, none⟩ (.string t.nm)) = z9 at *
       have q0_ := R16.out.c0
       have fq0 := R16.out.fz 0
       have q1_ := R16.out.c1
       have fq1 := R16.out.fz 1
       have q2_ := R16.out.c2
       have fq2 := R16.out.fz 2
       have q3_ := R16.out.c3
       have fq3 := R16.out.fz 3
       have q4_ := R16.out.c4
       have fq4 := R16.out.fz 4
       have q5_ := R16.out.c5
       have fq5 := R16.out.fz 5
       have q6_ := R16.out.c6
       have fq6 := R16.out.fz 6
       have q7_ := R16.out.c7
       have fq7 := R16.out.fz 7
       exact bodyPost_ret (v := .tuple #[.agg #[.int .i64 t.id, .int .i64 t.st, .int .i64 t.snap, .int .i64 t.cs, .slice pa t.rs.length pc, .slice qa t.ws.length qc, .bool t.out, .string t.nm], .bool false]) (by simp [results, Tryz.results12, go_sem, q0_, q1_, q2_, q3_, q4_, q5_, q6_, q7_]) rfl (by unfold RPost; exact ⟨t, false, pa, pc, qa, qc, Or.inr ⟨by rw [decide_eq_true HS.out, ← HBT.out, ← HB2x.out]; rfl, Or.inr (Or.inl ⟨HNo.out, H8h.out, rfl, rfl⟩)⟩, rfl, ⟨OR6.out.own.grow, OW6.out.own.grow⟩, HB6.out⟩)
      ·have x4 := BA5.out.c4
       have y0 := BX5.out.c0
       have y1 := BX5.out.c1
       have o4 := BO5.out.c4
       have f4 := BO5.out.fz 4
       have z8 : ¬ (8 : Int) ≤ (t.rs.length : Int) := by omega
       have H8h : Hid (t.rs.length ≠ 8) := h8
       clear h8
       have hszw : w1.heap.size < wr.heap.size := BO5.out.lt
       have hb : Below wr.heap.size wr (wr.alloc (.cells #[.string r.1, .string r.2] 36)) := (belowRefl wr).alloc (Nat.le_refl _) _
       have hsz : (wr.alloc (.cells #[.string r.1, .string r.2] 36)).heap.size = wr.heap.size + 1 := by simp
       have BA6 := hide (BA5.out.below hb)
       have BX6 := hide (BX5.out.below hb)
       have R16 := hide (R15.out.below hb)
       have HB6 := hide (HB5.out.trans (hb.mono HB5.out.size))
       have OR6 := hide (OR5.out.below hb)
       have OW6 := hide (OW5.out.below hb)
       have BO6 := hide (BO5.out.below hb)
       clear BA5 BX5 R15 HB5 OR5 OW5 BO5
       go_wp2_with (at_builtin; refine wpAppK (E := encR) 24 36 32 _ Tryz.underlying24 Tryz.info36 rfl (by omega) rfl _ _ rfl (base := w0.heap.size) (v := .slice pa t.rs.length pc) (xs := t.rs) r rone rfl OR6.out.own rfl (heap_alloc_new wr _) (by omega) (by omega) ?_)
       intro g2 c2 v8 ho hg hg2 hlt2
       clear x4 y0 y1 o4 f4 hb
       have hgN : g2 ≠ w1.heap.size ∧ w0.heap.size ≤ g2 := by
        rcases hg2 with e | e
        ·have := OR6.out.lo g2 e; omega
        ·omega
       have BA7 : Hid (Bx v8 (w.heap.size) [.int .i64 t.id, .int .i64 t.st, .int .i64 t.snap, .int .i64 t.cs, .slice ra t.rs.length rc, .slice wa t.ws.length wc, .bool t.out, .string t.nm]) := bx_marked BA6.out hg (fun e => by have := OR6.out.lo _ e; omega)
       have BX7 : Hid (Bx v8 (w.heap.size + 1) [.string r.1, .string r.2]) := bx_marked BX6.out hg (fun e => by have := OR6.out.lo _ e; omega)
       have R17 : Hid (Bx v8 (w.heap.size + 1 + 1) [.int .i64 0, .int .i64 0, .int .i64 0, .int .i64 0, .slice none 0 0, .slice none 0 0, .bool false, .string ⟨#[]⟩]) := bx_marked R16.out hg (fun e => by have := OR6.out.lo _ e; omega)
       have HB7 : Hid (Below w.heap.size w v8) := HB6.out.trans (grown_low hg (fun b e => by have := OR6.out.lo b e; omega) (by omega))
       have OW7 : Hid (Lies encW 42 v8 (m) (w1.heap.size) (.slice qa t.ws.length qc) (t.ws)) := OW6.out.marked2 hg (fun b e => by have := OR6.out.lo b e; omega)
       have BO7 : Hid (Bx v8 (w1.heap.size) [.int .i64 t.id, .int .i64 t.st, .int .i64 t.snap, .int .i64 t.cs, .slice pa t.rs.length pc, .slice qa t.ws.length qc, .bool t.out, .string t.nm]) := bx_marked BO6.out hg (fun e => by have := OR6.out.lo _ e; omega)
       clear BA6 BX6 R16 HB6 OW6 BO6
       clear OR6
       obtain ⟨rs2, hrs2⟩ : ∃ rs2, rs2 = t.rs ++ [r] := ⟨_, rfl⟩
       have hl2 : rs2.length = t.rs.length + 1 := by rw [hrs2]; simp
       rw [← hrs2, ← hl2] at ho
       have HL2 : Hid (t.rs.length + 1 = rs2.length) := hl2.symm
       have HR2 : Hid (rs2 = t.rs ++ [r]) := hrs2
       clear hrs2 hl2 hg hg2
       have OR7 : Hid (GOwn encR 36 v8 (w0.heap.size) (.slice (some ⟨g2, 0, none⟩) rs2.length c2) (rs2)) := by first | exact ho | (show GOwn encR 36 v8 w0.heap.size _ _; rw [hz0]; exact ho)
       have c4 := BO7.out.c4
       have f4 := BO7.out.fz 4
       rw [HL2.out]
       go_upto_region 12 with fail
       clear c4 f4 ho
       have BA8 : Hid (Bx (v8.setCell ⟨w1.heap.size, 4, none⟩ (.slice (some ⟨g2, 0, none⟩) rs2.length c2)) (w.heap.size) [.int .i64 t.id, .int .i64 t.st, .int .i64 t.snap, .int .i64 t.cs, .slice ra t.rs.length rc, .slice wa t.ws.length wc, .bool t.out, .string t.nm]) := BA7.out.setO (p := ⟨w1.heap.size, 4, none⟩) (by show w1.heap.size ≠ w.heap.size; omega) _
       have BX8 : Hid (Bx (v8.setCell ⟨w1.heap.size, 4, none⟩ (.slice (some ⟨g2, 0, none⟩) rs2.length c2)) (w.heap.size + 1) [.string r.1, .string r.2]) := BX7.out.setO (p := ⟨w1.heap.size, 4, none⟩) (by show w1.heap.size ≠ w.heap.size + 1; omega) _
       have R18 : Hid (Bx (v8.setCell ⟨w1.heap.size, 4, none⟩ (.slice (some ⟨g2, 0, none⟩) rs2.length c2)) (w.heap.size + 1 + 1) [.int .i64 0, .int .i64 0, .int .i64 0, .int .i64 0, .slice none 0 0, .slice none 0 0, .bool false, .string ⟨#[]⟩]) := R17.out.setO (p := ⟨w1.heap.size, 4, none⟩) (by show w1.heap.size ≠ w.heap.size + 1 + 1; omega) _
       have HB8 : Hid (Below w.heap.size w (v8.setCell ⟨w1.heap.size, 4, none⟩ (.slice (some ⟨g2, 0, none⟩) rs2.length c2))) := HB7.out.setCell (by show w.heap.size ≤ w1.heap.size; omega) _
       have OW8 : Hid (Lies encW 42 (v8.setCell ⟨w1.heap.size, 4, none⟩ (.slice (some ⟨g2, 0, none⟩) rs2.length c2)) (m) (w1.heap.size) (.slice qa t.ws.length qc) (t.ws)) := OW7.out.setxP (a := ⟨w1.heap.size, 4, none⟩) (fun b hb => (by have := OW7.out.lo b hb; show w1.heap.size ≠ b; omega)) _
       have BO8 : Hid (Bx (v8.setCell ⟨w1.heap.size, 4, none⟩ (.slice (some ⟨g2, 0, none⟩) rs2.length c2)) (w1.heap.size) [.int .i64 t.id, .int .i64 t.st, .int .i64 t.snap, .int .i64 t.cs, .slice (some ⟨g2, 0, none⟩) rs2.length c2, .slice qa t.ws.length qc, .bool t.out, .string t.nm]) := BO7.out.set 4 _
       have OR8 : Hid (GOwn encR 36 (v8.setCell ⟨w1.heap.size, 4, none⟩ (.slice (some ⟨g2, 0, none⟩) rs2.length c2)) (w0.heap.size) (.slice (some ⟨g2, 0, none⟩) rs2.length c2) (rs2)) := own_setP OR7.out (a := ⟨w1.heap.size, 4, none⟩) (fun b hb => (by have hb2 : g2 = b := (by simpa [Value.ownBlock] using hb); have := hgN; show w1.heap.size ≠ b; omega)) _
       clear BA7 BX7 R17 HB7 OW7 BO7 OR7
       generalize (v8.setCell ⟨w1.heap.size, 4, none⟩ (.slice (some ⟨g2, 0, none⟩) rs2.length c2)) = v9 at *
       have HA : Hid (addR t r = ⟨t.id, t.st, t.snap, t.cs, rs2, t.ws, t.out, t.nm⟩) := by show _ = _; rw [HR2.out]; rfl
       have q0_ := R18.out.c0
       have fq0 := R18.out.fz 0
       have q1_ := R18.out.c1
       have fq1 := R18.out.fz 1
       have q2_ := R18.out.c2
       have fq2 := R18.out.fz 2
       have q3_ := R18.out.c3
       have fq3 := R18.out.fz 3
       have q4_ := R18.out.c4
       have fq4 := R18.out.fz 4
       have q5_ := R18.out.c5
       have fq5 := R18.out.fz 5
       have q6_ := R18.out.c6
       have fq6 := R18.out.fz 6
       have q7_ := R18.out.c7
       have fq7 := R18.out.fz 7
       have o0_ := BO8.out.c0
       have o1_ := BO8.out.c1
       have o2_ := BO8.out.c2
       have o3_ := BO8.out.c3
       have o4_ := BO8.out.c4
       have o5_ := BO8.out.c5
       have o6_ := BO8.out.c6
       have o7_ := BO8.out.c7
       go_wp2
       clear q0_ fq0 o0_ q1_ fq1 o1_ q2_ fq2 o2_ q3_ fq3 o3_ q4_ fq4 o4_ q5_ fq5 o5_ q6_ fq6 o6_ q7_ fq7 o7_
       have BA9 := hide (BA8.out.o8P (ob := w.heap.size + 1 + 1) (by omega) (.int .i64 t.id) (.int .i64 t.st) (.int .i64 t.snap) (.int .i64 t.cs) (.slice (some ⟨g2, 0, none⟩) rs2.length c2) (.slice qa t.ws.length qc) (.bool t.out) (.string t.nm))
       have BX9 := hide (BX8.out.o8P (ob := w.heap.size + 1 + 1) (by omega) (.int .i64 t.id) (.int .i64 t.st) (.int .i64 t.snap) (.int .i64 t.cs) (.slice (some ⟨g2, 0, none⟩) rs2.length c2) (.slice qa t.ws.length qc) (.bool t.out) (.string t.nm))
       have R19 := hide (R18.out.s8P (.int .i64 t.id) (.int .i64 t.st) (.int .i64 t.snap) (.int .i64 t.cs) (.slice (some ⟨g2, 0, none⟩) rs2.length c2) (.slice qa t.ws.length qc) (.bool t.out) (.string t.nm))
       have HB9 := hide (below_s8P HB8.out (ob := w.heap.size + 1 + 1) (by omega) (.int .i64 t.id) (.int .i64 t.st) (.int .i64 t.snap) (.int .i64 t.cs) (.slice (some ⟨g2, 0, none⟩) rs2.length c2) (.slice qa t.ws.length qc) (.bool t.out) (.string t.nm))
       have OW9 : Hid (Lies encW 42 ((((((((v9.setCell ⟨w.heap.size + 1 + 1, 0, none⟩ (.int .i64 t.id)).setCell ⟨w.heap.size + 1 + 1, 1, none⟩ (.int .i64 t.st)).setCell ⟨w.heap.size + 1 + 1, 2, none⟩ (.int .i64 t.snap)).setCell ⟨w.heap.size + 1 + 1, 3, none⟩ (.int .i64 t.cs)).setCell ⟨w.heap.size + 1 + 1, 4, none⟩ (.slice (some ⟨g2, 0, none⟩) rs2.length c2)).setCell ⟨w.heap.size + 1 + 1, 5, none⟩ (.slice qa t.ws.length qc)).setCell ⟨w.heap.size + 1 + 1, 6, none⟩ (.bool t.out)).setCell ⟨w.heap.size + 1 + 1, 7, none⟩ (.string t.nm)) (m) (w1.heap.size) (.slice qa t.ws.length qc) (t.ws)) := ⟨own_s8P OW8.out.own (ob := w.heap.size + 1 + 1) (by omega) (.int .i64 t.id) (.int .i64 t.st) (.int .i64 t.snap) (.int .i64 t.cs) (.slice (some ⟨g2, 0, none⟩) rs2.length c2) (.slice qa t.ws.length qc) (.bool t.out) (.string t.nm), OW8.out.up⟩
       have BO9 := hide (BO8.out.o8P (ob := w.heap.size + 1 + 1) (by omega) (.int .i64 t.id) (.int .i64 t.st) (.int .i64 t.snap) (.int .i64 t.cs) (.slice (some ⟨g2, 0, none⟩) rs2.length c2) (.slice qa t.ws.length qc) (.bool t.out) (.string t.nm))
       have OR9 := hide (own_s8P OR8.out (ob := w.heap.size + 1 + 1) (by omega) (.int .i64 t.id) (.int .i64 t.st) (.int .i64 t.snap) (.int .i64 t.cs) (.slice (some ⟨g2, 0, none⟩) rs2.length c2) (.slice qa t.ws.length qc) (.bool t.out) (.string t.nm))
       clear BA8 BX8 R18 HB8 OW8 BO8 OR8
       generalize ((((((((v9.setCell ⟨w.heap.size + 1 + 1, 0, none⟩ (.int .i64 t.id)).setCell ⟨w.heap.size + 1 + 1, 1, none⟩ (.int .i64 t.st)).setCell ⟨w.heap.size + 1 + 1, 2, none⟩ (.int .i64 t.snap)).setCell ⟨w.heap.size + 1 + 1, 3, none⟩ (.int .i64 t.cs)).setCell ⟨w.heap.size + 1 + 1, 4, none⟩ (.slice (some ⟨g2, 0, none⟩) rs2.length c2)).setCell ⟨w.heap.size + 1 + 1, 5, none⟩ (.slice qa t.ws.length qc)).setCell ⟨w.heap.size + 1 + 1, 6, none⟩ (.bool t.out)).setCell ⟨w.heap.size + 1 + 1, 7, none⟩ (.string t.nm)) = z9 at *
       have q0_ := R19.out.c0
       have fq0 := R19.out.fz 0
       have q1_ := R19.out.c1
       have fq1 := R19.out.fz 1
       have q2_ := R19.out.c2
       have fq2 := R19.out.fz 2
       have q3_ := R19.out.c3
       have fq3 := R19.out.fz 3
       have q4_ := R19.out.c4
       have fq4 := R19.out.fz 4
       have q5_ := R19.out.c5
       have fq5 := R19.out.fz 5
       have q6_ := R19.out.c6
       have fq6 := R19.out.fz 6
       have q7_ := R19.out.c7
       have fq7 := R19.out.fz 7
       exact bodyPost_ret (v := .tuple #[.agg #[.int .i64 t.id, .int .i64 t.st, .int .i64 t.snap, .int .i64 t.cs, .slice (some ⟨g2, 0, none⟩) rs2.length c2, .slice qa t.ws.length qc, .bool t.out, .string t.nm], .bool true]) (by simp [results, Tryz.results12, go_sem, q0_, q1_, q2_, q3_, q4_, q5_, q6_, q7_]) rfl (by unfold RPost; exact ⟨⟨t.id, t.st, t.snap, t.cs, rs2, t.ws, t.out, t.nm⟩, true, some ⟨g2, 0, none⟩, c2, qa, qc, Or.inr ⟨by rw [decide_eq_true HS.out, ← HBT.out, ← HB2x.out]; rfl, Or.inr (Or.inr ⟨HNo.out, H8h.out, HA.out.symm, rfl⟩)⟩, rfl, ⟨GOwn.grow (l := rs2) OR9.out, OW9.out.own.grow⟩, HB9.out⟩)
  ·have x1 := BA3.out.c1
   have z1 : (t.st != 1) = true := by simp [hst]
   have HS : Hid (¬ t.st = 1) := hst
   clear hst
   have q0_ := R13.out.c0
   have fq0 := R13.out.fz 0
   have q1_ := R13.out.c1
   have fq1 := R13.out.fz 1
   have q2_ := R13.out.c2
   have fq2 := R13.out.fz 2
   have q3_ := R13.out.c3
   have fq3 := R13.out.fz 3
   have q4_ := R13.out.c4
   have fq4 := R13.out.fz 4
   have q5_ := R13.out.c5
   have fq5 := R13.out.fz 5
   have q6_ := R13.out.c6
   have fq6 := R13.out.fz 6
   have q7_ := R13.out.c7
   have fq7 := R13.out.fz 7
   have o0_ := BO3.out.c0
   have o1_ := BO3.out.c1
   have o2_ := BO3.out.c2
   have o3_ := BO3.out.c3
   have o4_ := BO3.out.c4
   have o5_ := BO3.out.c5
   have o6_ := BO3.out.c6
   have o7_ := BO3.out.c7
   go_wp2
   clear q0_ fq0 o0_ q1_ fq1 o1_ q2_ fq2 o2_ q3_ fq3 o3_ q4_ fq4 o4_ q5_ fq5 o5_ q6_ fq6 o6_ q7_ fq7 o7_
   have BA4 := hide (BA3.out.o8P (ob := w.heap.size + 1 + 1) (by omega) (.int .i64 t.id) (.int .i64 t.st) (.int .i64 t.snap) (.int .i64 t.cs) (.slice pa t.rs.length pc) (.slice qa t.ws.length qc) (.bool t.out) (.string t.nm))
   have BX4 := hide (BX3.out.o8P (ob := w.heap.size + 1 + 1) (by omega) (.int .i64 t.id) (.int .i64 t.st) (.int .i64 t.snap) (.int .i64 t.cs) (.slice pa t.rs.length pc) (.slice qa t.ws.length qc) (.bool t.out) (.string t.nm))
   have R14 := hide (R13.out.s8P (.int .i64 t.id) (.int .i64 t.st) (.int .i64 t.snap) (.int .i64 t.cs) (.slice pa t.rs.length pc) (.slice qa t.ws.length qc) (.bool t.out) (.string t.nm))
   have HB4 := hide (below_s8P HB3.out (ob := w.heap.size + 1 + 1) (by omega) (.int .i64 t.id) (.int .i64 t.st) (.int .i64 t.snap) (.int .i64 t.cs) (.slice pa t.rs.length pc) (.slice qa t.ws.length qc) (.bool t.out) (.string t.nm))
   have OR4 : Hid (Lies encR 36 ((((((((w3.setCell ⟨w.heap.size + 1 + 1, 0, none⟩ (.int .i64 t.id)).setCell ⟨w.heap.size + 1 + 1, 1, none⟩ (.int .i64 t.st)).setCell ⟨w.heap.size + 1 + 1, 2, none⟩ (.int .i64 t.snap)).setCell ⟨w.heap.size + 1 + 1, 3, none⟩ (.int .i64 t.cs)).setCell ⟨w.heap.size + 1 + 1, 4, none⟩ (.slice pa t.rs.length pc)).setCell ⟨w.heap.size + 1 + 1, 5, none⟩ (.slice qa t.ws.length qc)).setCell ⟨w.heap.size + 1 + 1, 6, none⟩ (.bool t.out)).setCell ⟨w.heap.size + 1 + 1, 7, none⟩ (.string t.nm)) (w0.heap.size) (m) (.slice pa t.rs.length pc) (t.rs)) := ⟨own_s8P OR3.out.own (ob := w.heap.size + 1 + 1) (by omega) (.int .i64 t.id) (.int .i64 t.st) (.int .i64 t.snap) (.int .i64 t.cs) (.slice pa t.rs.length pc) (.slice qa t.ws.length qc) (.bool t.out) (.string t.nm), OR3.out.up⟩
   have OW4 : Hid (Lies encW 42 ((((((((w3.setCell ⟨w.heap.size + 1 + 1, 0, none⟩ (.int .i64 t.id)).setCell ⟨w.heap.size + 1 + 1, 1, none⟩ (.int .i64 t.st)).setCell ⟨w.heap.size + 1 + 1, 2, none⟩ (.int .i64 t.snap)).setCell ⟨w.heap.size + 1 + 1, 3, none⟩ (.int .i64 t.cs)).setCell ⟨w.heap.size + 1 + 1, 4, none⟩ (.slice pa t.rs.length pc)).setCell ⟨w.heap.size + 1 + 1, 5, none⟩ (.slice qa t.ws.length qc)).setCell ⟨w.heap.size + 1 + 1, 6, none⟩ (.bool t.out)).setCell ⟨w.heap.size + 1 + 1, 7, none⟩ (.string t.nm)) (m) (w1.heap.size) (.slice qa t.ws.length qc) (t.ws)) := ⟨own_s8P OW3.out.own (ob := w.heap.size + 1 + 1) (by omega) (.int .i64 t.id) (.int .i64 t.st) (.int .i64 t.snap) (.int .i64 t.cs) (.slice pa t.rs.length pc) (.slice qa t.ws.length qc) (.bool t.out) (.string t.nm), OW3.out.up⟩
   have BO4 := hide (BO3.out.o8P (ob := w.heap.size + 1 + 1) (by omega) (.int .i64 t.id) (.int .i64 t.st) (.int .i64 t.snap) (.int .i64 t.cs) (.slice pa t.rs.length pc) (.slice qa t.ws.length qc) (.bool t.out) (.string t.nm))
   clear BA3 BX3 R13 HB3 OR3 OW3 BO3
   generalize ((((((((w3.setCell ⟨w.heap.size + 1 + 1, 0, none⟩ (.int .i64 t.id)).setCell ⟨w.heap.size + 1 + 1, 1, none⟩ (.int .i64 t.st)).setCell ⟨w.heap.size + 1 + 1, 2, none⟩ (.int .i64 t.snap)).setCell ⟨w.heap.size + 1 + 1, 3, none⟩ (.int .i64 t.cs)).setCell ⟨w.heap.size + 1 + 1, 4, none⟩ (.slice pa t.rs.length pc)).setCell ⟨w.heap.size + 1 + 1, 5, none⟩ (.slice qa t.ws.length qc)).setCell ⟨w.heap.size + 1 + 1, 6, none⟩ (.bool t.out)).setCell ⟨w.heap.size + 1 + 1, 7, none⟩ (.string t.nm)) = z9 at *
   have q0_ := R14.out.c0
   have fq0 := R14.out.fz 0
   have q1_ := R14.out.c1
   have fq1 := R14.out.fz 1
   have q2_ := R14.out.c2
   have fq2 := R14.out.fz 2
   have q3_ := R14.out.c3
   have fq3 := R14.out.fz 3
   have q4_ := R14.out.c4
   have fq4 := R14.out.fz 4
   have q5_ := R14.out.c5
   have fq5 := R14.out.fz 5
   have q6_ := R14.out.c6
   have fq6 := R14.out.fz 6
   have q7_ := R14.out.c7
   have fq7 := R14.out.fz 7
   exact bodyPost_ret (v := .tuple #[.agg #[.int .i64 t.id, .int .i64 t.st, .int .i64 t.snap, .int .i64 t.cs, .slice pa t.rs.length pc, .slice qa t.ws.length qc, .bool t.out, .string t.nm], .bool false]) (by simp [results, Tryz.results12, go_sem, q0_, q1_, q2_, q3_, q4_, q5_, q6_, q7_]) rfl (by unfold RPost; exact ⟨t, false, pa, pc, qa, qc, Or.inl ⟨by rw [decide_eq_false HS.out]; rfl, rfl, rfl⟩, rfl, ⟨OR4.out.own.grow, OW4.out.own.grow⟩, HB4.out⟩)

end Go.Proofs.YtnljmdodpffmoaaGreat
