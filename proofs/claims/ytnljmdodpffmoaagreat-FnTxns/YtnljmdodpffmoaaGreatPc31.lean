/- What ReadRange returns: the code. -/
import Derived.Test.YtnljmdodpffmoaaGreatPc01
import Derived.Test.YtnljmdodpffmoaaGreatPc30
import Derived.Test.YtnljmdodpffmoaaGreatPc11
import Derived.Test.YtnljmdodpffmoaaGreatPc20
import Derived.Test.YtnljmdodpffmoaaGreatPc05
import Derived.Deep.RegionHeld3
namespace Go.Proofs.YtnljmdodpffmoaaGreat
open Go.RowKit
open KM
open VM
attribute [local go_sem ↓] Go.wp_at_zero Go.wp_at_succ

def addR (t : Tx) (r : Rg) : Tx := ⟨t.id, t.st, t.snap, t.cs, t.rs ++ [r], t.ws, t.out, t.nm⟩
def RA (t : Tx) (r : Rg) (t' : Tx) (b : Bool) : Prop :=
 (((decide (t.st = 1) && txnB t) && rangeB (r.1, r.2)) = false ∧ t' = t ∧ b = false) ∨
 (((decide (t.st = 1) && txnB t) && rangeB (r.1, r.2)) = true ∧ ((r ∈ t.rs ∧ t' = t ∧ b = true) ∨ (r ∉ t.rs ∧ t.rs.length = 8 ∧ t' = t ∧ b = false) ∨ (r ∉ t.rs ∧ t.rs.length ≠ 8 ∧ t' = addR t r ∧ b = true)))
theorem RA.one {t : Tx} {r : Rg} {t1 t2 : Tx} {b1 b2 : Bool} (h1 : RA t r t1 b1) (h2 : RA t r t2 b2) : t1 = t2 ∧ b1 = b2 := by
 rcases h1 with ⟨e1, rfl, rfl⟩ | ⟨e1, ⟨m1, rfl, rfl⟩ | ⟨m1, l1, rfl, rfl⟩ | ⟨m1, l1, rfl, rfl⟩⟩ <;>
 rcases h2 with ⟨e2, rfl, rfl⟩ | ⟨e2, ⟨m2, rfl, rfl⟩ | ⟨m2, l2, rfl, rfl⟩ | ⟨m2, l2, rfl, rfl⟩⟩ <;>
 first | exact ⟨rfl, rfl⟩ | exact absurd (e1.symm.trans e2) (by decide) | exact absurd m1 m2 | exact absurd m2 m1 | exact absurd l1 l2 | exact absurd l2 l1

set_option maxRecDepth 100000 in
set_option maxHeartbeats 4000000 in
theorem irr (t : Tx) (ra wa : Option Addr) (rc wc : Nat) (r : Rg) (hf : TFit t) (hr8 : t.rs.length ≤ 8) (h8 : t.rs.length = 8 → r ∉ t.rs) (hx : r.1.size ≤ 1048576 ∧ r.2.size ≤ 1048576) (w : World) (hp : TRow w t ra wa) :
  Calls Tryz.prog 11 #[.agg #[.int .i64 t.id, .int .i64 t.st, .int .i64 t.snap, .int .i64 t.cs, .slice ra t.rs.length rc, .slice wa t.ws.length wc, .bool t.out, .string t.nm], .agg #[.string r.1, .string r.2]] w fun e w' => ∃ (t' : Tx) (b : Bool) (ra1 : Option Addr) (rc1 : Nat) (wa1 : Option Addr) (wc1 : Nat), RA t r t' b ∧ e = .returned (.tuple #[.agg #[.int .i64 t'.id, .int .i64 t'.st, .int .i64 t'.snap, .int .i64 t'.cs, .slice ra1 t'.rs.length rc1, .slice wa1 t'.ws.length wc1, .bool t'.out, .string t'.nm], .bool b]) ∧ TRow w' t' ra1 wa1 ∧ Below w.heap.size w w' := by
 have HF : Hid (TFit t) := hf
 have H8 : Hid (t.rs.length = 8 → r ∉ t.rs) := h8
 have HX : Hid (r.1.size ≤ 1048576 ∧ r.2.size ≤ 1048576) := hx
 have HP : Hid (TRow w t ra wa) := hp
 have hwl : t.ws.length ≤ 1048576 := hf.2.2.1
 clear hf h8 hx hp
 obtain ⟨b1, hb1⟩ : ∃ b, b = (decide (t.st = 1) && txnB t) := ⟨_, rfl⟩
 obtain ⟨b2, hb2⟩ : ∃ b, b = rangeB (r.1, r.2) := ⟨_, rfl⟩
 have HB1x := hide hb1
 have HB2x := hide hb2
 have BA0 : Hid (Bx (((w.alloc (.cells #[.int .i64 t.id, .int .i64 t.st, .int .i64 t.snap, .int .i64 t.cs, .slice ra t.rs.length rc, .slice wa t.ws.length wc, .bool t.out, .string t.nm] 27)).alloc (.cells #[.string r.1, .string r.2] 36)).alloc (.cells #[.int .i64 0, .int .i64 0, .int .i64 0, .int .i64 0, .slice none 0 0, .slice none 0 0, .bool false, .string ⟨#[]⟩] 27)) (w.heap.size) [.int .i64 t.id, .int .i64 t.st, .int .i64 t.snap, .int .i64 t.cs, .slice ra t.rs.length rc, .slice wa t.ws.length wc, .bool t.out, .string t.nm]) := ((Bx.new w [.int .i64 t.id, .int .i64 t.st, .int .i64 t.snap, .int .i64 t.cs, .slice ra t.rs.length rc, .slice wa t.ws.length wc, .bool t.out, .string t.nm] 27).alloc _).alloc _
 have BX0 : Hid (Bx (((w.alloc (.cells #[.int .i64 t.id, .int .i64 t.st, .int .i64 t.snap, .int .i64 t.cs, .slice ra t.rs.length rc, .slice wa t.ws.length wc, .bool t.out, .string t.nm] 27)).alloc (.cells #[.string r.1, .string r.2] 36)).alloc (.cells #[.int .i64 0, .int .i64 0, .int .i64 0, .int .i64 0, .slice none 0 0, .slice none 0 0, .bool false, .string ⟨#[]⟩] 27)) (w.heap.size + 1) [.string r.1, .string r.2]) := by have h := (Bx.new (w.alloc (.cells #[.int .i64 t.id, .int .i64 t.st, .int .i64 t.snap, .int .i64 t.cs, .slice ra t.rs.length rc, .slice wa t.ws.length wc, .bool t.out, .string t.nm] 27)) [.string r.1, .string r.2] 36).alloc (.cells #[.int .i64 0, .int .i64 0, .int .i64 0, .int .i64 0, .slice none 0 0, .slice none 0 0, .bool false, .string ⟨#[]⟩] 27); rw [show (w.alloc (.cells #[.int .i64 t.id, .int .i64 t.st, .int .i64 t.snap, .int .i64 t.cs, .slice ra t.rs.length rc, .slice wa t.ws.length wc, .bool t.out, .string t.nm] 27)).heap.size = w.heap.size + 1 by simp] at h; exact h
 have R10 : Hid (Bx (((w.alloc (.cells #[.int .i64 t.id, .int .i64 t.st, .int .i64 t.snap, .int .i64 t.cs, .slice ra t.rs.length rc, .slice wa t.ws.length wc, .bool t.out, .string t.nm] 27)).alloc (.cells #[.string r.1, .string r.2] 36)).alloc (.cells #[.int .i64 0, .int .i64 0, .int .i64 0, .int .i64 0, .slice none 0 0, .slice none 0 0, .bool false, .string ⟨#[]⟩] 27)) (w.heap.size + 1 + 1) [.int .i64 0, .int .i64 0, .int .i64 0, .int .i64 0, .slice none 0 0, .slice none 0 0, .bool false, .string ⟨#[]⟩]) := by have h := Bx.new ((w.alloc (.cells #[.int .i64 t.id, .int .i64 t.st, .int .i64 t.snap, .int .i64 t.cs, .slice ra t.rs.length rc, .slice wa t.ws.length wc, .bool t.out, .string t.nm] 27)).alloc (.cells #[.string r.1, .string r.2] 36)) [.int .i64 0, .int .i64 0, .int .i64 0, .int .i64 0, .slice none 0 0, .slice none 0 0, .bool false, .string ⟨#[]⟩] 27; rw [show ((w.alloc (.cells #[.int .i64 t.id, .int .i64 t.st, .int .i64 t.snap, .int .i64 t.cs, .slice ra t.rs.length rc, .slice wa t.ws.length wc, .bool t.out, .string t.nm] 27)).alloc (.cells #[.string r.1, .string r.2] 36)).heap.size = w.heap.size + 1 + 1 by simp] at h; exact h
 have HB0 : Hid (Below w.heap.size w (((w.alloc (.cells #[.int .i64 t.id, .int .i64 t.st, .int .i64 t.snap, .int .i64 t.cs, .slice ra t.rs.length rc, .slice wa t.ws.length wc, .bool t.out, .string t.nm] 27)).alloc (.cells #[.string r.1, .string r.2] 36)).alloc (.cells #[.int .i64 0, .int .i64 0, .int .i64 0, .int .i64 0, .slice none 0 0, .slice none 0 0, .bool false, .string ⟨#[]⟩] 27))) := (((belowRefl w).alloc (Nat.le_refl _) _).alloc (by simp) _).alloc (by simp; omega) _
 have hz0 : (((w.alloc (.cells #[.int .i64 t.id, .int .i64 t.st, .int .i64 t.snap, .int .i64 t.cs, .slice ra t.rs.length rc, .slice wa t.ws.length wc, .bool t.out, .string t.nm] 27)).alloc (.cells #[.string r.1, .string r.2] 36)).alloc (.cells #[.int .i64 0, .int .i64 0, .int .i64 0, .int .i64 0, .slice none 0 0, .slice none 0 0, .bool false, .string ⟨#[]⟩] 27)).heap.size = w.heap.size + 1 + 1 + 1 := by simp
 go_enter Tryz.func11, Tryz.ntmps11
 go_wp2_with fail
 generalize (((w.alloc (.cells #[.int .i64 t.id, .int .i64 t.st, .int .i64 t.snap, .int .i64 t.cs, .slice ra t.rs.length rc, .slice wa t.ws.length wc, .bool t.out, .string t.nm] 27)).alloc (.cells #[.string r.1, .string r.2] 36)).alloc (.cells #[.int .i64 0, .int .i64 0, .int .i64 0, .int .i64 0, .slice none 0 0, .slice none 0 0, .bool false, .string ⟨#[]⟩] 27)) = w0 at *
 refine (icopyT t ra wa rc wc HF.out _ (HP.out.below HB0.out)).mono ?_
 rintro e w1 ⟨pa, pc, qa, qc, rfl, hl1, hq1⟩
 have hs1 := hq1.size
 obtain ⟨m, p1, p2, k1, k2⟩ := hl1.ex
 have BA1 := hide (BA0.out.below hq1)
 have BX1 := hide (BX0.out.below hq1)
 have R11 := hide (R10.out.below hq1)
 have HB1 := hide (HB0.out.trans (hq1.mono HB0.out.size))
 clear BA0 BX0 R10 HB0
 have OR1 : Hid (Lies encR 36 w1 (w0.heap.size) (m) (.slice pa t.rs.length pc) (t.rs)) := k1
 have OW1 : Hid (Lies encW 42 w1 (m) (w1.heap.size) (.slice qa t.ws.length qc) (t.ws)) := k2
 clear k1 k2 hl1 hq1
 go_upto_region 2 with fail
 have hb : Below w1.heap.size w1 (w1.alloc (.cells #[.int .i64 t.id, .int .i64 t.st, .int .i64 t.snap, .int .i64 t.cs, .slice pa t.rs.length pc, .slice qa t.ws.length qc, .bool t.out, .string t.nm] 27)) := (belowRefl w1).alloc (Nat.le_refl _) _
 have BA2 := hide (BA1.out.below hb)
 have BX2 := hide (BX1.out.below hb)
 have R12 := hide (R11.out.below hb)
 have HB2 := hide (HB1.out.trans (hb.mono HB1.out.size))
 have OR2 := hide (OR1.out.below hb)
 have OW2 := hide (OW1.out.below hb)
 clear BA1 BX1 R11 HB1 OR1 OW1
 have BO2 := hide (Bx.new w1 [.int .i64 t.id, .int .i64 t.st, .int .i64 t.snap, .int .i64 t.cs, .slice pa t.rs.length pc, .slice qa t.ws.length qc, .bool t.out, .string t.nm] 27)
 clear hb
 generalize (w1.alloc (.cells #[.int .i64 t.id, .int .i64 t.st, .int .i64 t.snap, .int .i64 t.cs, .slice pa t.rs.length pc, .slice qa t.ws.length qc, .bool t.out, .string t.nm] 27)) = w2 at *
 have hlw2 : w1.heap.size < w2.heap.size := BO2.out.lt
 have C1 : Hid (∀ w', TRow w' t ra wa → Calls Tryz.prog 40 #[.agg #[.int .i64 t.id, .int .i64 t.st, .int .i64 t.snap, .int .i64 t.cs, .slice ra t.rs.length rc, .slice wa t.ws.length wc, .bool t.out, .string t.nm]] w' fun e w'' => e = .returned (.bool b1) ∧ Below w'.heap.size w' w'') := fun w' h => by rw [hb1]; exact iopen t ra wa rc wc (by omega) (by omega) w' h
 have C2 : Hid (∀ w', Calls Tryz.prog 41 #[.agg #[.string r.1, .string r.2]] w' fun e w'' => e = .returned (.bool b2) ∧ Below w'.heap.size w' w'') := fun w' => by rw [hb2]; exact irange r.1 r.2 w'
 clear hb1 hb2
 have x0 := BA2.out.c0
 have x1 := BA2.out.c1
 have x2 := BA2.out.c2
 have x3 := BA2.out.c3
 have x4 := BA2.out.c4
 have x5 := BA2.out.c5
 have x6 := BA2.out.c6
 have x7 := BA2.out.c7
 go_wp2_with fail
 refine (C1.out _ (HP.out.below HB2.out)).mono ?_
 rintro e w3 ⟨rfl, hq⟩
 have hsw3 := hq.size
 have BA3 := hide (BA2.out.below hq)
 have BX3 := hide (BX2.out.below hq)
 have R13 := hide (R12.out.below hq)
 have HB3 := hide (HB2.out.trans (hq.mono HB2.out.size))
 have OR3 := hide (OR2.out.below hq)
 have OW3 := hide (OW2.out.below hq)
 have BO3 := hide (BO2.out.below hq)
 clear BA2 BX2 R12 HB2 OR2 OW2 BO2
 clear hq x0 x1 x2 x3 x4 x5 x6 x7
 cases b1
 ·have q0_ := R13.out.c0
  have fq0 := R13.out.fz 0
  have q1_ := R13.out.c1
  have fq1 := R13.out.fz 1
  have q2_ := R13.out.c2
  have fq2 := R13.out.fz 2
  have q3_ := R13.out.c3
  have fq3 := R13.out.fz 3
  have q4_ := R13.out.c4
  have fq4 := R13.out.fz 4
  have q5_ := R13.out.c5
  have fq5 := R13.out.fz 5
  have q6_ := R13.out.c6
  have fq6 := R13.out.fz 6
  have q7_ := R13.out.c7
  have fq7 := R13.out.fz 7
  have o0_ := BO3.out.c0
  have o1_ := BO3.out.c1
  have o2_ := BO3.out.c2
  have o3_ := BO3.out.c3
  have o4_ := BO3.out.c4
  have o5_ := BO3.out.c5
  have o6_ := BO3.out.c6
  have o7_ := BO3.out.c7
  go_wp2
  clear q0_ fq0 o0_ q1_ fq1 o1_ q2_ fq2 o2_ q3_ fq3 o3_ q4_ fq4 o4_ q5_ fq5 o5_ q6_ fq6 o6_ q7_ fq7 o7_
  have BA4 := hide (BA3.out.o8P (ob := w.heap.size + 1 + 1) (by omega) (.int .i64 t.id) (.int .i64 t.st) (.int .i64 t.snap) (.int .i64 t.cs) (.slice pa t.rs.length pc) (.slice qa t.ws.length qc) (.bool t.out) (.string t.nm))
  have BX4 := hide (BX3.out.o8P (ob := w.heap.size + 1 + 1) (by omega) (.int .i64 t.id) (.int .i64 t.st) (.int .i64 t.snap) (.int .i64 t.cs) (.slice pa t.rs.length pc) (.slice qa t.ws.length qc) (.bool t.out) (.string t.nm))
  have R14 := hide (R13.out.s8P (.int .i64 t.id) (.int .i64 t.st) (.int .i64 t.snap) (.int .i64 t.cs) (.slice pa t.rs.length pc) (.slice qa t.ws.length qc) (.bool t.out) (.string t.nm))
  have HB4 := hide (below_s8P HB3.out (ob := w.heap.size + 1 + 1) (by omega) (.int .i64 t.id) (.int .i64 t.st) (.int .i64 t.snap) (.int .i64 t.cs) (.slice pa t.rs.length pc) (.slice qa t.ws.length qc) (.bool t.out) (.string t.nm))
  have OR4 : Hid (Lies encR 36 ((((((((w3.setCell ⟨w.heap.size + 1 + 1, 0, none⟩ (.int .i64 t.id)).setCell ⟨w.heap.size + 1 + 1, 1, none⟩ (.int .i64 t.st)).setCell ⟨w.heap.size + 1 + 1, 2, none⟩ (.int .i64 t.snap)).setCell ⟨w.heap.size + 1 + 1, 3, none⟩ (.int .i64 t.cs)).setCell ⟨w.heap.size + 1 + 1, 4, none⟩ (.slice pa t.rs.length pc)).setCell ⟨w.heap.size + 1 + 1, 5, none⟩ (.slice qa t.ws.length qc)).setCell ⟨w.heap.size + 1 + 1, 6, none⟩ (.bool t.out)).setCell ⟨w.heap.size + 1 + 1, 7, none⟩ (.string t.nm)) (w0.heap.size) (m) (.slice pa t.rs.length pc) (t.rs)) := ⟨own_s8P OR3.out.own (ob := w.heap.size + 1 + 1) (by omega) (.int .i64 t.id) (.int .i64 t.st) (.int .i64 t.snap) (.int .i64 t.cs) (.slice pa t.rs.length pc) (.slice qa t.ws.length qc) (.bool t.out) (.string t.nm), OR3.out.up⟩
  have OW4 : Hid (Lies encW 42 ((((((((w3.setCell ⟨w.heap.size + 1 + 1, 0, none⟩ (.int .i64 t.id)).setCell ⟨w.heap.size + 1 + 1, 1, none⟩ (.int .i64 t.st)).setCell ⟨w.heap.size + 1 + 1, 2, none⟩ (.int .i64 t.snap)).setCell ⟨w.heap.size + 1 + 1, 3, none⟩ (.int .i64 t.cs)).setCell ⟨w.heap.size + 1 + 1, 4, none⟩ (.slice pa t.rs.length pc)).setCell ⟨w.heap.size + 1 + 1, 5, none⟩ (.slice qa t.ws.length qc)).setCell ⟨w.heap.size + 1 + 1, 6, none⟩ (.bool t.out)).setCell ⟨w.heap.size + 1 + 1, 7, none⟩ (.string t.nm)) (m) (w1.heap.size) (.slice qa t.ws.length qc) (t.ws)) := ⟨own_s8P OW3.out.own (ob := w.heap.size + 1 + 1) (by omega) (.int .i64 t.id) (.int .i64 t.st) (.int .i64 t.snap) (.int .i64 t.cs) (.slice pa t.rs.length pc) (.slice qa t.ws.length qc) (.bool t.out) (.string t.nm), OW3.out.up⟩
  have BO4 := hide (BO3.out.o8P (ob := w.heap.size + 1 + 1) (by omega) (.int .i64 t.id) (.int .i64 t.st) (.int .i64 t.snap) (.int .i64 t.cs) (.slice pa t.rs.length pc) (.slice qa t.ws.length qc) (.bool t.out) (.string t.nm))
  clear BA3 BX3 R13 HB3 OR3 OW3 BO3
  generalize ((((((((w3.setCell ⟨w.heap.size + 1 + 1, 0, none⟩ (.int .i64 t.id)).setCell ⟨w.heap.size + 1 + 1, 1, none⟩ (.int .i64 t.st)).setCell ⟨w.heap.size + 1 + 1, 2, none⟩ (.int .i64 t.snap)).setCell ⟨w.heap.size + 1 + 1, 3, none⟩ (.int .i64 t.cs)).setCell ⟨w.heap.size + 1 + 1, 4, none⟩ (.slice pa t.rs.length pc)).setCell ⟨w.heap.size + 1 + 1, 5, none⟩ (.slice qa t.ws.length qc)).setCell ⟨w.heap.size + 1 + 1, 6, none⟩ (.bool t.out)).setCell ⟨w.heap.size + 1 + 1, 7, none⟩ (.string t.nm)) = z9 at *
  have q0_ := R14.out.c0
  have fq0 := R14.out.fz 0
  have q1_ := R14.out.c1
  have fq1 := R14.out.fz 1
  have q2_ := R14.out.c2
  have fq2 := R14.out.fz 2
  have q3_ := R14.out.c3
  have fq3 := R14.out.fz 3
  have q4_ := R14.out.c4
  have fq4 := R14.out.fz 4
  have q5_ := R14.out.c5
  have fq5 := R14.out.fz 5
  have q6_ := R14.out.c6
  have fq6 := R14.out.fz 6
  have q7_ := R14.out.c7
  have fq7 := R14.out.fz 7
  exact bodyPost_ret (v := .tuple #[.agg #[.int .i64 t.id, .int .i64 t.st, .int .i64 t.snap, .int .i64 t.cs, .slice pa t.rs.length pc, .slice qa t.ws.length qc, .bool t.out, .string t.nm], .bool false]) (by simp [results, Tryz.results11, go_sem, q0_, q1_, q2_, q3_, q4_, q5_, q6_, q7_]) rfl ⟨t, false, pa, pc, qa, qc, Or.inl ⟨by rw [← HB1x.out, ← HB2x.out]; first | rfl | (cases b2 <;> rfl) | (cases b1 <;> rfl), rfl, rfl⟩, rfl, ⟨OR4.out.own.grow, OW4.out.own.grow⟩, HB4.out⟩
 ·have y0 := BX3.out.c0
  have y1 := BX3.out.c1
  go_wp2_with fail
  refine (C2.out _).mono ?_
  rintro e w4 ⟨rfl, hq⟩
  have hsw4 := hq.size
  have BA4 := hide (BA3.out.below hq)
  have BX4 := hide (BX3.out.below hq)
  have R14 := hide (R13.out.below hq)
  have HB4 := hide (HB3.out.trans (hq.mono HB3.out.size))
  have OR4 := hide (OR3.out.below hq)
  have OW4 := hide (OW3.out.below hq)
  have BO4 := hide (BO3.out.below hq)
  clear BA3 BX3 R13 HB3 OR3 OW3 BO3
  clear hq y0 y1
  cases b2
  ·have q0_ := R14.out.c0
   have fq0 := R14.out.fz 0
   have q1_ := R14.out.c1
   have fq1 := R14.out.fz 1
   have q2_ := R14.out.c2
   have fq2 := R14.out.fz 2
   have q3_ := R14.out.c3
   have fq3 := R14.out.fz 3
   have q4_ := R14.out.c4
   have fq4 := R14.out.fz 4
   have q5_ := R14.out.c5
   have fq5 := R14.out.fz 5
   have q6_ := R14.out.c6
   have fq6 := R14.out.fz 6
   have q7_ := R14.out.c7
   have fq7 := R14.out.fz 7
   have o0_ := BO4.out.c0
   have o1_ := BO4.out.c1
   have o2_ := BO4.out.c2
   have o3_ := BO4.out.c3
   have o4_ := BO4.out.c4
   have o5_ := BO4.out.c5
   have o6_ := BO4.out.c6
   have o7_ := BO4.out.c7
   go_wp2
   clear q0_ fq0 o0_ q1_ fq1 o1_ q2_ fq2 o2_ q3_ fq3 o3_ q4_ fq4 o4_ q5_ fq5 o5_ q6_ fq6 o6_ q7_ fq7 o7_
   have BA5 := hide (BA4.out.o8P (ob := w.heap.size + 1 + 1) (by omega) (.int .i64 t.id) (.int .i64 t.st) (.int .i64 t.snap) (.int .i64 t.cs) (.slice pa t.rs.length pc) (.slice qa t.ws.length qc) (.bool t.out) (.string t.nm))
   have BX5 := hide (BX4.out.o8P (ob := w.heap.size + 1 + 1) (by omega) (.int .i64 t.id) (.int .i64 t.st) (.int .i64 t.snap) (.int .i64 t.cs) (.slice pa t.rs.length pc) (.slice qa t.ws.length qc) (.bool t.out) (.string t.nm))
   have R15 := hide (R14.out.s8P (.int .i64 t.id) (.int .i64 t.st) (.int .i64 t.snap) (.int .i64 t.cs) (.slice pa t.rs.length pc) (.slice qa t.ws.length qc) (.bool t.out) (.string t.nm))
   have HB5 := hide (below_s8P HB4.out (ob := w.heap.size + 1 + 1) (by omega) (.int .i64 t.id) (.int .i64 t.st) (.int .i64 t.snap) (.int .i64 t.cs) (.slice pa t.rs.length pc) (.slice qa t.ws.length qc) (.bool t.out) (.string t.nm))
   have OR5 : Hid (Lies encR 36 ((((((((w4.setCell ⟨w.heap.size + 1 + 1, 0, none⟩ (.int .i64 t.id)).setCell ⟨w.heap.size + 1 + 1, 1, none⟩ (.int .i64 t.st)).setCell ⟨w.heap.size + 1 + 1, 2, none⟩ (.int .i64 t.snap)).setCell ⟨w.heap.size + 1 + 1, 3, none⟩ (.int .i64 t.cs)).setCell ⟨w.heap.size + 1 + 1, 4, none⟩ (.slice pa t.rs.length pc)).setCell ⟨w.heap.size + 1 + 1, 5, none⟩ (.slice qa t.ws.length qc)).setCell ⟨w.heap.size + 1 + 1, 6, none⟩ (.bool t.out)).setCell ⟨w.heap.size + 1 + 1, 7, none⟩ (.string t.nm)) (w0.heap.size) (m) (.slice pa t.rs.length pc) (t.rs)) := ⟨own_s8P OR4.out.own (ob := w.heap.size + 1 + 1) (by omega) (.int .i64 t.id) (.int .i64 t.st) (.int .i64 t.snap) (.int .i64 t.cs) (.slice pa t.rs.length pc) (.slice qa t.ws.length qc) (.bool t.out) (.string t.nm), OR4.out.up⟩
   have OW5 : Hid (Lies encW 42 ((((((((w4.setCell ⟨w.heap.size + 1 + 1, 0, none⟩ (.int .i64 t.id)).setCell ⟨w.heap.size + 1 + 1, 1, none⟩ (.int .i64 t.st)).setCell ⟨w.heap.size + 1 + 1, 2, none⟩ (.int .i64 t.snap)).setCell ⟨w.heap.size + 1 + 1, 3, none⟩ (.int .i64 t.cs)).setCell ⟨w.heap.size + 1 + 1, 4, none⟩ (.slice pa t.rs.length pc)).setCell ⟨w.heap.size + 1 + 1, 5, none⟩ (.slice qa t.ws.length qc)).setCell ⟨w.heap.size + 1 + 1, 6, none⟩ (.bool t.out)).setCell ⟨w.heap.size + 1 + 1, 7, none⟩ (.string t.nm)) (m) (w1.heap.size) (.slice qa t.ws.length qc) (t.ws)) := ⟨own_s8P OW4.out.own (ob := w.heap.size + 1 + 1) (by omega) (.int .i64 t.id) (.int .i64 t.st) (.int .i64 t.snap) (.int .i64 t.cs) (.slice pa t.rs.length pc) (.slice qa t.ws.length qc) (.bool t.out) (.string t.nm), OW4.out.up⟩
   have BO5 := hide (BO4.out.o8P (ob := w.heap.size + 1 + 1) (by omega) (.int .i64 t.id) (.int .i64 t.st) (.int .i64 t.snap) (.int .i64 t.cs) (.slice pa t.rs.length pc) (.slice qa t.ws.length qc) (.bool t.out) (.string t.nm))
   clear BA4 BX4 R14 HB4 OR4 OW4 BO4
   generalize ((((((((w4.setCell ⟨w.heap.size + 1 + 1, 0, none⟩ (.int .i64 t.id)).setCell ⟨w.heap.size + 1 + 1, 1, none⟩ (.int .i64 t.st)).setCell ⟨w.heap.size + 1 + 1, 2, none⟩ (.int .i64 t.snap)).setCell ⟨w.heap.size + 1 + 1, 3, none⟩ (.int .i64 t.cs)).setCell ⟨w.heap.size + 1 + 1, 4, none⟩ (.slice pa t.rs.length pc)).setCell ⟨w.heap.size + 1 + 1, 5, none⟩ (.slice qa t.ws.length qc)).setCell ⟨w.heap.size + 1 + 1, 6, none⟩ (.bool t.out)).setCell ⟨w.heap.size + 1 + 1, 7, none⟩ (.string t.nm)) = z9 at *
   have q0_ := R15.out.c0
   have fq0 := R15.out.fz 0
   have q1_ := R15.out.c1
   have fq1 := R15.out.fz 1
   have q2_ := R15.out.c2
   have fq2 := R15.out.fz 2
   have q3_ := R15.out.c3
   have fq3 := R15.out.fz 3
   have q4_ := R15.out.c4
   have fq4 := R15.out.fz 4
   have q5_ := R15.out.c5
   have fq5 := R15.out.fz 5
   have q6_ := R15.out.c6
   have fq6 := R15.out.fz 6
   have q7_ := R15.out.c7
   have fq7 := R15.out.fz 7
   exact bodyPost_ret (v := .tuple #[.agg #[.int .i64 t.id, .int .i64 t.st, .int .i64 t.snap, .int .i64 t.cs, .slice pa t.rs.length pc, .slice qa t.ws.length qc, .bool t.out, .string t.nm], .bool false]) (by simp [results, Tryz.results11, go_sem, q0_, q1_, q2_, q3_, q4_, q5_, q6_, q7_]) rfl ⟨t, false, pa, pc, qa, qc, Or.inl ⟨by rw [← HB1x.out, ← HB2x.out]; first | rfl | (cases b2 <;> rfl) | (cases b1 <;> rfl), rfl, rfl⟩, rfl, ⟨OR5.out.own.grow, OW5.out.own.grow⟩, HB5.out⟩
  ·by_cases h8 : t.rs.length = 8
   ·have x4 := BA4.out.c4
    have z8 : ((t.rs.length : Int) == 8) = true := by simp; omega
    have h8h := hide h8
    clear h8
    have q0_ := R14.out.c0
    have fq0 := R14.out.fz 0
    have q1_ := R14.out.c1
    have fq1 := R14.out.fz 1
    have q2_ := R14.out.c2
    have fq2 := R14.out.fz 2
    have q3_ := R14.out.c3
    have fq3 := R14.out.fz 3
    have q4_ := R14.out.c4
    have fq4 := R14.out.fz 4
    have q5_ := R14.out.c5
    have fq5 := R14.out.fz 5
    have q6_ := R14.out.c6
    have fq6 := R14.out.fz 6
    have q7_ := R14.out.c7
    have fq7 := R14.out.fz 7
    have o0_ := BO4.out.c0
    have o1_ := BO4.out.c1
    have o2_ := BO4.out.c2
    have o3_ := BO4.out.c3
    have o4_ := BO4.out.c4
    have o5_ := BO4.out.c5
    have o6_ := BO4.out.c6
    have o7_ := BO4.out.c7
    go_wp2
    clear q0_ fq0 o0_ q1_ fq1 o1_ q2_ fq2 o2_ q3_ fq3 o3_ q4_ fq4 o4_ q5_ fq5 o5_ q6_ fq6 o6_ q7_ fq7 o7_
    have BA5 := hide (BA4.out.o8P (ob := w.heap.size + 1 + 1) (by omega) (.int .i64 t.id) (.int .i64 t.st) (.int .i64 t.snap) (.int .i64 t.cs) (.slice pa t.rs.length pc) (.slice qa t.ws.length qc) (.bool t.out) (.string t.nm))
    have BX5 := hide (BX4.out.o8P (ob := w.heap.size + 1 + 1) (by omega) (.int .i64 t.id) (.int .i64 t.st) (.int .i64 t.snap) (.int .i64 t.cs) (.slice pa t.rs.length pc) (.slice qa t.ws.length qc) (.bool t.out) (.string t.nm))
    have R15 := hide (R14.out.s8P (.int .i64 t.id) (.int .i64 t.st) (.int .i64 t.snap) (.int .i64 t.cs) (.slice pa t.rs.length pc) (.slice qa t.ws.length qc) (.bool t.out) (.string t.nm))
    have HB5 := hide (below_s8P HB4.out (ob := w.heap.size + 1 + 1) (by omega) (.int .i64 t.id) (.int .i64 t.st) (.int .i64 t.snap) (.int .i64 t.cs) (.slice pa t.rs.length pc) (.slice qa t.ws.length qc) (.bool t.out) (.string t.nm))
    have OR5 : Hid (Lies encR 36 ((((((((w4.setCell ⟨w.heap.size + 1 + 1, 0, none⟩ (.int .i64 t.id)).setCell ⟨w.heap.size + 1 + 1, 1, none⟩ (.int .i64 t.st)).setCell ⟨w.heap.size + 1 + 1, 2, none⟩ (.int .i64 t.snap)).setCell ⟨w.heap.size + 1 + 1, 3, none⟩ (.int .i64 t.cs)).setCell ⟨w.heap.size + 1 + 1, 4, none⟩ (.slice pa t.rs.length pc)).setCell ⟨w.heap.size + 1 + 1, 5, none⟩ (.slice qa t.ws.length qc)).setCell ⟨w.heap.size + 1 + 1, 6, none⟩ (.bool t.out)).setCell ⟨w.heap.size + 1 + 1, 7, none⟩ (.string t.nm)) (w0.heap.size) (m) (.slice pa t.rs.length pc) (t.rs)) := ⟨own_s8P OR4.out.own (ob := w.heap.size + 1 + 1) (by omega) (.int .i64 t.id) (.int .i64 t.st) (.int .i64 t.snap) (.int .i64 t.cs) (.slice pa t.rs.length pc) (.slice qa t.ws.length qc) (.bool t.out) (.string t.nm), OR4.out.up⟩
    have OW5 : Hid (Lies encW 42 ((((((((w4.setCell ⟨w.heap.size + 1 + 1, 0, none⟩ (.int .i64 t.id)).setCell ⟨w.heap.size + 1 + 1, 1, none⟩ (.int .i64 t.st)).setCell ⟨w.heap.size + 1 + 1, 2, none⟩ (.int .i64 t.snap)).setCell ⟨w.heap.size + 1 + 1, 3, none⟩ (.int .i64 t.cs)).setCell ⟨w.heap.size + 1 + 1, 4, none⟩ (.slice pa t.rs.length pc)).setCell ⟨w.heap.size + 1 + 1, 5, none⟩ (.slice qa t.ws.length qc)).setCell ⟨w.heap.size + 1 + 1, 6, none⟩ (.bool t.out)).setCell ⟨w.heap.size + 1 + 1, 7, none⟩ (.string t.nm)) (m) (w1.heap.size) (.slice qa t.ws.length qc) (t.ws)) := ⟨own_s8P OW4.out.own (ob := w.heap.size + 1 + 1) (by omega) (.int .i64 t.id) (.int .i64 t.st) (.int .i64 t.snap) (.int .i64 t.cs) (.slice pa t.rs.length pc) (.slice qa t.ws.length qc) (.bool t.out) (.string t.nm), OW4.out.up⟩
    have BO5 := hide (BO4.out.o8P (ob := w.heap.size + 1 + 1) (by omega) (.int .i64 t.id) (.int .i64 t.st) (.int .i64 t.snap) (.int .i64 t.cs) (.slice pa t.rs.length pc) (.slice qa t.ws.length qc) (.bool t.out) (.string t.nm))
    clear BA4 BX4 R14 HB4 OR4 OW4 BO4
    generalize ((((((((w4.setCell ⟨w.heap.size + 1 + 1, 0, none⟩ (.int .i64 t.id)).setCell ⟨w.heap.size + 1 + 1, 1, none⟩ (.int .i64 t.st)).setCell ⟨w.heap.size + 1 + 1, 2, none⟩ (.int .i64 t.snap)).setCell ⟨w.heap.size + 1 + 1, 3, none⟩ (.int .i64 t.cs)).setCell ⟨w.heap.size + 1 + 1, 4, none⟩ (.slice pa t.rs.length pc)).setCell ⟨w.heap.size + 1 + 1, 5, none⟩ (.slice qa t.ws.length qc)).setCell ⟨w.heap.size + 1 + 1, 6, none⟩ (.bool t.out)).setCell ⟨w.heap.size + 1 + 1, 7, none⟩ (.string t.nm)) = z9 at *
    have q0_ := R15.out.c0
    have fq0 := R15.out.fz 0
    have q1_ := R15.out.c1
    have fq1 := R15.out.fz 1
    have q2_ := R15.out.c2
    have fq2 := R15.out.fz 2
    have q3_ := R15.out.c3
    have fq3 := R15.out.fz 3
    have q4_ := R15.out.c4
    have fq4 := R15.out.fz 4
    have q5_ := R15.out.c5
    have fq5 := R15.out.fz 5
    have q6_ := R15.out.c6
    have fq6 := R15.out.fz 6
    have q7_ := R15.out.c7
    have fq7 := R15.out.fz 7
    exact bodyPost_ret (v := .tuple #[.agg #[.int .i64 t.id, .int .i64 t.st, .int .i64 t.snap, .int .i64 t.cs, .slice pa t.rs.length pc, .slice qa t.ws.length qc, .bool t.out, .string t.nm], .bool false]) (by simp [results, Tryz.results11, go_sem, q0_, q1_, q2_, q3_, q4_, q5_, q6_, q7_]) rfl ⟨t, false, pa, pc, qa, qc, Or.inr ⟨by rw [← HB1x.out, ← HB2x.out]; rfl, Or.inr (Or.inl ⟨H8.out h8h.out, h8h.out, rfl, rfl⟩)⟩, rfl, ⟨OR5.out.own.grow, OW5.out.own.grow⟩, HB5.out⟩
   ·have x4 := BA4.out.c4
    have y0 := BX4.out.c0
    have y1 := BX4.out.c1
    have z8 : ((t.rs.length : Int) == 8) = false := by simp; omega
    go_wp2_with fail
    refine (hasR t.rs ra rc r (by omega) _ (HP.out.r.below HB4.out)).mono ?_
    rintro e w5 ⟨⟨b3, rfl, hm⟩, hq⟩
    have hsw5 := hq.size
    have HM := hide hm
    have BA5 := hide (BA4.out.below hq)
    have BX5 := hide (BX4.out.below hq)
    have R15 := hide (R14.out.below hq)
    have HB5 := hide (HB4.out.trans (hq.mono HB4.out.size))
    have OR5 := hide (OR4.out.below hq)
    have OW5 := hide (OW4.out.below hq)
    have BO5 := hide (BO4.out.below hq)
    clear BA4 BX4 R14 HB4 OR4 OW4 BO4
    clear hq hm x4 y0 y1 z8
    cases b3
    ·go_upto_region 5 with fail
     refine wp_region_held_drew (S := fun w' => w'.cell? ⟨w.heap.size + 1, 0, none⟩ = some (.string r.1) ∧ w'.cell? ⟨w.heap.size + 1, 1, none⟩ = some (.string r.2)) (by kernel_rfl) ⟨BX5.out.c0, BX5.out.c1⟩ (fun hHeld => ?_)
     have BA6 := hide (BA5.out.below (belowRefl w5).drew)
     have BX6 := hide (BX5.out.below (belowRefl w5).drew)
     have R16 := hide (R15.out.below (belowRefl w5).drew)
     have HB6 := hide (HB5.out.trans ((belowRefl w5).drew.mono HB5.out.size))
     have OR6 := hide (OR5.out.below (belowRefl w5).drew)
     have OW6 := hide (OW5.out.below (belowRefl w5).drew)
     have BO6 := hide (BO5.out.below (belowRefl w5).drew)
     clear BA5 BX5 R15 HB5 OR5 OW5 BO5
     have hdr : w5.drew.heap.size = w5.heap.size := rfl
     generalize w5.drew = v5 at *
     (refine tk 0 ?_ rfl (Or.inl ⟨by rfl, ?_⟩) ?_; rotate_left; (focus (intro w h; (try dsimp only at h); go_simp; (try with_reducible rfl))); simp only [Act.put, tA, tB, tD, tE, tF])
     (refine tk 2 ?_ rfl (Or.inl ⟨by rfl, ?_⟩) ?_; rotate_left; (focus (intro w h; (try dsimp only at h); go_simp; (try with_reducible rfl))); simp only [Act.put, tA, tB, tC, tD, tE, tF])
     refine wpAnyH_ready (rs := [1, 3]) (by kernel_rfl) (by simp) ?_
     refine (AllReadyH.cons rfl (fun K hK => ?_) (AllReadyH.cons rfl (fun K hK => ?_) AllReadyH.nil))
     ·have c4 := BO6.out.c4
      go_simp
      (try go_wp2_with fail)
      refine hK.out _ _ ⟨BX6.out.c0, BX6.out.c1⟩ (fun hHeldX => ?_)
      clear hK K
      clear c4
      refine wpAnyH_ready (rs := [3]) (by kernel_rfl) (by simp) ?_
      refine (AllReadyH.cons rfl (fun K hK => ?_) AllReadyH.nil)
      go_simp
      go_wp2_with fail
      refine (icopyR r HX.out.1 HX.out.2 _).mono ?_
      rintro e v7 ⟨rfl, hq⟩
      have hsv7 := hq.size
      have BA7 := hide (BA6.out.below hq)
      have BX7 := hide (BX6.out.below hq)
      have R17 := hide (R16.out.below hq)
      have HB7 := hide (HB6.out.trans (hq.mono HB6.out.size))
      have OR7 := hide (OR6.out.below hq)
      have OW7 := hide (OW6.out.below hq)
      have BO7 := hide (BO6.out.below hq)
      clear BA6 BX6 R16 HB6 OR6 OW6 BO6
      clear hq
      go_wp2_with fail
      refine hK.out _ _ ⟨BX7.out.c0, BX7.out.c1⟩ (fun hHeldX => ?_)
      clear hK K
      refine wpAnyH_ready (rs := [4]) (by kernel_rfl) (by simp) ?_
      refine (AllReadyH.cons rfl (fun K hK => ?_) AllReadyH.nil)
      go_simp
      have hb : Below v7.heap.size v7 (v7.alloc (.cells #[.string r.1, .string r.2] 36)) := (belowRefl v7).alloc (Nat.le_refl _) _
      have hsz : (v7.alloc (.cells #[.string r.1, .string r.2] 36)).heap.size = v7.heap.size + 1 := by simp
      have BA8 := hide (BA7.out.below hb)
      have BX8 := hide (BX7.out.below hb)
      have R18 := hide (R17.out.below hb)
      have HB8 := hide (HB7.out.trans (hb.mono HB7.out.size))
      have OR8 := hide (OR7.out.below hb)
      have OW8 := hide (OW7.out.below hb)
      have BO8 := hide (BO7.out.below hb)
      clear BA7 BX7 R17 HB7 OR7 OW7 BO7
      refine hK.out _ _ ⟨BX8.out.c0, BX8.out.c1⟩ (fun hHeldX => ?_)
      clear hK K
      clear hb
      refine wpAnyH_ready (rs := [5]) (by kernel_rfl) (by simp) ?_
      refine (AllReadyH.cons rfl (fun K hK => ?_) AllReadyH.nil)
      refine stepAppK (E := encR) 24 36 32 _ Tryz.underlying24 Tryz.info36 rfl (by omega) rfl _ _ rfl (base := w0.heap.size) (v := .slice pa t.rs.length pc) (xs := t.rs) r rone rfl OR8.out.own rfl (heap_alloc_new v7 _) (by omega) (by omega) ?_
      intro g2 c2 v8 ho hg hg2 hlt2
      have hgN : g2 ≠ w1.heap.size ∧ w0.heap.size ≤ g2 := by
       rcases hg2 with e | e
       ·have := OR8.out.lo g2 e; omega
       ·omega
      have BA9 : Hid (Bx v8 (w.heap.size) [.int .i64 t.id, .int .i64 t.st, .int .i64 t.snap, .int .i64 t.cs, .slice ra t.rs.length rc, .slice wa t.ws.length wc, .bool t.out, .string t.nm]) := bx_marked BA8.out hg (fun e => by have := OR8.out.lo _ e; omega)
      have BX9 : Hid (Bx v8 (w.heap.size + 1) [.string r.1, .string r.2]) := bx_marked BX8.out hg (fun e => by have := OR8.out.lo _ e; omega)
      have R19 : Hid (Bx v8 (w.heap.size + 1 + 1) [.int .i64 0, .int .i64 0, .int .i64 0, .int .i64 0, .slice none 0 0, .slice none 0 0, .bool false, .string ⟨#[]⟩]) := bx_marked R18.out hg (fun e => by have := OR8.out.lo _ e; omega)
      have HB9 : Hid (Below w.heap.size w v8) := HB8.out.trans (grown_low hg (fun b e => by have := OR8.out.lo b e; omega) (by omega))
      have OW9 : Hid (Lies encW 42 v8 (m) (w1.heap.size) (.slice qa t.ws.length qc) (t.ws)) := OW8.out.marked2 hg (fun b e => by have := OR8.out.lo b e; omega)
      have BO9 : Hid (Bx v8 (w1.heap.size) [.int .i64 t.id, .int .i64 t.st, .int .i64 t.snap, .int .i64 t.cs, .slice pa t.rs.length pc, .slice qa t.ws.length qc, .bool t.out, .string t.nm]) := bx_marked BO8.out hg (fun e => by have := OR8.out.lo _ e; omega)
      clear BA8 BX8 R18 HB8 OW8 BO8
      clear OR8
      obtain ⟨rs2, hrs2⟩ : ∃ rs2, rs2 = t.rs ++ [r] := ⟨_, rfl⟩
      have hl2 : rs2.length = t.rs.length + 1 := by rw [hrs2]; simp
      rw [← hrs2, ← hl2] at ho
      have HL2 : Hid (t.rs.length + 1 = rs2.length) := hl2.symm
      have HR2 : Hid (rs2 = t.rs ++ [r]) := hrs2
      clear hrs2 hl2 hg hg2
      have OR9 : Hid (GOwn encR 36 v8 (w0.heap.size) (.slice (some ⟨g2, 0, none⟩) rs2.length c2) (rs2)) := ho
      clear ho
      rw [HL2.out]
      refine hK.out _ _ ⟨BX9.out.c0, BX9.out.c1⟩ (fun hHeldX => ?_)
      clear hK K
      (refine tk 6 ?_ rfl (Or.inl ⟨by rfl, ?_⟩) ?_; rotate_left; (focus (intro w h; (try dsimp only at h); go_simp; (try with_reducible rfl))); simp only [Act.put, tA, tB, tC, tD, tE, tF])
      have c4 := BO9.out.c4
      have f4 := BO9.out.fz 4
      refine wpAnyH_ready (rs := [7]) (by kernel_rfl) (by simp) ?_
      refine (AllReadyH.cons rfl (fun K hK => ?_) AllReadyH.nil)
      go_simp
      have BA10 : Hid (Bx (v8.setCell ⟨w1.heap.size, 4, none⟩ (.slice (some ⟨g2, 0, none⟩) rs2.length c2)) (w.heap.size) [.int .i64 t.id, .int .i64 t.st, .int .i64 t.snap, .int .i64 t.cs, .slice ra t.rs.length rc, .slice wa t.ws.length wc, .bool t.out, .string t.nm]) := BA9.out.setO (p := ⟨w1.heap.size, 4, none⟩) (by show w1.heap.size ≠ w.heap.size; omega) _
      have BX10 : Hid (Bx (v8.setCell ⟨w1.heap.size, 4, none⟩ (.slice (some ⟨g2, 0, none⟩) rs2.length c2)) (w.heap.size + 1) [.string r.1, .string r.2]) := BX9.out.setO (p := ⟨w1.heap.size, 4, none⟩) (by show w1.heap.size ≠ w.heap.size + 1; omega) _
      have R110 : Hid (Bx (v8.setCell ⟨w1.heap.size, 4, none⟩ (.slice (some ⟨g2, 0, none⟩) rs2.length c2)) (w.heap.size + 1 + 1) [.int .i64 0, .int .i64 0, .int .i64 0, .int .i64 0, .slice none 0 0, .slice none 0 0, .bool false, .string ⟨#[]⟩]) := R19.out.setO (p := ⟨w1.heap.size, 4, none⟩) (by show w1.heap.size ≠ w.heap.size + 1 + 1; omega) _
      have HB10 : Hid (Below w.heap.size w (v8.setCell ⟨w1.heap.size, 4, none⟩ (.slice (some ⟨g2, 0, none⟩) rs2.length c2))) := HB9.out.setCell (by show w.heap.size ≤ w1.heap.size; omega) _
      have OW10 : Hid (Lies encW 42 (v8.setCell ⟨w1.heap.size, 4, none⟩ (.slice (some ⟨g2, 0, none⟩) rs2.length c2)) (m) (w1.heap.size) (.slice qa t.ws.length qc) (t.ws)) := OW9.out.setxP (a := ⟨w1.heap.size, 4, none⟩) (fun b hb => (by have := OW9.out.lo b hb; show w1.heap.size ≠ b; omega)) _
      have BO10 : Hid (Bx (v8.setCell ⟨w1.heap.size, 4, none⟩ (.slice (some ⟨g2, 0, none⟩) rs2.length c2)) (w1.heap.size) [.int .i64 t.id, .int .i64 t.st, .int .i64 t.snap, .int .i64 t.cs, .slice (some ⟨g2, 0, none⟩) rs2.length c2, .slice qa t.ws.length qc, .bool t.out, .string t.nm]) := BO9.out.set 4 _
      have OR10 : Hid (GOwn encR 36 (v8.setCell ⟨w1.heap.size, 4, none⟩ (.slice (some ⟨g2, 0, none⟩) rs2.length c2)) (w0.heap.size) (.slice (some ⟨g2, 0, none⟩) rs2.length c2) (rs2)) := own_setP OR9.out (a := ⟨w1.heap.size, 4, none⟩) (fun b hb => (by have hb2 : g2 = b := (by simpa [Value.ownBlock] using hb); have := hgN; show w1.heap.size ≠ b; omega)) _
      clear BA9 BX9 R19 HB9 OW9 BO9 OR9
      generalize (v8.setCell ⟨w1.heap.size, 4, none⟩ (.slice (some ⟨g2, 0, none⟩) rs2.length c2)) = v9 at *
      (try go_wp2_with fail)
      refine hK.out _ _ ⟨BX10.out.c0, BX10.out.c1⟩ (fun hHeldX => ?_)
      clear hK K
      refine wpAnyH_done (by kernel_rfl) ?_ _
      clear c4 f4
      have HA : Hid (addR t r = ⟨t.id, t.st, t.snap, t.cs, rs2, t.ws, t.out, t.nm⟩) := by show _ = _; rw [HR2.out]; rfl
      have q0_ := R110.out.c0
      have fq0 := R110.out.fz 0
      have q1_ := R110.out.c1
      have fq1 := R110.out.fz 1
      have q2_ := R110.out.c2
      have fq2 := R110.out.fz 2
      have q3_ := R110.out.c3
      have fq3 := R110.out.fz 3
      have q4_ := R110.out.c4
      have fq4 := R110.out.fz 4
      have q5_ := R110.out.c5
      have fq5 := R110.out.fz 5
      have q6_ := R110.out.c6
      have fq6 := R110.out.fz 6
      have q7_ := R110.out.c7
      have fq7 := R110.out.fz 7
      have o0_ := BO10.out.c0
      have o1_ := BO10.out.c1
      have o2_ := BO10.out.c2
      have o3_ := BO10.out.c3
      have o4_ := BO10.out.c4
      have o5_ := BO10.out.c5
      have o6_ := BO10.out.c6
      have o7_ := BO10.out.c7
      go_wp2
      clear q0_ fq0 o0_ q1_ fq1 o1_ q2_ fq2 o2_ q3_ fq3 o3_ q4_ fq4 o4_ q5_ fq5 o5_ q6_ fq6 o6_ q7_ fq7 o7_
      have BA11 := hide (BA10.out.o8P (ob := w.heap.size + 1 + 1) (by omega) (.int .i64 t.id) (.int .i64 t.st) (.int .i64 t.snap) (.int .i64 t.cs) (.slice (some ⟨g2, 0, none⟩) rs2.length c2) (.slice qa t.ws.length qc) (.bool t.out) (.string t.nm))
      have BX11 := hide (BX10.out.o8P (ob := w.heap.size + 1 + 1) (by omega) (.int .i64 t.id) (.int .i64 t.st) (.int .i64 t.snap) (.int .i64 t.cs) (.slice (some ⟨g2, 0, none⟩) rs2.length c2) (.slice qa t.ws.length qc) (.bool t.out) (.string t.nm))
      have R111 := hide (R110.out.s8P (.int .i64 t.id) (.int .i64 t.st) (.int .i64 t.snap) (.int .i64 t.cs) (.slice (some ⟨g2, 0, none⟩) rs2.length c2) (.slice qa t.ws.length qc) (.bool t.out) (.string t.nm))
      have HB11 := hide (below_s8P HB10.out (ob := w.heap.size + 1 + 1) (by omega) (.int .i64 t.id) (.int .i64 t.st) (.int .i64 t.snap) (.int .i64 t.cs) (.slice (some ⟨g2, 0, none⟩) rs2.length c2) (.slice qa t.ws.length qc) (.bool t.out) (.string t.nm))
      have OW11 : Hid (Lies encW 42 ((((((((v9.setCell ⟨w.heap.size + 1 + 1, 0, none⟩ (.int .i64 t.id)).setCell ⟨w.heap.size + 1 + 1, 1, none⟩ (.int .i64 t.st)).setCell ⟨w.heap.size + 1 + 1, 2, none⟩ (.int .i64 t.snap)).setCell ⟨w.heap.size + 1 + 1, 3, none⟩ (.int .i64 t.cs)).setCell ⟨w.heap.size + 1 + 1, 4, none⟩ (.slice (some ⟨g2, 0, none⟩) rs2.length c2)).setCell ⟨w.heap.size + 1 + 1, 5, none⟩ (.slice qa t.ws.length qc)).setCell ⟨w.heap.size + 1 + 1, 6, none⟩ (.bool t.out)).setCell ⟨w.heap.size + 1 + 1, 7, none⟩ (.string t.nm)) (m) (w1.heap.size) (.slice qa t.ws.length qc) (t.ws)) := ⟨own_s8P OW10.out.own (ob := w.heap.size + 1 + 1) (by omega) (.int .i64 t.id) (.int .i64 t.st) (.int .i64 t.snap) (.int .i64 t.cs) (.slice (some ⟨g2, 0, none⟩) rs2.length c2) (.slice qa t.ws.length qc) (.bool t.out) (.string t.nm), OW10.out.up⟩
      have BO11 := hide (BO10.out.o8P (ob := w.heap.size + 1 + 1) (by omega) (.int .i64 t.id) (.int .i64 t.st) (.int .i64 t.snap) (.int .i64 t.cs) (.slice (some ⟨g2, 0, none⟩) rs2.length c2) (.slice qa t.ws.length qc) (.bool t.out) (.string t.nm))
      have OR11 := hide (own_s8P OR10.out (ob := w.heap.size + 1 + 1) (by omega) (.int .i64 t.id) (.int .i64 t.st) (.int .i64 t.snap) (.int .i64 t.cs) (.slice (some ⟨g2, 0, none⟩) rs2.length c2) (.slice qa t.ws.length qc) (.bool t.out) (.string t.nm))
      clear BA10 BX10 R110 HB10 OW10 BO10 OR10
      generalize ((((((((v9.setCell ⟨w.heap.size + 1 + 1, 0, none⟩ (.int .i64 t.id)).setCell ⟨w.heap.size + 1 + 1, 1, none⟩ (.int .i64 t.st)).setCell ⟨w.heap.size + 1 + 1, 2, none⟩ (.int .i64 t.snap)).setCell ⟨w.heap.size + 1 + 1, 3, none⟩ (.int .i64 t.cs)).setCell ⟨w.heap.size + 1 + 1, 4, none⟩ (.slice (some ⟨g2, 0, none⟩) rs2.length c2)).setCell ⟨w.heap.size + 1 + 1, 5, none⟩ (.slice qa t.ws.length qc)).setCell ⟨w.heap.size + 1 + 1, 6, none⟩ (.bool t.out)).setCell ⟨w.heap.size + 1 + 1, 7, none⟩ (.string t.nm)) = z9 at *
      have q0_ := R111.out.c0
      have fq0 := R111.out.fz 0
      have q1_ := R111.out.c1
      have fq1 := R111.out.fz 1
      have q2_ := R111.out.c2
      have fq2 := R111.out.fz 2
      have q3_ := R111.out.c3
      have fq3 := R111.out.fz 3
      have q4_ := R111.out.c4
      have fq4 := R111.out.fz 4
      have q5_ := R111.out.c5
      have fq5 := R111.out.fz 5
      have q6_ := R111.out.c6
      have fq6 := R111.out.fz 6
      have q7_ := R111.out.c7
      have fq7 := R111.out.fz 7
      exact bodyPost_ret (v := .tuple #[.agg #[.int .i64 t.id, .int .i64 t.st, .int .i64 t.snap, .int .i64 t.cs, .slice (some ⟨g2, 0, none⟩) rs2.length c2, .slice qa t.ws.length qc, .bool t.out, .string t.nm], .bool true]) (by simp [results, Tryz.results11, go_sem, q0_, q1_, q2_, q3_, q4_, q5_, q6_, q7_]) rfl ⟨⟨t.id, t.st, t.snap, t.cs, rs2, t.ws, t.out, t.nm⟩, true, some ⟨g2, 0, none⟩, c2, qa, qc, Or.inr ⟨by rw [← HB1x.out, ← HB2x.out]; rfl, Or.inr (Or.inr ⟨fun h => (by cases HM.out.2 h), h8, HA.out.symm, rfl⟩)⟩, rfl, ⟨GOwn.grow (l := rs2) OR11.out, OW11.out.own.grow⟩, HB11.out⟩
     ·go_simp
      go_wp2_with fail
      refine (icopyR r HX.out.1 HX.out.2 _).mono ?_
      rintro e v7 ⟨rfl, hq⟩
      have hsv7 := hq.size
      have BA7 := hide (BA6.out.below hq)
      have BX7 := hide (BX6.out.below hq)
      have R17 := hide (R16.out.below hq)
      have HB7 := hide (HB6.out.trans (hq.mono HB6.out.size))
      have OR7 := hide (OR6.out.below hq)
      have OW7 := hide (OW6.out.below hq)
      have BO7 := hide (BO6.out.below hq)
      clear BA6 BX6 R16 HB6 OR6 OW6 BO6
      clear hq
      go_wp2_with fail
      refine hK.out _ _ ⟨BX7.out.c0, BX7.out.c1⟩ (fun hHeldX => ?_)
      clear hK K
      refine wpAnyH_ready (rs := [1, 4]) (by kernel_rfl) (by simp) ?_
      refine (AllReadyH.cons rfl (fun K hK => ?_) (AllReadyH.cons rfl (fun K hK => ?_) AllReadyH.nil))
      ·have c4 := BO7.out.c4
       go_simp
       (try go_wp2_with fail)
       refine hK.out _ _ ⟨BX7.out.c0, BX7.out.c1⟩ (fun hHeldX => ?_)
       clear hK K
       clear c4
       refine wpAnyH_ready (rs := [4]) (by kernel_rfl) (by simp) ?_
       refine (AllReadyH.cons rfl (fun K hK => ?_) AllReadyH.nil)
       go_simp
       have hb : Below v7.heap.size v7 (v7.alloc (.cells #[.string r.1, .string r.2] 36)) := (belowRefl v7).alloc (Nat.le_refl _) _
       have hsz : (v7.alloc (.cells #[.string r.1, .string r.2] 36)).heap.size = v7.heap.size + 1 := by simp
       have BA8 := hide (BA7.out.below hb)
       have BX8 := hide (BX7.out.below hb)
       have R18 := hide (R17.out.below hb)
       have HB8 := hide (HB7.out.trans (hb.mono HB7.out.size))
       have OR8 := hide (OR7.out.below hb)
       have OW8 := hide (OW7.out.below hb)
       have BO8 := hide (BO7.out.below hb)
       clear BA7 BX7 R17 HB7 OR7 OW7 BO7
       refine hK.out _ _ ⟨BX8.out.c0, BX8.out.c1⟩ (fun hHeldX => ?_)
       clear hK K
       clear hb
       refine wpAnyH_ready (rs := [5]) (by kernel_rfl) (by simp) ?_
       refine (AllReadyH.cons rfl (fun K hK => ?_) AllReadyH.nil)
       refine stepAppK (E := encR) 24 36 32 _ Tryz.underlying24 Tryz.info36 rfl (by omega) rfl _ _ rfl (base := w0.heap.size) (v := .slice pa t.rs.length pc) (xs := t.rs) r rone rfl OR8.out.own rfl (heap_alloc_new v7 _) (by omega) (by omega) ?_
       intro g2 c2 v8 ho hg hg2 hlt2
       have hgN : g2 ≠ w1.heap.size ∧ w0.heap.size ≤ g2 := by
        rcases hg2 with e | e
        ·have := OR8.out.lo g2 e; omega
        ·omega
       have BA9 : Hid (Bx v8 (w.heap.size) [.int .i64 t.id, .int .i64 t.st, .int .i64 t.snap, .int .i64 t.cs, .slice ra t.rs.length rc, .slice wa t.ws.length wc, .bool t.out, .string t.nm]) := bx_marked BA8.out hg (fun e => by have := OR8.out.lo _ e; omega)
       have BX9 : Hid (Bx v8 (w.heap.size + 1) [.string r.1, .string r.2]) := bx_marked BX8.out hg (fun e => by have := OR8.out.lo _ e; omega)
       have R19 : Hid (Bx v8 (w.heap.size + 1 + 1) [.int .i64 0, .int .i64 0, .int .i64 0, .int .i64 0, .slice none 0 0, .slice none 0 0, .bool false, .string ⟨#[]⟩]) := bx_marked R18.out hg (fun e => by have := OR8.out.lo _ e; omega)
       have HB9 : Hid (Below w.heap.size w v8) := HB8.out.trans (grown_low hg (fun b e => by have := OR8.out.lo b e; omega) (by omega))
       have OW9 : Hid (Lies encW 42 v8 (m) (w1.heap.size) (.slice qa t.ws.length qc) (t.ws)) := OW8.out.marked2 hg (fun b e => by have := OR8.out.lo b e; omega)
       have BO9 : Hid (Bx v8 (w1.heap.size) [.int .i64 t.id, .int .i64 t.st, .int .i64 t.snap, .int .i64 t.cs, .slice pa t.rs.length pc, .slice qa t.ws.length qc, .bool t.out, .string t.nm]) := bx_marked BO8.out hg (fun e => by have := OR8.out.lo _ e; omega)
       clear BA8 BX8 R18 HB8 OW8 BO8
       clear OR8
       obtain ⟨rs2, hrs2⟩ : ∃ rs2, rs2 = t.rs ++ [r] := ⟨_, rfl⟩
       have hl2 : rs2.length = t.rs.length + 1 := by rw [hrs2]; simp
       rw [← hrs2, ← hl2] at ho
       have HL2 : Hid (t.rs.length + 1 = rs2.length) := hl2.symm
       have HR2 : Hid (rs2 = t.rs ++ [r]) := hrs2
       clear hrs2 hl2 hg hg2
       have OR9 : Hid (GOwn encR 36 v8 (w0.heap.size) (.slice (some ⟨g2, 0, none⟩) rs2.length c2) (rs2)) := ho
       clear ho
       rw [HL2.out]
       refine hK.out _ _ ⟨BX9.out.c0, BX9.out.c1⟩ (fun hHeldX => ?_)
       clear hK K
       (refine tk 6 ?_ rfl (Or.inl ⟨by rfl, ?_⟩) ?_; rotate_left; (focus (intro w h; (try dsimp only at h); go_simp; (try with_reducible rfl))); simp only [Act.put, tA, tB, tC, tD, tE, tF])
       have c4 := BO9.out.c4
       have f4 := BO9.out.fz 4
       refine wpAnyH_ready (rs := [7]) (by kernel_rfl) (by simp) ?_
       refine (AllReadyH.cons rfl (fun K hK => ?_) AllReadyH.nil)
       go_simp
       have BA10 : Hid (Bx (v8.setCell ⟨w1.heap.size, 4, none⟩ (.slice (some ⟨g2, 0, none⟩) rs2.length c2)) (w.heap.size) [.int .i64 t.id, .int .i64 t.st, .int .i64 t.snap, .int .i64 t.cs, .slice ra t.rs.length rc, .slice wa t.ws.length wc, .bool t.out, .string t.nm]) := BA9.out.setO (p := ⟨w1.heap.size, 4, none⟩) (by show w1.heap.size ≠ w.heap.size; omega) _
       have BX10 : Hid (Bx (v8.setCell ⟨w1.heap.size, 4, none⟩ (.slice (some ⟨g2, 0, none⟩) rs2.length c2)) (w.heap.size + 1) [.string r.1, .string r.2]) := BX9.out.setO (p := ⟨w1.heap.size, 4, none⟩) (by show w1.heap.size ≠ w.heap.size + 1; omega) _
       have R110 : Hid (Bx (v8.setCell ⟨w1.heap.size, 4, none⟩ (.slice (some ⟨g2, 0, none⟩) rs2.length c2)) (w.heap.size + 1 + 1) [.int .i64 0, .int .i64 0, .int .i64 0, .int .i64 0, .slice none 0 0, .slice none 0 0, .bool false, .string ⟨#[]⟩]) := R19.out.setO (p := ⟨w1.heap.size, 4, none⟩) (by show w1.heap.size ≠ w.heap.size + 1 + 1; omega) _
       have HB10 : Hid (Below w.heap.size w (v8.setCell ⟨w1.heap.size, 4, none⟩ (.slice (some ⟨g2, 0, none⟩) rs2.length c2))) := HB9.out.setCell (by show w.heap.size ≤ w1.heap.size; omega) _
       have OW10 : Hid (Lies encW 42 (v8.setCell ⟨w1.heap.size, 4, none⟩ (.slice (some ⟨g2, 0, none⟩) rs2.length c2)) (m) (w1.heap.size) (.slice qa t.ws.length qc) (t.ws)) := OW9.out.setxP (a := ⟨w1.heap.size, 4, none⟩) (fun b hb => (by have := OW9.out.lo b hb; show w1.heap.size ≠ b; omega)) _
       have BO10 : Hid (Bx (v8.setCell ⟨w1.heap.size, 4, none⟩ (.slice (some ⟨g2, 0, none⟩) rs2.length c2)) (w1.heap.size) [.int .i64 t.id, .int .i64 t.st, .int .i64 t.snap, .int .i64 t.cs, .slice (some ⟨g2, 0, none⟩) rs2.length c2, .slice qa t.ws.length qc, .bool t.out, .string t.nm]) := BO9.out.set 4 _
       have OR10 : Hid (GOwn encR 36 (v8.setCell ⟨w1.heap.size, 4, none⟩ (.slice (some ⟨g2, 0, none⟩) rs2.length c2)) (w0.heap.size) (.slice (some ⟨g2, 0, none⟩) rs2.length c2) (rs2)) := own_setP OR9.out (a := ⟨w1.heap.size, 4, none⟩) (fun b hb => (by have hb2 : g2 = b := (by simpa [Value.ownBlock] using hb); have := hgN; show w1.heap.size ≠ b; omega)) _
       clear BA9 BX9 R19 HB9 OW9 BO9 OR9
       generalize (v8.setCell ⟨w1.heap.size, 4, none⟩ (.slice (some ⟨g2, 0, none⟩) rs2.length c2)) = v9 at *
       (try go_wp2_with fail)
       refine hK.out _ _ ⟨BX10.out.c0, BX10.out.c1⟩ (fun hHeldX => ?_)
       clear hK K
       refine wpAnyH_done (by kernel_rfl) ?_ _
       clear c4 f4
       have HA : Hid (addR t r = ⟨t.id, t.st, t.snap, t.cs, rs2, t.ws, t.out, t.nm⟩) := by show _ = _; rw [HR2.out]; rfl
       have q0_ := R110.out.c0
       have fq0 := R110.out.fz 0
       have q1_ := R110.out.c1
       have fq1 := R110.out.fz 1
       have q2_ := R110.out.c2
       have fq2 := R110.out.fz 2
       have q3_ := R110.out.c3
       have fq3 := R110.out.fz 3
       have q4_ := R110.out.c4
       have fq4 := R110.out.fz 4
       have q5_ := R110.out.c5
       have fq5 := R110.out.fz 5
       have q6_ := R110.out.c6
       have fq6 := R110.out.fz 6
       have q7_ := R110.out.c7
       have fq7 := R110.out.fz 7
       have o0_ := BO10.out.c0
       have o1_ := BO10.out.c1
       have o2_ := BO10.out.c2
       have o3_ := BO10.out.c3
       have o4_ := BO10.out.c4
       have o5_ := BO10.out.c5
       have o6_ := BO10.out.c6
       have o7_ := BO10.out.c7
       go_wp2
       clear q0_ fq0 o0_ q1_ fq1 o1_ q2_ fq2 o2_ q3_ fq3 o3_ q4_ fq4 o4_ q5_ fq5 o5_ q6_ fq6 o6_ q7_ fq7 o7_
       have BA11 := hide (BA10.out.o8P (ob := w.heap.size + 1 + 1) (by omega) (.int .i64 t.id) (.int .i64 t.st) (.int .i64 t.snap) (.int .i64 t.cs) (.slice (some ⟨g2, 0, none⟩) rs2.length c2) (.slice qa t.ws.length qc) (.bool t.out) (.string t.nm))
       have BX11 := hide (BX10.out.o8P (ob := w.heap.size + 1 + 1) (by omega) (.int .i64 t.id) (.int .i64 t.st) (.int .i64 t.snap) (.int .i64 t.cs) (.slice (some ⟨g2, 0, none⟩) rs2.length c2) (.slice qa t.ws.length qc) (.bool t.out) (.string t.nm))
       have R111 := hide (R110.out.s8P (.int .i64 t.id) (.int .i64 t.st) (.int .i64 t.snap) (.int .i64 t.cs) (.slice (some ⟨g2, 0, none⟩) rs2.length c2) (.slice qa t.ws.length qc) (.bool t.out) (.string t.nm))
       have HB11 := hide (below_s8P HB10.out (ob := w.heap.size + 1 + 1) (by omega) (.int .i64 t.id) (.int .i64 t.st) (.int .i64 t.snap) (.int .i64 t.cs) (.slice (some ⟨g2, 0, none⟩) rs2.length c2) (.slice qa t.ws.length qc) (.bool t.out) (.string t.nm))
       have OW11 : Hid (Lies encW 42 ((((((((v9.setCell ⟨w.heap.size + 1 + 1, 0, none⟩ (.int .i64 t.id)).setCell ⟨w.heap.size + 1 + 1, 1, none⟩ (.int .i64 t.st)).setCell ⟨w.heap.size + 1 + 1, 2, none⟩ (.int .i64 t.snap)).setCell ⟨w.heap.size + 1 + 1, 3, none⟩ (.int .i64 t.cs)).setCell ⟨w.heap.size + 1 + 1, 4, none⟩ (.slice (some ⟨g2, 0, none⟩) rs2.length c2)).setCell ⟨w.heap.size + 1 + 1, 5, none⟩ (.slice qa t.ws.length qc)).setCell ⟨w.heap.size + 1 + 1, 6, none⟩ (.bool t.out)).setCell ⟨w.heap.size + 1 + 1, 7, none⟩ (.string t.nm)) (m) (w1.heap.size) (.slice qa t.ws.length qc) (t.ws)) := ⟨own_s8P OW10.out.own (ob := w.heap.size + 1 + 1) (by omega) (.int .i64 t.id) (.int .i64 t.st) (.int .i64 t.snap) (.int .i64 t.cs) (.slice (some ⟨g2, 0, none⟩) rs2.length c2) (.slice qa t.ws.length qc) (.bool t.out) (.string t.nm), OW10.out.up⟩
       have BO11 := hide (BO10.out.o8P (ob := w.heap.size + 1 + 1) (by omega) (.int .i64 t.id) (.int .i64 t.st) (.int .i64 t.snap) (.int .i64 t.cs) (.slice (some ⟨g2, 0, none⟩) rs2.length c2) (.slice qa t.ws.length qc) (.bool t.out) (.string t.nm))
       have OR11 := hide (own_s8P OR10.out (ob := w.heap.size + 1 + 1) (by omega) (.int .i64 t.id) (.int .i64 t.st) (.int .i64 t.snap) (.int .i64 t.cs) (.slice (some ⟨g2, 0, none⟩) rs2.length c2) (.slice qa t.ws.length qc) (.bool t.out) (.string t.nm))
       clear BA10 BX10 R110 HB10 OW10 BO10 OR10
       generalize ((((((((v9.setCell ⟨w.heap.size + 1 + 1, 0, none⟩ (.int .i64 t.id)).setCell ⟨w.heap.size + 1 + 1, 1, none⟩ (.int .i64 t.st)).setCell ⟨w.heap.size + 1 + 1, 2, none⟩ (.int .i64 t.snap)).setCell ⟨w.heap.size + 1 + 1, 3, none⟩ (.int .i64 t.cs)).setCell ⟨w.heap.size + 1 + 1, 4, none⟩ (.slice (some ⟨g2, 0, none⟩) rs2.length c2)).setCell ⟨w.heap.size + 1 + 1, 5, none⟩ (.slice qa t.ws.length qc)).setCell ⟨w.heap.size + 1 + 1, 6, none⟩ (.bool t.out)).setCell ⟨w.heap.size + 1 + 1, 7, none⟩ (.string t.nm)) = z9 at *
       have q0_ := R111.out.c0
       have fq0 := R111.out.fz 0
       have q1_ := R111.out.c1
       have fq1 := R111.out.fz 1
       have q2_ := R111.out.c2
       have fq2 := R111.out.fz 2
       have q3_ := R111.out.c3
       have fq3 := R111.out.fz 3
       have q4_ := R111.out.c4
       have fq4 := R111.out.fz 4
       have q5_ := R111.out.c5
       have fq5 := R111.out.fz 5
       have q6_ := R111.out.c6
       have fq6 := R111.out.fz 6
       have q7_ := R111.out.c7
       have fq7 := R111.out.fz 7
       exact bodyPost_ret (v := .tuple #[.agg #[.int .i64 t.id, .int .i64 t.st, .int .i64 t.snap, .int .i64 t.cs, .slice (some ⟨g2, 0, none⟩) rs2.length c2, .slice qa t.ws.length qc, .bool t.out, .string t.nm], .bool true]) (by simp [results, Tryz.results11, go_sem, q0_, q1_, q2_, q3_, q4_, q5_, q6_, q7_]) rfl ⟨⟨t.id, t.st, t.snap, t.cs, rs2, t.ws, t.out, t.nm⟩, true, some ⟨g2, 0, none⟩, c2, qa, qc, Or.inr ⟨by rw [← HB1x.out, ← HB2x.out]; rfl, Or.inr (Or.inr ⟨fun h => (by cases HM.out.2 h), h8, HA.out.symm, rfl⟩)⟩, rfl, ⟨GOwn.grow (l := rs2) OR11.out, OW11.out.own.grow⟩, HB11.out⟩
      ·go_simp
       have hb : Below v7.heap.size v7 (v7.alloc (.cells #[.string r.1, .string r.2] 36)) := (belowRefl v7).alloc (Nat.le_refl _) _
       have hsz : (v7.alloc (.cells #[.string r.1, .string r.2] 36)).heap.size = v7.heap.size + 1 := by simp
       have BA8 := hide (BA7.out.below hb)
       have BX8 := hide (BX7.out.below hb)
       have R18 := hide (R17.out.below hb)
       have HB8 := hide (HB7.out.trans (hb.mono HB7.out.size))
       have OR8 := hide (OR7.out.below hb)
       have OW8 := hide (OW7.out.below hb)
       have BO8 := hide (BO7.out.below hb)
       clear BA7 BX7 R17 HB7 OR7 OW7 BO7
       refine hK.out _ _ ⟨BX8.out.c0, BX8.out.c1⟩ (fun hHeldX => ?_)
       clear hK K
       clear hb
       refine wpAnyH_ready (rs := [1]) (by kernel_rfl) (by simp) ?_
       refine (AllReadyH.cons rfl (fun K hK => ?_) AllReadyH.nil)
       have c4 := BO8.out.c4
       go_simp
       (try go_wp2_with fail)
       refine hK.out _ _ ⟨BX8.out.c0, BX8.out.c1⟩ (fun hHeldX => ?_)
       clear hK K
       clear c4
       refine wpAnyH_ready (rs := [5]) (by kernel_rfl) (by simp) ?_
       refine (AllReadyH.cons rfl (fun K hK => ?_) AllReadyH.nil)
       refine stepAppK (E := encR) 24 36 32 _ Tryz.underlying24 Tryz.info36 rfl (by omega) rfl _ _ rfl (base := w0.heap.size) (v := .slice pa t.rs.length pc) (xs := t.rs) r rone rfl OR8.out.own rfl (heap_alloc_new v7 _) (by omega) (by omega) ?_
       intro g2 c2 v8 ho hg hg2 hlt2
       have hgN : g2 ≠ w1.heap.size ∧ w0.heap.size ≤ g2 := by
        rcases hg2 with e | e
        ·have := OR8.out.lo g2 e; omega
        ·omega
       have BA9 : Hid (Bx v8 (w.heap.size) [.int .i64 t.id, .int .i64 t.st, .int .i64 t.snap, .int .i64 t.cs, .slice ra t.rs.length rc, .slice wa t.ws.length wc, .bool t.out, .string t.nm]) := bx_marked BA8.out hg (fun e => by have := OR8.out.lo _ e; omega)
       have BX9 : Hid (Bx v8 (w.heap.size + 1) [.string r.1, .string r.2]) := bx_marked BX8.out hg (fun e => by have := OR8.out.lo _ e; omega)
       have R19 : Hid (Bx v8 (w.heap.size + 1 + 1) [.int .i64 0, .int .i64 0, .int .i64 0, .int .i64 0, .slice none 0 0, .slice none 0 0, .bool false, .string ⟨#[]⟩]) := bx_marked R18.out hg (fun e => by have := OR8.out.lo _ e; omega)
       have HB9 : Hid (Below w.heap.size w v8) := HB8.out.trans (grown_low hg (fun b e => by have := OR8.out.lo b e; omega) (by omega))
       have OW9 : Hid (Lies encW 42 v8 (m) (w1.heap.size) (.slice qa t.ws.length qc) (t.ws)) := OW8.out.marked2 hg (fun b e => by have := OR8.out.lo b e; omega)
       have BO9 : Hid (Bx v8 (w1.heap.size) [.int .i64 t.id, .int .i64 t.st, .int .i64 t.snap, .int .i64 t.cs, .slice pa t.rs.length pc, .slice qa t.ws.length qc, .bool t.out, .string t.nm]) := bx_marked BO8.out hg (fun e => by have := OR8.out.lo _ e; omega)
       clear BA8 BX8 R18 HB8 OW8 BO8
       clear OR8
       obtain ⟨rs2, hrs2⟩ : ∃ rs2, rs2 = t.rs ++ [r] := ⟨_, rfl⟩
       have hl2 : rs2.length = t.rs.length + 1 := by rw [hrs2]; simp
       rw [← hrs2, ← hl2] at ho
       have HL2 : Hid (t.rs.length + 1 = rs2.length) := hl2.symm
       have HR2 : Hid (rs2 = t.rs ++ [r]) := hrs2
       clear hrs2 hl2 hg hg2
       have OR9 : Hid (GOwn encR 36 v8 (w0.heap.size) (.slice (some ⟨g2, 0, none⟩) rs2.length c2) (rs2)) := ho
       clear ho
       rw [HL2.out]
       refine hK.out _ _ ⟨BX9.out.c0, BX9.out.c1⟩ (fun hHeldX => ?_)
       clear hK K
       (refine tk 6 ?_ rfl (Or.inl ⟨by rfl, ?_⟩) ?_; rotate_left; (focus (intro w h; (try dsimp only at h); go_simp; (try with_reducible rfl))); simp only [Act.put, tA, tB, tC, tD, tE, tF])
       have c4 := BO9.out.c4
       have f4 := BO9.out.fz 4
       refine wpAnyH_ready (rs := [7]) (by kernel_rfl) (by simp) ?_
       refine (AllReadyH.cons rfl (fun K hK => ?_) AllReadyH.nil)
       go_simp
       have BA10 : Hid (Bx (v8.setCell ⟨w1.heap.size, 4, none⟩ (.slice (some ⟨g2, 0, none⟩) rs2.length c2)) (w.heap.size) [.int .i64 t.id, .int .i64 t.st, .int .i64 t.snap, .int .i64 t.cs, .slice ra t.rs.length rc, .slice wa t.ws.length wc, .bool t.out, .string t.nm]) := BA9.out.setO (p := ⟨w1.heap.size, 4, none⟩) (by show w1.heap.size ≠ w.heap.size; omega) _
       have BX10 : Hid (Bx (v8.setCell ⟨w1.heap.size, 4, none⟩ (.slice (some ⟨g2, 0, none⟩) rs2.length c2)) (w.heap.size + 1) [.string r.1, .string r.2]) := BX9.out.setO (p := ⟨w1.heap.size, 4, none⟩) (by show w1.heap.size ≠ w.heap.size + 1; omega) _
       have R110 : Hid (Bx (v8.setCell ⟨w1.heap.size, 4, none⟩ (.slice (some ⟨g2, 0, none⟩) rs2.length c2)) (w.heap.size + 1 + 1) [.int .i64 0, .int .i64 0, .int .i64 0, .int .i64 0, .slice none 0 0, .slice none 0 0, .bool false, .string ⟨#[]⟩]) := R19.out.setO (p := ⟨w1.heap.size, 4, none⟩) (by show w1.heap.size ≠ w.heap.size + 1 + 1; omega) _
       have HB10 : Hid (Below w.heap.size w (v8.setCell ⟨w1.heap.size, 4, none⟩ (.slice (some ⟨g2, 0, none⟩) rs2.length c2))) := HB9.out.setCell (by show w.heap.size ≤ w1.heap.size; omega) _
       have OW10 : Hid (Lies encW 42 (v8.setCell ⟨w1.heap.size, 4, none⟩ (.slice (some ⟨g2, 0, none⟩) rs2.length c2)) (m) (w1.heap.size) (.slice qa t.ws.length qc) (t.ws)) := OW9.out.setxP (a := ⟨w1.heap.size, 4, none⟩) (fun b hb => (by have := OW9.out.lo b hb; show w1.heap.size ≠ b; omega)) _
       have BO10 : Hid (Bx (v8.setCell ⟨w1.heap.size, 4, none⟩ (.slice (some ⟨g2, 0, none⟩) rs2.length c2)) (w1.heap.size) [.int .i64 t.id, .int .i64 t.st, .int .i64 t.snap, .int .i64 t.cs, .slice (some ⟨g2, 0, none⟩) rs2.length c2, .slice qa t.ws.length qc, .bool t.out, .string t.nm]) := BO9.out.set 4 _
       have OR10 : Hid (GOwn encR 36 (v8.setCell ⟨w1.heap.size, 4, none⟩ (.slice (some ⟨g2, 0, none⟩) rs2.length c2)) (w0.heap.size) (.slice (some ⟨g2, 0, none⟩) rs2.length c2) (rs2)) := own_setP OR9.out (a := ⟨w1.heap.size, 4, none⟩) (fun b hb => (by have hb2 : g2 = b := (by simpa [Value.ownBlock] using hb); have := hgN; show w1.heap.size ≠ b; omega)) _
       clear BA9 BX9 R19 HB9 OW9 BO9 OR9
       generalize (v8.setCell ⟨w1.heap.size, 4, none⟩ (.slice (some ⟨g2, 0, none⟩) rs2.length c2)) = v9 at *
       (try go_wp2_with fail)
       refine hK.out _ _ ⟨BX10.out.c0, BX10.out.c1⟩ (fun hHeldX => ?_)
       clear hK K
       refine wpAnyH_done (by kernel_rfl) ?_ _
       clear c4 f4
       have HA : Hid (addR t r = ⟨t.id, t.st, t.snap, t.cs, rs2, t.ws, t.out, t.nm⟩) := by show _ = _; rw [HR2.out]; rfl
       have q0_ := R110.out.c0
       have fq0 := R110.out.fz 0
       have q1_ := R110.out.c1
       have fq1 := R110.out.fz 1
       have q2_ := R110.out.c2
       have fq2 := R110.out.fz 2
       have q3_ := R110.out.c3
       have fq3 := R110.out.fz 3
       have q4_ := R110.out.c4
       have fq4 := R110.out.fz 4
       have q5_ := R110.out.c5
       have fq5 := R110.out.fz 5
       have q6_ := R110.out.c6
       have fq6 := R110.out.fz 6
       have q7_ := R110.out.c7
       have fq7 := R110.out.fz 7
       have o0_ := BO10.out.c0
       have o1_ := BO10.out.c1
       have o2_ := BO10.out.c2
       have o3_ := BO10.out.c3
       have o4_ := BO10.out.c4
       have o5_ := BO10.out.c5
       have o6_ := BO10.out.c6
       have o7_ := BO10.out.c7
       go_wp2
       clear q0_ fq0 o0_ q1_ fq1 o1_ q2_ fq2 o2_ q3_ fq3 o3_ q4_ fq4 o4_ q5_ fq5 o5_ q6_ fq6 o6_ q7_ fq7 o7_
       have BA11 := hide (BA10.out.o8P (ob := w.heap.size + 1 + 1) (by omega) (.int .i64 t.id) (.int .i64 t.st) (.int .i64 t.snap) (.int .i64 t.cs) (.slice (some ⟨g2, 0, none⟩) rs2.length c2) (.slice qa t.ws.length qc) (.bool t.out) (.string t.nm))
       have BX11 := hide (BX10.out.o8P (ob := w.heap.size + 1 + 1) (by omega) (.int .i64 t.id) (.int .i64 t.st) (.int .i64 t.snap) (.int .i64 t.cs) (.slice (some ⟨g2, 0, none⟩) rs2.length c2) (.slice qa t.ws.length qc) (.bool t.out) (.string t.nm))
       have R111 := hide (R110.out.s8P (.int .i64 t.id) (.int .i64 t.st) (.int .i64 t.snap) (.int .i64 t.cs) (.slice (some ⟨g2, 0, none⟩) rs2.length c2) (.slice qa t.ws.length qc) (.bool t.out) (.string t.nm))
       have HB11 := hide (below_s8P HB10.out (ob := w.heap.size + 1 + 1) (by omega) (.int .i64 t.id) (.int .i64 t.st) (.int .i64 t.snap) (.int .i64 t.cs) (.slice (some ⟨g2, 0, none⟩) rs2.length c2) (.slice qa t.ws.length qc) (.bool t.out) (.string t.nm))
       have OW11 : Hid (Lies encW 42 ((((((((v9.setCell ⟨w.heap.size + 1 + 1, 0, none⟩ (.int .i64 t.id)).setCell ⟨w.heap.size + 1 + 1, 1, none⟩ (.int .i64 t.st)).setCell ⟨w.heap.size + 1 + 1, 2, none⟩ (.int .i64 t.snap)).setCell ⟨w.heap.size + 1 + 1, 3, none⟩ (.int .i64 t.cs)).setCell ⟨w.heap.size + 1 + 1, 4, none⟩ (.slice (some ⟨g2, 0, none⟩) rs2.length c2)).setCell ⟨w.heap.size + 1 + 1, 5, none⟩ (.slice qa t.ws.length qc)).setCell ⟨w.heap.size + 1 + 1, 6, none⟩ (.bool t.out)).setCell ⟨w.heap.size + 1 + 1, 7, none⟩ (.string t.nm)) (m) (w1.heap.size) (.slice qa t.ws.length qc) (t.ws)) := ⟨own_s8P OW10.out.own (ob := w.heap.size + 1 + 1) (by omega) (.int .i64 t.id) (.int .i64 t.st) (.int .i64 t.snap) (.int .i64 t.cs) (.slice (some ⟨g2, 0, none⟩) rs2.length c2) (.slice qa t.ws.length qc) (.bool t.out) (.string t.nm), OW10.out.up⟩
       have BO11 := hide (BO10.out.o8P (ob := w.heap.size + 1 + 1) (by omega) (.int .i64 t.id) (.int .i64 t.st) (.int .i64 t.snap) (.int .i64 t.cs) (.slice (some ⟨g2, 0, none⟩) rs2.length c2) (.slice qa t.ws.length qc) (.bool t.out) (.string t.nm))
       have OR11 := hide (own_s8P OR10.out (ob := w.heap.size + 1 + 1) (by omega) (.int .i64 t.id) (.int .i64 t.st) (.int .i64 t.snap) (.int .i64 t.cs) (.slice (some ⟨g2, 0, none⟩) rs2.length c2) (.slice qa t.ws.length qc) (.bool t.out) (.string t.nm))
       clear BA10 BX10 R110 HB10 OW10 BO10 OR10
       generalize ((((((((v9.setCell ⟨w.heap.size + 1 + 1, 0, none⟩ (.int .i64 t.id)).setCell ⟨w.heap.size + 1 + 1, 1, none⟩ (.int .i64 t.st)).setCell ⟨w.heap.size + 1 + 1, 2, none⟩ (.int .i64 t.snap)).setCell ⟨w.heap.size + 1 + 1, 3, none⟩ (.int .i64 t.cs)).setCell ⟨w.heap.size + 1 + 1, 4, none⟩ (.slice (some ⟨g2, 0, none⟩) rs2.length c2)).setCell ⟨w.heap.size + 1 + 1, 5, none⟩ (.slice qa t.ws.length qc)).setCell ⟨w.heap.size + 1 + 1, 6, none⟩ (.bool t.out)).setCell ⟨w.heap.size + 1 + 1, 7, none⟩ (.string t.nm)) = z9 at *
       have q0_ := R111.out.c0
       have fq0 := R111.out.fz 0
       have q1_ := R111.out.c1
       have fq1 := R111.out.fz 1
       have q2_ := R111.out.c2
       have fq2 := R111.out.fz 2
       have q3_ := R111.out.c3
       have fq3 := R111.out.fz 3
       have q4_ := R111.out.c4
       have fq4 := R111.out.fz 4
       have q5_ := R111.out.c5
       have fq5 := R111.out.fz 5
       have q6_ := R111.out.c6
       have fq6 := R111.out.fz 6
       have q7_ := R111.out.c7
       have fq7 := R111.out.fz 7
       exact bodyPost_ret (v := .tuple #[.agg #[.int .i64 t.id, .int .i64 t.st, .int .i64 t.snap, .int .i64 t.cs, .slice (some ⟨g2, 0, none⟩) rs2.length c2, .slice qa t.ws.length qc, .bool t.out, .string t.nm], .bool true]) (by simp [results, Tryz.results11, go_sem, q0_, q1_, q2_, q3_, q4_, q5_, q6_, q7_]) rfl ⟨⟨t.id, t.st, t.snap, t.cs, rs2, t.ws, t.out, t.nm⟩, true, some ⟨g2, 0, none⟩, c2, qa, qc, Or.inr ⟨by rw [← HB1x.out, ← HB2x.out]; rfl, Or.inr (Or.inr ⟨fun h => (by cases HM.out.2 h), h8, HA.out.symm, rfl⟩)⟩, rfl, ⟨GOwn.grow (l := rs2) OR11.out, OW11.out.own.grow⟩, HB11.out⟩
    ·have q0_ := R15.out.c0
     have fq0 := R15.out.fz 0
     have q1_ := R15.out.c1
     have fq1 := R15.out.fz 1
     have q2_ := R15.out.c2
     have fq2 := R15.out.fz 2
     have q3_ := R15.out.c3
     have fq3 := R15.out.fz 3
     have q4_ := R15.out.c4
     have fq4 := R15.out.fz 4
     have q5_ := R15.out.c5
     have fq5 := R15.out.fz 5
     have q6_ := R15.out.c6
     have fq6 := R15.out.fz 6
     have q7_ := R15.out.c7
     have fq7 := R15.out.fz 7
     have o0_ := BO5.out.c0
     have o1_ := BO5.out.c1
     have o2_ := BO5.out.c2
     have o3_ := BO5.out.c3
     have o4_ := BO5.out.c4
     have o5_ := BO5.out.c5
     have o6_ := BO5.out.c6
     have o7_ := BO5.out.c7
     go_wp2
     clear q0_ fq0 o0_ q1_ fq1 o1_ q2_ fq2 o2_ q3_ fq3 o3_ q4_ fq4 o4_ q5_ fq5 o5_ q6_ fq6 o6_ q7_ fq7 o7_
     have BA6 := hide (BA5.out.o8P (ob := w.heap.size + 1 + 1) (by omega) (.int .i64 t.id) (.int .i64 t.st) (.int .i64 t.snap) (.int .i64 t.cs) (.slice pa t.rs.length pc) (.slice qa t.ws.length qc) (.bool t.out) (.string t.nm))
     have BX6 := hide (BX5.out.o8P (ob := w.heap.size + 1 + 1) (by omega) (.int .i64 t.id) (.int .i64 t.st) (.int .i64 t.snap) (.int .i64 t.cs) (.slice pa t.rs.length pc) (.slice qa t.ws.length qc) (.bool t.out) (.string t.nm))
     have R16 := hide (R15.out.s8P (.int .i64 t.id) (.int .i64 t.st) (.int .i64 t.snap) (.int .i64 t.cs) (.slice pa t.rs.length pc) (.slice qa t.ws.length qc) (.bool t.out) (.string t.nm))
     have HB6 := hide (below_s8P HB5.out (ob := w.heap.size + 1 + 1) (by omega) (.int .i64 t.id) (.int .i64 t.st) (.int .i64 t.snap) (.int .i64 t.cs) (.slice pa t.rs.length pc) (.slice qa t.ws.length qc) (.bool t.out) (.string t.nm))
     have OR6 : Hid (Lies encR 36 ((((((((w5.setCell ⟨w.heap.size + 1 + 1, 0, none⟩ (.int .i64 t.id)).setCell ⟨w.heap.size + 1 + 1, 1, none⟩ (.int .i64 t.st)).setCell ⟨w.heap.size + 1 + 1, 2, none⟩ (.int .i64 t.snap)).setCell ⟨w.heap.size + 1 + 1, 3, none⟩ (.int .i64 t.cs)).setCell ⟨w.heap.size + 1 + 1, 4, none⟩ (.slice pa t.rs.length pc)).setCell ⟨w.heap.size + 1 + 1, 5, none⟩ (.slice qa t.ws.length qc)).setCell ⟨w.heap.size + 1 + 1, 6, none⟩ (.bool t.out)).setCell ⟨w.heap.size + 1 + 1, 7, none⟩ (.string t.nm)) (w0.heap.size) (m) (.slice pa t.rs.length pc) (t.rs)) := ⟨own_s8P OR5.out.own (ob := w.heap.size + 1 + 1) (by omega) (.int .i64 t.id) (.int .i64 t.st) (.int .i64 t.snap) (.int .i64 t.cs) (.slice pa t.rs.length pc) (.slice qa t.ws.length qc) (.bool t.out) (.string t.nm), OR5.out.up⟩
     have OW6 : Hid (Lies encW 42 ((((((((w5.setCell ⟨w.heap.size + 1 + 1, 0, none⟩ (.int .i64 t.id)).setCell ⟨w.heap.size + 1 + 1, 1, none⟩ (.int .i64 t.st)).setCell ⟨w.heap.size + 1 + 1, 2, none⟩ (.int .i64 t.snap)).setCell ⟨w.heap.size + 1 + 1, 3, none⟩ (.int .i64 t.cs)).setCell ⟨w.heap.size + 1 + 1, 4, none⟩ (.slice pa t.rs.length pc)).setCell ⟨w.heap.size + 1 + 1, 5, none⟩ (.slice qa t.ws.length qc)).setCell ⟨w.heap.size + 1 + 1, 6, none⟩ (.bool t.out)).setCell ⟨w.heap.size + 1 + 1, 7, none⟩ (.string t.nm)) (m) (w1.heap.size) (.slice qa t.ws.length qc) (t.ws)) := ⟨own_s8P OW5.out.own (ob := w.heap.size + 1 + 1) (by omega) (.int .i64 t.id) (.int .i64 t.st) (.int .i64 t.snap) (.int .i64 t.cs) (.slice pa t.rs.length pc) (.slice qa t.ws.length qc) (.bool t.out) (.string t.nm), OW5.out.up⟩
     have BO6 := hide (BO5.out.o8P (ob := w.heap.size + 1 + 1) (by omega) (.int .i64 t.id) (.int .i64 t.st) (.int .i64 t.snap) (.int .i64 t.cs) (.slice pa t.rs.length pc) (.slice qa t.ws.length qc) (.bool t.out) (.string t.nm))
     clear BA5 BX5 R15 HB5 OR5 OW5 BO5
     generalize ((((((((w5.setCell ⟨w.heap.size + 1 + 1, 0, none⟩ (.int .i64 t.id)).setCell ⟨w.heap.size + 1 + 1, 1, none⟩ (.int .i64 t.st)).setCell ⟨w.heap.size + 1 + 1, 2, none⟩ (.int .i64 t.snap)).setCell ⟨w.heap.size + 1 + 1, 3, none⟩ (.int .i64 t.cs)).setCell ⟨w.heap.size + 1 + 1, 4, none⟩ (.slice pa t.rs.length pc)).setCell ⟨w.heap.size + 1 + 1, 5, none⟩ (.slice qa t.ws.length qc)).setCell ⟨w.heap.size + 1 + 1, 6, none⟩ (.bool t.out)).setCell ⟨w.heap.size + 1 + 1, 7, none⟩ (.string t.nm)) = z9 at *
     have q0_ := R16.out.c0
     have fq0 := R16.out.fz 0
     have q1_ := R16.out.c1
     have fq1 := R16.out.fz 1
     have q2_ := R16.out.c2
     have fq2 := R16.out.fz 2
     have q3_ := R16.out.c3
     have fq3 := R16.out.fz 3
     have q4_ := R16.out.c4
     have fq4 := R16.out.fz 4
     have q5_ := R16.out.c5
     have fq5 := R16.out.fz 5
     have q6_ := R16.out.c6
     have fq6 := R16.out.fz 6
     have q7_ := R16.out.c7
     have fq7 := R16.out.fz 7
     exact bodyPost_ret (v := .tuple #[.agg #[.int .i64 t.id, .int .i64 t.st, .int .i64 t.snap, .int .i64 t.cs, .slice pa t.rs.length pc, .slice qa t.ws.length qc, .bool t.out, .string t.nm], .bool true]) (by simp [results, Tryz.results11, go_sem, q0_, q1_, q2_, q3_, q4_, q5_, q6_, q7_]) rfl ⟨t, true, pa, pc, qa, qc, Or.inr ⟨by rw [← HB1x.out, ← HB2x.out]; rfl, Or.inl ⟨HM.out.1 (by first | rfl | trivial), rfl, rfl⟩⟩, rfl, ⟨OR6.out.own.grow, OW6.out.own.grow⟩, HB6.out⟩

end Go.Proofs.YtnljmdodpffmoaaGreat
