/- What WriteKey returns: the specification, of owned rows. -/
import Derived.Test.YtnljmdodpffmoaaGreatPc22
import Derived.Test.YtnljmdodpffmoaaGreatPc12
namespace Go.Proofs.YtnljmdodpffmoaaGreat
open Go.RowKit
open KM
open VM
attribute [local go_sem ↓] Go.wp_at_zero Go.wp_at_succ

structure TwoO (w : World) (lo hi : Nat) (t : Tx) (ra : Option Addr) (rc : Nat) (wa : Option Addr) (wc : Nat) : Prop where
 r : GOwn encR 36 w lo (.slice ra t.rs.length rc) t.rs
 w : GOwn encW 42 w hi (.slice wa t.ws.length wc) t.ws
theorem TwoO.below {w w' : World} {lo hi : Nat} {t : Tx} {ra wa : Option Addr} {rc wc : Nat} (h : TwoO w lo hi t ra rc wa wc) (hb : Below w.heap.size w w') : TwoO w' lo hi t ra rc wa wc := ⟨h.r.below hb, h.w.below hb⟩
theorem TwoO.row {w : World} {lo hi : Nat} {t : Tx} {ra wa : Option Addr} {rc wc : Nat} (h : TwoO w lo hi t ra rc wa wc) : TRow w t ra wa := ⟨h.r.grow, h.w.grow⟩

set_option maxRecDepth 100000 in
set_option maxHeartbeats 4000000 in
theorem twk_no1 (t : Tx) (ra wa : Option Addr) (rc wc : Nat) (x : Wt) (lo hi : Nat) (hf : TFit t) (hx : x.1.size ≤ 1048576 ∧ x.2.1.size ≤ 1048576) (htx : txnB t = false) (w : World) (hp : TwoO w lo hi t ra rc wa wc) :
  Calls Tryz.prog 15 #[.agg #[.int .i64 t.id, .int .i64 t.st, .int .i64 t.snap, .int .i64 t.cs, .slice ra t.rs.length rc, .slice wa t.ws.length wc, .bool t.out, .string t.nm], .agg #[.string x.1, .string x.2.1, .bool x.2.2]] w fun e w' => ∃ ra1 rc1 wa1 wc1, e = .returned (.tuple #[.agg #[.int .i64 t.id, .int .i64 t.st, .int .i64 t.snap, .int .i64 t.cs, .slice ra1 t.rs.length rc1, .slice wa1 t.ws.length wc1, .bool t.out, .string t.nm], .bool false]) ∧ TLie w' w.heap.size w'.heap.size (setW t t.ws) ra1 rc1 wa1 wc1 ∧ Below w.heap.size w w' := by
 have HF : Hid (TFit t) := hf
 have HX : Hid (x.1.size ≤ 1048576 ∧ x.2.1.size ≤ 1048576) := hx
 have hrl : t.rs.length ≤ 1048576 := hf.1
 have hwl : t.ws.length ≤ 1048576 := hf.2.2.1
 clear hf hx
 have HT : Hid (TwoO w lo hi t ra rc wa wc) := hp
 have HP : Hid (TRow w t ra wa) := hp.row
 clear hp
 have C1 : Hid (∀ w, TRow w t ra wa → Calls Tryz.prog 19 #[.agg #[.int .i64 t.id, .int .i64 t.st, .int .i64 t.snap, .int .i64 t.cs, .slice ra t.rs.length rc, .slice wa t.ws.length wc, .bool t.out, .string t.nm]] w fun e w' => e = .returned (.bool false) ∧ Below w.heap.size w w') := fun w h => by have k := stxn t ra wa rc wc HF.out w h; rw [htx] at k; exact k
 clear htx
 have BA0 : Hid (Bx (((w.alloc (.cells #[.int .i64 t.id, .int .i64 t.st, .int .i64 t.snap, .int .i64 t.cs, .slice ra t.rs.length rc, .slice wa t.ws.length wc, .bool t.out, .string t.nm] 27)).alloc (.cells #[.string x.1, .string x.2.1, .bool x.2.2] 42)).alloc (.cells #[.int .i64 0, .int .i64 0, .int .i64 0, .int .i64 0, .slice none 0 0, .slice none 0 0, .bool false, .string ⟨#[]⟩] 27)) w.heap.size [.int .i64 t.id, .int .i64 t.st, .int .i64 t.snap, .int .i64 t.cs, .slice ra t.rs.length rc, .slice wa t.ws.length wc, .bool t.out, .string t.nm]) := ((Bx.new w [.int .i64 t.id, .int .i64 t.st, .int .i64 t.snap, .int .i64 t.cs, .slice ra t.rs.length rc, .slice wa t.ws.length wc, .bool t.out, .string t.nm] 27).alloc _).alloc _
 have BX0 : Hid (Bx (((w.alloc (.cells #[.int .i64 t.id, .int .i64 t.st, .int .i64 t.snap, .int .i64 t.cs, .slice ra t.rs.length rc, .slice wa t.ws.length wc, .bool t.out, .string t.nm] 27)).alloc (.cells #[.string x.1, .string x.2.1, .bool x.2.2] 42)).alloc (.cells #[.int .i64 0, .int .i64 0, .int .i64 0, .int .i64 0, .slice none 0 0, .slice none 0 0, .bool false, .string ⟨#[]⟩] 27)) (w.heap.size + 1) [.string x.1, .string x.2.1, .bool x.2.2]) := by
  have h := (Bx.new (w.alloc (.cells #[.int .i64 t.id, .int .i64 t.st, .int .i64 t.snap, .int .i64 t.cs, .slice ra t.rs.length rc, .slice wa t.ws.length wc, .bool t.out, .string t.nm] 27)) [.string x.1, .string x.2.1, .bool x.2.2] 42).alloc (.cells #[.int .i64 0, .int .i64 0, .int .i64 0, .int .i64 0, .slice none 0 0, .slice none 0 0, .bool false, .string ⟨#[]⟩] 27)
  rw [show (w.alloc (.cells #[.int .i64 t.id, .int .i64 t.st, .int .i64 t.snap, .int .i64 t.cs, .slice ra t.rs.length rc, .slice wa t.ws.length wc, .bool t.out, .string t.nm] 27)).heap.size = w.heap.size + 1 by simp] at h
  exact h
 have BR0 : Hid (Bx (((w.alloc (.cells #[.int .i64 t.id, .int .i64 t.st, .int .i64 t.snap, .int .i64 t.cs, .slice ra t.rs.length rc, .slice wa t.ws.length wc, .bool t.out, .string t.nm] 27)).alloc (.cells #[.string x.1, .string x.2.1, .bool x.2.2] 42)).alloc (.cells #[.int .i64 0, .int .i64 0, .int .i64 0, .int .i64 0, .slice none 0 0, .slice none 0 0, .bool false, .string ⟨#[]⟩] 27)) (w.heap.size + 1 + 1) [.int .i64 0, .int .i64 0, .int .i64 0, .int .i64 0, .slice none 0 0, .slice none 0 0, .bool false, .string ⟨#[]⟩]) := by
  have h := Bx.new ((w.alloc (.cells #[.int .i64 t.id, .int .i64 t.st, .int .i64 t.snap, .int .i64 t.cs, .slice ra t.rs.length rc, .slice wa t.ws.length wc, .bool t.out, .string t.nm] 27)).alloc (.cells #[.string x.1, .string x.2.1, .bool x.2.2] 42)) [.int .i64 0, .int .i64 0, .int .i64 0, .int .i64 0, .slice none 0 0, .slice none 0 0, .bool false, .string ⟨#[]⟩] 27
  rw [show ((w.alloc (.cells #[.int .i64 t.id, .int .i64 t.st, .int .i64 t.snap, .int .i64 t.cs, .slice ra t.rs.length rc, .slice wa t.ws.length wc, .bool t.out, .string t.nm] 27)).alloc (.cells #[.string x.1, .string x.2.1, .bool x.2.2] 42)).heap.size = w.heap.size + 1 + 1 by simp] at h
  exact h
 have HB0 : Hid (Below w.heap.size w (((w.alloc (.cells #[.int .i64 t.id, .int .i64 t.st, .int .i64 t.snap, .int .i64 t.cs, .slice ra t.rs.length rc, .slice wa t.ws.length wc, .bool t.out, .string t.nm] 27)).alloc (.cells #[.string x.1, .string x.2.1, .bool x.2.2] 42)).alloc (.cells #[.int .i64 0, .int .i64 0, .int .i64 0, .int .i64 0, .slice none 0 0, .slice none 0 0, .bool false, .string ⟨#[]⟩] 27))) := (((belowRefl w).alloc (Nat.le_refl _) _).alloc (by simp) _).alloc (by simp; omega) _
 have S0 : Hid ((((w.alloc (.cells #[.int .i64 t.id, .int .i64 t.st, .int .i64 t.snap, .int .i64 t.cs, .slice ra t.rs.length rc, .slice wa t.ws.length wc, .bool t.out, .string t.nm] 27)).alloc (.cells #[.string x.1, .string x.2.1, .bool x.2.2] 42)).alloc (.cells #[.int .i64 0, .int .i64 0, .int .i64 0, .int .i64 0, .slice none 0 0, .slice none 0 0, .bool false, .string ⟨#[]⟩] 27)).heap.size = w.heap.size + 1 + 1 + 1) := by show _ = _; simp
 go_enter Tryz.func15, Tryz.ntmps15
 go_wp2_with fail
 refine (scopyTe t ra wa rc wc lo hi (by omega) (by omega) _ (HT.out.below HB0.out).r (HT.out.below HB0.out).w).mono ?_
 rintro e w1 ⟨pa, pc, qa, qc, rfl, hl1, hb1⟩
 rw [S0.out] at hl1
 have hs1 := hb1.size
 rw [S0.out] at hs1
 have SZ1 : Hid (w.heap.size + 1 + 1 + 1 ≤ w1.heap.size) := hs1
 have hbo : Below w1.heap.size w1 (w1.alloc (.cells #[.int .i64 t.id, .int .i64 t.st, .int .i64 t.snap, .int .i64 t.cs, .slice pa t.rs.length pc, .slice qa t.ws.length qc, .bool t.out, .string t.nm] 27)) := (belowRefl w1).alloc (Nat.le_refl _) _
 have BA1 := hide ((BA0.out.below hb1).below hbo)
 have BX1 := hide ((BX0.out.below hb1).below hbo)
 have BR1 := hide ((BR0.out.below hb1).below hbo)
 have HB1 : Hid (Below w.heap.size w (w1.alloc (.cells #[.int .i64 t.id, .int .i64 t.st, .int .i64 t.snap, .int .i64 t.cs, .slice pa t.rs.length pc, .slice qa t.ws.length qc, .bool t.out, .string t.nm] 27))) := (HB0.out.trans (hb1.mono HB0.out.size)).trans (hbo.mono (by have := SZ1.out; omega))
 have BO1 : Hid (Bx (w1.alloc (.cells #[.int .i64 t.id, .int .i64 t.st, .int .i64 t.snap, .int .i64 t.cs, .slice pa t.rs.length pc, .slice qa t.ws.length qc, .bool t.out, .string t.nm] 27)) w1.heap.size [.int .i64 t.id, .int .i64 t.st, .int .i64 t.snap, .int .i64 t.cs, .slice pa t.rs.length pc, .slice qa t.ws.length qc, .bool t.out, .string t.nm]) := Bx.new w1 [.int .i64 t.id, .int .i64 t.st, .int .i64 t.snap, .int .i64 t.cs, .slice pa t.rs.length pc, .slice qa t.ws.length qc, .bool t.out, .string t.nm] 27
 have L1 : Hid (TLie (w1.alloc (.cells #[.int .i64 t.id, .int .i64 t.st, .int .i64 t.snap, .int .i64 t.cs, .slice pa t.rs.length pc, .slice qa t.ws.length qc, .bool t.out, .string t.nm] 27)) (w.heap.size + 1 + 1 + 1) w1.heap.size t pa pc qa qc) := hl1.below hbo
 have ZA : Hid ((w1.alloc (.cells #[.int .i64 t.id, .int .i64 t.st, .int .i64 t.snap, .int .i64 t.cs, .slice pa t.rs.length pc, .slice qa t.ws.length qc, .bool t.out, .string t.nm] 27)).heap.size = w1.heap.size + 1) := World.size_alloc _ _
 clear hl1 hb1 hbo hs1 BA0 BX0 BR0 HB0
 have x0 := BA1.out.c0
 have x1 := BA1.out.c1
 have x2 := BA1.out.c2
 have x3 := BA1.out.c3
 have x4 := BA1.out.c4
 have x5 := BA1.out.c5
 have x6 := BA1.out.c6
 have x7 := BA1.out.c7
 go_wp2_with fail
 refine (C1.out _ (HP.out.below HB1.out)).mono ?_
 rintro e w5 ⟨rfl, hb5⟩
 have hs5 := hb5.size
 rw [ZA.out] at hs5
 have SZ5 : Hid (w1.heap.size + 1 ≤ w5.heap.size) := hs5
 have BA5 := hide (BA1.out.below hb5)
 have BX5 := hide (BX1.out.below hb5)
 have BR5 := hide (BR1.out.below hb5)
 have BO5 := hide (BO1.out.below hb5)
 have L5 := hide (L1.out.below hb5)
 have HB5 : Hid (Below w.heap.size w w5) := HB1.out.trans (hb5.mono HB1.out.size)
 clear hb5 hs5 x0 x1 x2 x3 x4 x5 x6 x7 BA1 BX1 BR1 BO1 L1 HB1
 have BRn := BR5
 have LL : Hid (TLie w5 (w.heap.size + 1 + 1 + 1) w5.heap.size (setW t t.ws) pa pc qa qc) := TLie.mono (t := setW t t.ws) L5.out (Nat.le_refl _) (by have := SZ5.out; omega)
 have HH := HB5
 clear BR5 HB5 L5
 have o0 := BO5.out.c0
 have q0 := BRn.out.c0
 have fq0 := BRn.out.fz 0
 have o1 := BO5.out.c1
 have q1 := BRn.out.c1
 have fq1 := BRn.out.fz 1
 have o2 := BO5.out.c2
 have q2 := BRn.out.c2
 have fq2 := BRn.out.fz 2
 have o3 := BO5.out.c3
 have q3 := BRn.out.c3
 have fq3 := BRn.out.fz 3
 have o4 := BO5.out.c4
 have q4 := BRn.out.c4
 have fq4 := BRn.out.fz 4
 have o5 := BO5.out.c5
 have q5 := BRn.out.c5
 have fq5 := BRn.out.fz 5
 have o6 := BO5.out.c6
 have q6 := BRn.out.c6
 have fq6 := BRn.out.fz 6
 have o7 := BO5.out.c7
 have q7 := BRn.out.c7
 have fq7 := BRn.out.fz 7
 go_wp2
 refine bodyPost_ret (v := .tuple #[.agg #[.int .i64 t.id, .int .i64 t.st, .int .i64 t.snap, .int .i64 t.cs, .slice pa t.rs.length pc, .slice qa t.ws.length qc, .bool t.out, .string t.nm], .bool false]) (by simp [results, Tryz.results15, go_sem, q0, q1, q2, q3, q4, q5, q6, q7]) rfl ⟨_, _, _, _, rfl, ?_, ?_⟩
 ·exact ((((((((LL.out.set (by show _ + 1 + 1 < _; omega) _).set (by show _ + 1 + 1 < _; omega) _).set (by show _ + 1 + 1 < _; omega) _).set (by show _ + 1 + 1 < _; omega) _).set (by show _ + 1 + 1 < _; omega) _).set (by show _ + 1 + 1 < _; omega) _).set (by show _ + 1 + 1 < _; omega) _).set (by show _ + 1 + 1 < _; omega) _).mono (by omega) (by simp [World.setCell])
 ·exact ((((((((HH.out.setCell (by show _ ≤ _ + 1 + 1; omega) _).setCell (by show _ ≤ _ + 1 + 1; omega) _).setCell (by show _ ≤ _ + 1 + 1; omega) _).setCell (by show _ ≤ _ + 1 + 1; omega) _).setCell (by show _ ≤ _ + 1 + 1; omega) _).setCell (by show _ ≤ _ + 1 + 1; omega) _).setCell (by show _ ≤ _ + 1 + 1; omega) _).setCell (by show _ ≤ _ + 1 + 1; omega) _)

set_option maxRecDepth 100000 in
set_option maxHeartbeats 4000000 in
theorem twk_no2 (t : Tx) (ra wa : Option Addr) (rc wc : Nat) (x : Wt) (lo hi : Nat) (hf : TFit t) (hx : x.1.size ≤ 1048576 ∧ x.2.1.size ≤ 1048576) (htx : txnB t = true) (hst : ¬ t.st = 1) (w : World) (hp : TwoO w lo hi t ra rc wa wc) :
  Calls Tryz.prog 15 #[.agg #[.int .i64 t.id, .int .i64 t.st, .int .i64 t.snap, .int .i64 t.cs, .slice ra t.rs.length rc, .slice wa t.ws.length wc, .bool t.out, .string t.nm], .agg #[.string x.1, .string x.2.1, .bool x.2.2]] w fun e w' => ∃ ra1 rc1 wa1 wc1, e = .returned (.tuple #[.agg #[.int .i64 t.id, .int .i64 t.st, .int .i64 t.snap, .int .i64 t.cs, .slice ra1 t.rs.length rc1, .slice wa1 t.ws.length wc1, .bool t.out, .string t.nm], .bool false]) ∧ TLie w' w.heap.size w'.heap.size (setW t t.ws) ra1 rc1 wa1 wc1 ∧ Below w.heap.size w w' := by
 have HF : Hid (TFit t) := hf
 have HX : Hid (x.1.size ≤ 1048576 ∧ x.2.1.size ≤ 1048576) := hx
 have hrl : t.rs.length ≤ 1048576 := hf.1
 have hwl : t.ws.length ≤ 1048576 := hf.2.2.1
 clear hf hx
 have HT : Hid (TwoO w lo hi t ra rc wa wc) := hp
 have HP : Hid (TRow w t ra wa) := hp.row
 clear hp
 have C1 : Hid (∀ w, TRow w t ra wa → Calls Tryz.prog 19 #[.agg #[.int .i64 t.id, .int .i64 t.st, .int .i64 t.snap, .int .i64 t.cs, .slice ra t.rs.length rc, .slice wa t.ws.length wc, .bool t.out, .string t.nm]] w fun e w' => e = .returned (.bool true) ∧ Below w.heap.size w w') := fun w h => by have k := stxn t ra wa rc wc HF.out w h; rw [htx] at k; exact k
 have hs1 : (t.st != 1) = true := by simp [hst]
 clear htx hst
 have BA0 : Hid (Bx (((w.alloc (.cells #[.int .i64 t.id, .int .i64 t.st, .int .i64 t.snap, .int .i64 t.cs, .slice ra t.rs.length rc, .slice wa t.ws.length wc, .bool t.out, .string t.nm] 27)).alloc (.cells #[.string x.1, .string x.2.1, .bool x.2.2] 42)).alloc (.cells #[.int .i64 0, .int .i64 0, .int .i64 0, .int .i64 0, .slice none 0 0, .slice none 0 0, .bool false, .string ⟨#[]⟩] 27)) w.heap.size [.int .i64 t.id, .int .i64 t.st, .int .i64 t.snap, .int .i64 t.cs, .slice ra t.rs.length rc, .slice wa t.ws.length wc, .bool t.out, .string t.nm]) := ((Bx.new w [.int .i64 t.id, .int .i64 t.st, .int .i64 t.snap, .int .i64 t.cs, .slice ra t.rs.length rc, .slice wa t.ws.length wc, .bool t.out, .string t.nm] 27).alloc _).alloc _
 have BX0 : Hid (Bx (((w.alloc (.cells #[.int .i64 t.id, .int .i64 t.st, .int .i64 t.snap, .int .i64 t.cs, .slice ra t.rs.length rc, .slice wa t.ws.length wc, .bool t.out, .string t.nm] 27)).alloc (.cells #[.string x.1, .string x.2.1, .bool x.2.2] 42)).alloc (.cells #[.int .i64 0, .int .i64 0, .int .i64 0, .int .i64 0, .slice none 0 0, .slice none 0 0, .bool false, .string ⟨#[]⟩] 27)) (w.heap.size + 1) [.string x.1, .string x.2.1, .bool x.2.2]) := by
  have h := (Bx.new (w.alloc (.cells #[.int .i64 t.id, .int .i64 t.st, .int .i64 t.snap, .int .i64 t.cs, .slice ra t.rs.length rc, .slice wa t.ws.length wc, .bool t.out, .string t.nm] 27)) [.string x.1, .string x.2.1, .bool x.2.2] 42).alloc (.cells #[.int .i64 0, .int .i64 0, .int .i64 0, .int .i64 0, .slice none 0 0, .slice none 0 0, .bool false, .string ⟨#[]⟩] 27)
  rw [show (w.alloc (.cells #[.int .i64 t.id, .int .i64 t.st, .int .i64 t.snap, .int .i64 t.cs, .slice ra t.rs.length rc, .slice wa t.ws.length wc, .bool t.out, .string t.nm] 27)).heap.size = w.heap.size + 1 by simp] at h
  exact h
 have BR0 : Hid (Bx (((w.alloc (.cells #[.int .i64 t.id, .int .i64 t.st, .int .i64 t.snap, .int .i64 t.cs, .slice ra t.rs.length rc, .slice wa t.ws.length wc, .bool t.out, .string t.nm] 27)).alloc (.cells #[.string x.1, .string x.2.1, .bool x.2.2] 42)).alloc (.cells #[.int .i64 0, .int .i64 0, .int .i64 0, .int .i64 0, .slice none 0 0, .slice none 0 0, .bool false, .string ⟨#[]⟩] 27)) (w.heap.size + 1 + 1) [.int .i64 0, .int .i64 0, .int .i64 0, .int .i64 0, .slice none 0 0, .slice none 0 0, .bool false, .string ⟨#[]⟩]) := by
  have h := Bx.new ((w.alloc (.cells #[.int .i64 t.id, .int .i64 t.st, .int .i64 t.snap, .int .i64 t.cs, .slice ra t.rs.length rc, .slice wa t.ws.length wc, .bool t.out, .string t.nm] 27)).alloc (.cells #[.string x.1, .string x.2.1, .bool x.2.2] 42)) [.int .i64 0, .int .i64 0, .int .i64 0, .int .i64 0, .slice none 0 0, .slice none 0 0, .bool false, .string ⟨#[]⟩] 27
  rw [show ((w.alloc (.cells #[.int .i64 t.id, .int .i64 t.st, .int .i64 t.snap, .int .i64 t.cs, .slice ra t.rs.length rc, .slice wa t.ws.length wc, .bool t.out, .string t.nm] 27)).alloc (.cells #[.string x.1, .string x.2.1, .bool x.2.2] 42)).heap.size = w.heap.size + 1 + 1 by simp] at h
  exact h
 have HB0 : Hid (Below w.heap.size w (((w.alloc (.cells #[.int .i64 t.id, .int .i64 t.st, .int .i64 t.snap, .int .i64 t.cs, .slice ra t.rs.length rc, .slice wa t.ws.length wc, .bool t.out, .string t.nm] 27)).alloc (.cells #[.string x.1, .string x.2.1, .bool x.2.2] 42)).alloc (.cells #[.int .i64 0, .int .i64 0, .int .i64 0, .int .i64 0, .slice none 0 0, .slice none 0 0, .bool false, .string ⟨#[]⟩] 27))) := (((belowRefl w).alloc (Nat.le_refl _) _).alloc (by simp) _).alloc (by simp; omega) _
 have S0 : Hid ((((w.alloc (.cells #[.int .i64 t.id, .int .i64 t.st, .int .i64 t.snap, .int .i64 t.cs, .slice ra t.rs.length rc, .slice wa t.ws.length wc, .bool t.out, .string t.nm] 27)).alloc (.cells #[.string x.1, .string x.2.1, .bool x.2.2] 42)).alloc (.cells #[.int .i64 0, .int .i64 0, .int .i64 0, .int .i64 0, .slice none 0 0, .slice none 0 0, .bool false, .string ⟨#[]⟩] 27)).heap.size = w.heap.size + 1 + 1 + 1) := by show _ = _; simp
 go_enter Tryz.func15, Tryz.ntmps15
 go_wp2_with fail
 refine (scopyTe t ra wa rc wc lo hi (by omega) (by omega) _ (HT.out.below HB0.out).r (HT.out.below HB0.out).w).mono ?_
 rintro e w1 ⟨pa, pc, qa, qc, rfl, hl1, hb1⟩
 rw [S0.out] at hl1
 have hsz1 := hb1.size
 rw [S0.out] at hsz1
 have SZ1 : Hid (w.heap.size + 1 + 1 + 1 ≤ w1.heap.size) := hsz1
 have hbo : Below w1.heap.size w1 (w1.alloc (.cells #[.int .i64 t.id, .int .i64 t.st, .int .i64 t.snap, .int .i64 t.cs, .slice pa t.rs.length pc, .slice qa t.ws.length qc, .bool t.out, .string t.nm] 27)) := (belowRefl w1).alloc (Nat.le_refl _) _
 have BA1 := hide ((BA0.out.below hb1).below hbo)
 have BX1 := hide ((BX0.out.below hb1).below hbo)
 have BR1 := hide ((BR0.out.below hb1).below hbo)
 have HB1 : Hid (Below w.heap.size w (w1.alloc (.cells #[.int .i64 t.id, .int .i64 t.st, .int .i64 t.snap, .int .i64 t.cs, .slice pa t.rs.length pc, .slice qa t.ws.length qc, .bool t.out, .string t.nm] 27))) := (HB0.out.trans (hb1.mono HB0.out.size)).trans (hbo.mono (by have := SZ1.out; omega))
 have BO1 : Hid (Bx (w1.alloc (.cells #[.int .i64 t.id, .int .i64 t.st, .int .i64 t.snap, .int .i64 t.cs, .slice pa t.rs.length pc, .slice qa t.ws.length qc, .bool t.out, .string t.nm] 27)) w1.heap.size [.int .i64 t.id, .int .i64 t.st, .int .i64 t.snap, .int .i64 t.cs, .slice pa t.rs.length pc, .slice qa t.ws.length qc, .bool t.out, .string t.nm]) := Bx.new w1 [.int .i64 t.id, .int .i64 t.st, .int .i64 t.snap, .int .i64 t.cs, .slice pa t.rs.length pc, .slice qa t.ws.length qc, .bool t.out, .string t.nm] 27
 have L1 : Hid (TLie (w1.alloc (.cells #[.int .i64 t.id, .int .i64 t.st, .int .i64 t.snap, .int .i64 t.cs, .slice pa t.rs.length pc, .slice qa t.ws.length qc, .bool t.out, .string t.nm] 27)) (w.heap.size + 1 + 1 + 1) w1.heap.size t pa pc qa qc) := hl1.below hbo
 have ZA : Hid ((w1.alloc (.cells #[.int .i64 t.id, .int .i64 t.st, .int .i64 t.snap, .int .i64 t.cs, .slice pa t.rs.length pc, .slice qa t.ws.length qc, .bool t.out, .string t.nm] 27)).heap.size = w1.heap.size + 1) := World.size_alloc _ _
 clear hl1 hb1 hbo hsz1 BA0 BX0 BR0 HB0
 have x0 := BA1.out.c0
 have x1 := BA1.out.c1
 have x2 := BA1.out.c2
 have x3 := BA1.out.c3
 have x4 := BA1.out.c4
 have x5 := BA1.out.c5
 have x6 := BA1.out.c6
 have x7 := BA1.out.c7
 go_wp2_with fail
 refine (C1.out _ (HP.out.below HB1.out)).mono ?_
 rintro e w5 ⟨rfl, hb5⟩
 have hs5 := hb5.size
 rw [ZA.out] at hs5
 have SZ5 : Hid (w1.heap.size + 1 ≤ w5.heap.size) := hs5
 have BA5 := hide (BA1.out.below hb5)
 have BX5 := hide (BX1.out.below hb5)
 have BR5 := hide (BR1.out.below hb5)
 have BO5 := hide (BO1.out.below hb5)
 have L5 := hide (L1.out.below hb5)
 have HB5 : Hid (Below w.heap.size w w5) := HB1.out.trans (hb5.mono HB1.out.size)
 clear hb5 hs5 x0 x1 x2 x3 x4 x5 x6 x7 BA1 BX1 BR1 BO1 L1 HB1
 have x1 := BA5.out.c1
 have BRn := BR5
 have LL : Hid (TLie w5 (w.heap.size + 1 + 1 + 1) w5.heap.size (setW t t.ws) pa pc qa qc) := TLie.mono (t := setW t t.ws) L5.out (Nat.le_refl _) (by have := SZ5.out; omega)
 have HH := HB5
 clear BR5 HB5 L5
 have o0 := BO5.out.c0
 have q0 := BRn.out.c0
 have fq0 := BRn.out.fz 0
 have o1 := BO5.out.c1
 have q1 := BRn.out.c1
 have fq1 := BRn.out.fz 1
 have o2 := BO5.out.c2
 have q2 := BRn.out.c2
 have fq2 := BRn.out.fz 2
 have o3 := BO5.out.c3
 have q3 := BRn.out.c3
 have fq3 := BRn.out.fz 3
 have o4 := BO5.out.c4
 have q4 := BRn.out.c4
 have fq4 := BRn.out.fz 4
 have o5 := BO5.out.c5
 have q5 := BRn.out.c5
 have fq5 := BRn.out.fz 5
 have o6 := BO5.out.c6
 have q6 := BRn.out.c6
 have fq6 := BRn.out.fz 6
 have o7 := BO5.out.c7
 have q7 := BRn.out.c7
 have fq7 := BRn.out.fz 7
 go_wp2
 refine bodyPost_ret (v := .tuple #[.agg #[.int .i64 t.id, .int .i64 t.st, .int .i64 t.snap, .int .i64 t.cs, .slice pa t.rs.length pc, .slice qa t.ws.length qc, .bool t.out, .string t.nm], .bool false]) (by simp [results, Tryz.results15, go_sem, q0, q1, q2, q3, q4, q5, q6, q7]) rfl ⟨_, _, _, _, rfl, ?_, ?_⟩
 ·exact ((((((((LL.out.set (by show _ + 1 + 1 < _; omega) _).set (by show _ + 1 + 1 < _; omega) _).set (by show _ + 1 + 1 < _; omega) _).set (by show _ + 1 + 1 < _; omega) _).set (by show _ + 1 + 1 < _; omega) _).set (by show _ + 1 + 1 < _; omega) _).set (by show _ + 1 + 1 < _; omega) _).set (by show _ + 1 + 1 < _; omega) _).mono (by omega) (by simp [World.setCell])
 ·exact ((((((((HH.out.setCell (by show _ ≤ _ + 1 + 1; omega) _).setCell (by show _ ≤ _ + 1 + 1; omega) _).setCell (by show _ ≤ _ + 1 + 1; omega) _).setCell (by show _ ≤ _ + 1 + 1; omega) _).setCell (by show _ ≤ _ + 1 + 1; omega) _).setCell (by show _ ≤ _ + 1 + 1; omega) _).setCell (by show _ ≤ _ + 1 + 1; omega) _).setCell (by show _ ≤ _ + 1 + 1; omega) _)

set_option maxRecDepth 100000 in
set_option maxHeartbeats 4000000 in
theorem twk_no3 (t : Tx) (ra wa : Option Addr) (rc wc : Nat) (x : Wt) (lo hi : Nat) (hf : TFit t) (hx : x.1.size ≤ 1048576 ∧ x.2.1.size ≤ 1048576) (htx : txnB t = true) (hst : t.st = 1) (hwr : writeB x = false) (w : World) (hp : TwoO w lo hi t ra rc wa wc) :
  Calls Tryz.prog 15 #[.agg #[.int .i64 t.id, .int .i64 t.st, .int .i64 t.snap, .int .i64 t.cs, .slice ra t.rs.length rc, .slice wa t.ws.length wc, .bool t.out, .string t.nm], .agg #[.string x.1, .string x.2.1, .bool x.2.2]] w fun e w' => ∃ ra1 rc1 wa1 wc1, e = .returned (.tuple #[.agg #[.int .i64 t.id, .int .i64 t.st, .int .i64 t.snap, .int .i64 t.cs, .slice ra1 t.rs.length rc1, .slice wa1 t.ws.length wc1, .bool t.out, .string t.nm], .bool false]) ∧ TLie w' w.heap.size w'.heap.size (setW t t.ws) ra1 rc1 wa1 wc1 ∧ Below w.heap.size w w' := by
 have HF : Hid (TFit t) := hf
 have HX : Hid (x.1.size ≤ 1048576 ∧ x.2.1.size ≤ 1048576) := hx
 have hrl : t.rs.length ≤ 1048576 := hf.1
 have hwl : t.ws.length ≤ 1048576 := hf.2.2.1
 clear hf hx
 have HT : Hid (TwoO w lo hi t ra rc wa wc) := hp
 have HP : Hid (TRow w t ra wa) := hp.row
 clear hp
 have C1 : Hid (∀ w, TRow w t ra wa → Calls Tryz.prog 19 #[.agg #[.int .i64 t.id, .int .i64 t.st, .int .i64 t.snap, .int .i64 t.cs, .slice ra t.rs.length rc, .slice wa t.ws.length wc, .bool t.out, .string t.nm]] w fun e w' => e = .returned (.bool true) ∧ Below w.heap.size w w') := fun w h => by have k := stxn t ra wa rc wc HF.out w h; rw [htx] at k; exact k
 have C3 : Hid (∀ w, Calls Tryz.prog 49 #[.agg #[.string x.1, .string x.2.1, .bool x.2.2]] w fun e w' => e = .returned (.bool false) ∧ Below w.heap.size w w') := fun w => by have k := swrite x.1 x.2.1 x.2.2 HX.out.1 w; rw [show writeB (x.1, x.2.1, x.2.2) = false from hwr] at k; exact k
 have hs1 : (t.st != 1) = false := by simp [hst]
 clear htx hst hwr
 have BA0 : Hid (Bx (((w.alloc (.cells #[.int .i64 t.id, .int .i64 t.st, .int .i64 t.snap, .int .i64 t.cs, .slice ra t.rs.length rc, .slice wa t.ws.length wc, .bool t.out, .string t.nm] 27)).alloc (.cells #[.string x.1, .string x.2.1, .bool x.2.2] 42)).alloc (.cells #[.int .i64 0, .int .i64 0, .int .i64 0, .int .i64 0, .slice none 0 0, .slice none 0 0, .bool false, .string ⟨#[]⟩] 27)) w.heap.size [.int .i64 t.id, .int .i64 t.st, .int .i64 t.snap, .int .i64 t.cs, .slice ra t.rs.length rc, .slice wa t.ws.length wc, .bool t.out, .string t.nm]) := ((Bx.new w [.int .i64 t.id, .int .i64 t.st, .int .i64 t.snap, .int .i64 t.cs, .slice ra t.rs.length rc, .slice wa t.ws.length wc, .bool t.out, .string t.nm] 27).alloc _).alloc _
 have BX0 : Hid (Bx (((w.alloc (.cells #[.int .i64 t.id, .int .i64 t.st, .int .i64 t.snap, .int .i64 t.cs, .slice ra t.rs.length rc, .slice wa t.ws.length wc, .bool t.out, .string t.nm] 27)).alloc (.cells #[.string x.1, .string x.2.1, .bool x.2.2] 42)).alloc (.cells #[.int .i64 0, .int .i64 0, .int .i64 0, .int .i64 0, .slice none 0 0, .slice none 0 0, .bool false, .string ⟨#[]⟩] 27)) (w.heap.size + 1) [.string x.1, .string x.2.1, .bool x.2.2]) := by
  have h := (Bx.new (w.alloc (.cells #[.int .i64 t.id, .int .i64 t.st, .int .i64 t.snap, .int .i64 t.cs, .slice ra t.rs.length rc, .slice wa t.ws.length wc, .bool t.out, .string t.nm] 27)) [.string x.1, .string x.2.1, .bool x.2.2] 42).alloc (.cells #[.int .i64 0, .int .i64 0, .int .i64 0, .int .i64 0, .slice none 0 0, .slice none 0 0, .bool false, .string ⟨#[]⟩] 27)
  rw [show (w.alloc (.cells #[.int .i64 t.id, .int .i64 t.st, .int .i64 t.snap, .int .i64 t.cs, .slice ra t.rs.length rc, .slice wa t.ws.length wc, .bool t.out, .string t.nm] 27)).heap.size = w.heap.size + 1 by simp] at h
  exact h
 have BR0 : Hid (Bx (((w.alloc (.cells #[.int .i64 t.id, .int .i64 t.st, .int .i64 t.snap, .int .i64 t.cs, .slice ra t.rs.length rc, .slice wa t.ws.length wc, .bool t.out, .string t.nm] 27)).alloc (.cells #[.string x.1, .string x.2.1, .bool x.2.2] 42)).alloc (.cells #[.int .i64 0, .int .i64 0, .int .i64 0, .int .i64 0, .slice none 0 0, .slice none 0 0, .bool false, .string ⟨#[]⟩] 27)) (w.heap.size + 1 + 1) [.int .i64 0, .int .i64 0, .int .i64 0, .int .i64 0, .slice none 0 0, .slice none 0 0, .bool false, .string ⟨#[]⟩]) := by
  have h := Bx.new ((w.alloc (.cells #[.int .i64 t.id, .int .i64 t.st, .int .i64 t.snap, .int .i64 t.cs, .slice ra t.rs.length rc, .slice wa t.ws.length wc, .bool t.out, .string t.nm] 27)).alloc (.cells #[.string x.1, .string x.2.1, .bool x.2.2] 42)) [.int .i64 0, .int .i64 0, .int .i64 0, .int .i64 0, .slice none 0 0, .slice none 0 0, .bool false, .string ⟨#[]⟩] 27
  rw [show ((w.alloc (.cells #[.int .i64 t.id, .int .i64 t.st, .int .i64 t.snap, .int .i64 t.cs, .slice ra t.rs.length rc, .slice wa t.ws.length wc, .bool t.out, .string t.nm] 27)).alloc (.cells #[.string x.1, .string x.2.1, .bool x.2.2] 42)).heap.size = w.heap.size + 1 + 1 by simp] at h
  exact h
 have HB0 : Hid (Below w.heap.size w (((w.alloc (.cells #[.int .i64 t.id, .int .i64 t.st, .int .i64 t.snap, .int .i64 t.cs, .slice ra t.rs.length rc, .slice wa t.ws.length wc, .bool t.out, .string t.nm] 27)).alloc (.cells #[.string x.1, .string x.2.1, .bool x.2.2] 42)).alloc (.cells #[.int .i64 0, .int .i64 0, .int .i64 0, .int .i64 0, .slice none 0 0, .slice none 0 0, .bool false, .string ⟨#[]⟩] 27))) := (((belowRefl w).alloc (Nat.le_refl _) _).alloc (by simp) _).alloc (by simp; omega) _
 have S0 : Hid ((((w.alloc (.cells #[.int .i64 t.id, .int .i64 t.st, .int .i64 t.snap, .int .i64 t.cs, .slice ra t.rs.length rc, .slice wa t.ws.length wc, .bool t.out, .string t.nm] 27)).alloc (.cells #[.string x.1, .string x.2.1, .bool x.2.2] 42)).alloc (.cells #[.int .i64 0, .int .i64 0, .int .i64 0, .int .i64 0, .slice none 0 0, .slice none 0 0, .bool false, .string ⟨#[]⟩] 27)).heap.size = w.heap.size + 1 + 1 + 1) := by show _ = _; simp
 go_enter Tryz.func15, Tryz.ntmps15
 go_wp2_with fail
 refine (scopyTe t ra wa rc wc lo hi (by omega) (by omega) _ (HT.out.below HB0.out).r (HT.out.below HB0.out).w).mono ?_
 rintro e w1 ⟨pa, pc, qa, qc, rfl, hl1, hb1⟩
 rw [S0.out] at hl1
 have hsz1 := hb1.size
 rw [S0.out] at hsz1
 have SZ1 : Hid (w.heap.size + 1 + 1 + 1 ≤ w1.heap.size) := hsz1
 have hbo : Below w1.heap.size w1 (w1.alloc (.cells #[.int .i64 t.id, .int .i64 t.st, .int .i64 t.snap, .int .i64 t.cs, .slice pa t.rs.length pc, .slice qa t.ws.length qc, .bool t.out, .string t.nm] 27)) := (belowRefl w1).alloc (Nat.le_refl _) _
 have BA1 := hide ((BA0.out.below hb1).below hbo)
 have BX1 := hide ((BX0.out.below hb1).below hbo)
 have BR1 := hide ((BR0.out.below hb1).below hbo)
 have HB1 : Hid (Below w.heap.size w (w1.alloc (.cells #[.int .i64 t.id, .int .i64 t.st, .int .i64 t.snap, .int .i64 t.cs, .slice pa t.rs.length pc, .slice qa t.ws.length qc, .bool t.out, .string t.nm] 27))) := (HB0.out.trans (hb1.mono HB0.out.size)).trans (hbo.mono (by have := SZ1.out; omega))
 have BO1 : Hid (Bx (w1.alloc (.cells #[.int .i64 t.id, .int .i64 t.st, .int .i64 t.snap, .int .i64 t.cs, .slice pa t.rs.length pc, .slice qa t.ws.length qc, .bool t.out, .string t.nm] 27)) w1.heap.size [.int .i64 t.id, .int .i64 t.st, .int .i64 t.snap, .int .i64 t.cs, .slice pa t.rs.length pc, .slice qa t.ws.length qc, .bool t.out, .string t.nm]) := Bx.new w1 [.int .i64 t.id, .int .i64 t.st, .int .i64 t.snap, .int .i64 t.cs, .slice pa t.rs.length pc, .slice qa t.ws.length qc, .bool t.out, .string t.nm] 27
 have L1 : Hid (TLie (w1.alloc (.cells #[.int .i64 t.id, .int .i64 t.st, .int .i64 t.snap, .int .i64 t.cs, .slice pa t.rs.length pc, .slice qa t.ws.length qc, .bool t.out, .string t.nm] 27)) (w.heap.size + 1 + 1 + 1) w1.heap.size t pa pc qa qc) := hl1.below hbo
 have ZA : Hid ((w1.alloc (.cells #[.int .i64 t.id, .int .i64 t.st, .int .i64 t.snap, .int .i64 t.cs, .slice pa t.rs.length pc, .slice qa t.ws.length qc, .bool t.out, .string t.nm] 27)).heap.size = w1.heap.size + 1) := World.size_alloc _ _
 clear hl1 hb1 hbo hsz1 BA0 BX0 BR0 HB0
 have x0 := BA1.out.c0
 have x1 := BA1.out.c1
 have x2 := BA1.out.c2
 have x3 := BA1.out.c3
 have x4 := BA1.out.c4
 have x5 := BA1.out.c5
 have x6 := BA1.out.c6
 have x7 := BA1.out.c7
 go_wp2_with fail
 refine (C1.out _ (HP.out.below HB1.out)).mono ?_
 rintro e w5 ⟨rfl, hb5⟩
 have hs5 := hb5.size
 rw [ZA.out] at hs5
 have SZ5 : Hid (w1.heap.size + 1 ≤ w5.heap.size) := hs5
 have BA5 := hide (BA1.out.below hb5)
 have BX5 := hide (BX1.out.below hb5)
 have BR5 := hide (BR1.out.below hb5)
 have BO5 := hide (BO1.out.below hb5)
 have L5 := hide (L1.out.below hb5)
 have HB5 : Hid (Below w.heap.size w w5) := HB1.out.trans (hb5.mono HB1.out.size)
 clear hb5 hs5 x0 x1 x2 x3 x4 x5 x6 x7 BA1 BX1 BR1 BO1 L1 HB1
 have x1 := BA5.out.c1
 have y0 := BX5.out.c0
 have y1 := BX5.out.c1
 have y2 := BX5.out.c2
 go_wp2_with fail
 refine (C3.out _).mono ?_
 rintro e w6 ⟨rfl, hb6⟩
 have SZ6 : Hid (w5.heap.size ≤ w6.heap.size) := hb6.size
 have BA6 := hide (BA5.out.below hb6)
 have BX6 := hide (BX5.out.below hb6)
 have BR6 := hide (BR5.out.below hb6)
 have BO6 := hide (BO5.out.below hb6)
 have L6 := hide (L5.out.below hb6)
 have HB6 : Hid (Below w.heap.size w w6) := HB5.out.trans (hb6.mono HB5.out.size)
 clear hb6 x1 y0 y1 y2 BA5 BX5 BR5 BO5 L5 HB5
 have BRn := BR6
 have LL : Hid (TLie w6 (w.heap.size + 1 + 1 + 1) w6.heap.size (setW t t.ws) pa pc qa qc) := TLie.mono (t := setW t t.ws) L6.out (Nat.le_refl _) (by have := SZ5.out; have := SZ6.out; omega)
 have HH := HB6
 clear BR6 HB6 L6
 have o0 := BO6.out.c0
 have q0 := BRn.out.c0
 have fq0 := BRn.out.fz 0
 have o1 := BO6.out.c1
 have q1 := BRn.out.c1
 have fq1 := BRn.out.fz 1
 have o2 := BO6.out.c2
 have q2 := BRn.out.c2
 have fq2 := BRn.out.fz 2
 have o3 := BO6.out.c3
 have q3 := BRn.out.c3
 have fq3 := BRn.out.fz 3
 have o4 := BO6.out.c4
 have q4 := BRn.out.c4
 have fq4 := BRn.out.fz 4
 have o5 := BO6.out.c5
 have q5 := BRn.out.c5
 have fq5 := BRn.out.fz 5
 have o6 := BO6.out.c6
 have q6 := BRn.out.c6
 have fq6 := BRn.out.fz 6
 have o7 := BO6.out.c7
 have q7 := BRn.out.c7
 have fq7 := BRn.out.fz 7
 go_wp2
 refine bodyPost_ret (v := .tuple #[.agg #[.int .i64 t.id, .int .i64 t.st, .int .i64 t.snap, .int .i64 t.cs, .slice pa t.rs.length pc, .slice qa t.ws.length qc, .bool t.out, .string t.nm], .bool false]) (by simp [results, Tryz.results15, go_sem, q0, q1, q2, q3, q4, q5, q6, q7]) rfl ⟨_, _, _, _, rfl, ?_, ?_⟩
 ·exact ((((((((LL.out.set (by show _ + 1 + 1 < _; omega) _).set (by show _ + 1 + 1 < _; omega) _).set (by show _ + 1 + 1 < _; omega) _).set (by show _ + 1 + 1 < _; omega) _).set (by show _ + 1 + 1 < _; omega) _).set (by show _ + 1 + 1 < _; omega) _).set (by show _ + 1 + 1 < _; omega) _).set (by show _ + 1 + 1 < _; omega) _).mono (by omega) (by simp [World.setCell])
 ·exact ((((((((HH.out.setCell (by show _ ≤ _ + 1 + 1; omega) _).setCell (by show _ ≤ _ + 1 + 1; omega) _).setCell (by show _ ≤ _ + 1 + 1; omega) _).setCell (by show _ ≤ _ + 1 + 1; omega) _).setCell (by show _ ≤ _ + 1 + 1; omega) _).setCell (by show _ ≤ _ + 1 + 1; omega) _).setCell (by show _ ≤ _ + 1 + 1; omega) _).setCell (by show _ ≤ _ + 1 + 1; omega) _)

theorem right_len {t : Tx} (h : txnB t = true) : t.ws.length ≤ 8 := by
 have := txn_ws h
 unfold writesB at this
 simp only [Bool.and_eq_true, decide_eq_true_eq] at this
 exact this.1

set_option maxRecDepth 100000 in
set_option maxHeartbeats 4000000 in
theorem twk_no4 (t : Tx) (ra wa : Option Addr) (rc wc : Nat) (x : Wt) (lo hi : Nat) (hf : TFit t) (hx : x.1.size ≤ 1048576 ∧ x.2.1.size ≤ 1048576) (htx : txnB t = true) (hst : t.st = 1) (hwr : writeB x = true) (hws : writesB (putS t.ws x) = false) (w : World) (hp : TwoO w lo hi t ra rc wa wc) :
  Calls Tryz.prog 15 #[.agg #[.int .i64 t.id, .int .i64 t.st, .int .i64 t.snap, .int .i64 t.cs, .slice ra t.rs.length rc, .slice wa t.ws.length wc, .bool t.out, .string t.nm], .agg #[.string x.1, .string x.2.1, .bool x.2.2]] w fun e w' => ∃ ra1 rc1 wa1 wc1, e = .returned (.tuple #[.agg #[.int .i64 t.id, .int .i64 t.st, .int .i64 t.snap, .int .i64 t.cs, .slice ra1 t.rs.length rc1, .slice wa1 t.ws.length wc1, .bool t.out, .string t.nm], .bool false]) ∧ TLie w' w.heap.size w'.heap.size (setW t t.ws) ra1 rc1 wa1 wc1 ∧ Below w.heap.size w w' := by
 have HF : Hid (TFit t) := hf
 have HX : Hid (x.1.size ≤ 1048576 ∧ x.2.1.size ≤ 1048576) := hx
 have hrl : t.rs.length ≤ 1048576 := hf.1
 have hwl : t.ws.length ≤ 1048576 := hf.2.2.1
 clear hf hx
 have HT : Hid (TwoO w lo hi t ra rc wa wc) := hp
 have HP : Hid (TRow w t ra wa) := hp.row
 clear hp
 have C1 : Hid (∀ w, TRow w t ra wa → Calls Tryz.prog 19 #[.agg #[.int .i64 t.id, .int .i64 t.st, .int .i64 t.snap, .int .i64 t.cs, .slice ra t.rs.length rc, .slice wa t.ws.length wc, .bool t.out, .string t.nm]] w fun e w' => e = .returned (.bool true) ∧ Below w.heap.size w w') := fun w h => by have k := stxn t ra wa rc wc HF.out w h; rw [htx] at k; exact k
 have C3 : Hid (∀ w, Calls Tryz.prog 49 #[.agg #[.string x.1, .string x.2.1, .bool x.2.2]] w fun e w' => e = .returned (.bool true) ∧ Below w.heap.size w w') := fun w => by have k := swrite x.1 x.2.1 x.2.2 HX.out.1 w; rw [show writeB (x.1, x.2.1, x.2.2) = true from hwr] at k; exact k
 have CI : Hid (∀ w, GRow encW w wa t.ws → Calls Tryz.prog 50 #[.slice wa t.ws.length wc, .agg #[.string x.1, .string x.2.1, .bool x.2.2]] w fun e w' => ∃ a1 c1, e = .returned (.slice a1 (putS t.ws x).length c1) ∧ GOwn encW 42 w' w.heap.size (.slice a1 (putS t.ws x).length c1) (putS t.ws x) ∧ Below w.heap.size w w') := fun w h => sput t.ws x wa wc (by have := right_len htx; omega) w h
 have C4 : Hid (∀ a c w, GRow encW w a (putS t.ws x) → Calls Tryz.prog 51 #[.slice a (putS t.ws x).length c] w fun e w' => e = .returned (.bool false) ∧ Below w.heap.size w w') := fun a c w h => by have k := swrites (putS t.ws x) a c (by have := len_putS t.ws x; omega) (fit_putS HF.out.2.2.2.1 HX.out) w h; rw [hws] at k; exact k
 have hs1 : (t.st != 1) = false := by simp [hst]
 clear htx hst hwr hws
 generalize putS t.ws x = l at CI C4
 have BA0 : Hid (Bx (((w.alloc (.cells #[.int .i64 t.id, .int .i64 t.st, .int .i64 t.snap, .int .i64 t.cs, .slice ra t.rs.length rc, .slice wa t.ws.length wc, .bool t.out, .string t.nm] 27)).alloc (.cells #[.string x.1, .string x.2.1, .bool x.2.2] 42)).alloc (.cells #[.int .i64 0, .int .i64 0, .int .i64 0, .int .i64 0, .slice none 0 0, .slice none 0 0, .bool false, .string ⟨#[]⟩] 27)) w.heap.size [.int .i64 t.id, .int .i64 t.st, .int .i64 t.snap, .int .i64 t.cs, .slice ra t.rs.length rc, .slice wa t.ws.length wc, .bool t.out, .string t.nm]) := ((Bx.new w [.int .i64 t.id, .int .i64 t.st, .int .i64 t.snap, .int .i64 t.cs, .slice ra t.rs.length rc, .slice wa t.ws.length wc, .bool t.out, .string t.nm] 27).alloc _).alloc _
 have BX0 : Hid (Bx (((w.alloc (.cells #[.int .i64 t.id, .int .i64 t.st, .int .i64 t.snap, .int .i64 t.cs, .slice ra t.rs.length rc, .slice wa t.ws.length wc, .bool t.out, .string t.nm] 27)).alloc (.cells #[.string x.1, .string x.2.1, .bool x.2.2] 42)).alloc (.cells #[.int .i64 0, .int .i64 0, .int .i64 0, .int .i64 0, .slice none 0 0, .slice none 0 0, .bool false, .string ⟨#[]⟩] 27)) (w.heap.size + 1) [.string x.1, .string x.2.1, .bool x.2.2]) := by
  have h := (Bx.new (w.alloc (.cells #[.int .i64 t.id, .int .i64 t.st, .int .i64 t.snap, .int .i64 t.cs, .slice ra t.rs.length rc, .slice wa t.ws.length wc, .bool t.out, .string t.nm] 27)) [.string x.1, .string x.2.1, .bool x.2.2] 42).alloc (.cells #[.int .i64 0, .int .i64 0, .int .i64 0, .int .i64 0, .slice none 0 0, .slice none 0 0, .bool false, .string ⟨#[]⟩] 27)
  rw [show (w.alloc (.cells #[.int .i64 t.id, .int .i64 t.st, .int .i64 t.snap, .int .i64 t.cs, .slice ra t.rs.length rc, .slice wa t.ws.length wc, .bool t.out, .string t.nm] 27)).heap.size = w.heap.size + 1 by simp] at h
  exact h
 have BR0 : Hid (Bx (((w.alloc (.cells #[.int .i64 t.id, .int .i64 t.st, .int .i64 t.snap, .int .i64 t.cs, .slice ra t.rs.length rc, .slice wa t.ws.length wc, .bool t.out, .string t.nm] 27)).alloc (.cells #[.string x.1, .string x.2.1, .bool x.2.2] 42)).alloc (.cells #[.int .i64 0, .int .i64 0, .int .i64 0, .int .i64 0, .slice none 0 0, .slice none 0 0, .bool false, .string ⟨#[]⟩] 27)) (w.heap.size + 1 + 1) [.int .i64 0, .int .i64 0, .int .i64 0, .int .i64 0, .slice none 0 0, .slice none 0 0, .bool false, .string ⟨#[]⟩]) := by
  have h := Bx.new ((w.alloc (.cells #[.int .i64 t.id, .int .i64 t.st, .int .i64 t.snap, .int .i64 t.cs, .slice ra t.rs.length rc, .slice wa t.ws.length wc, .bool t.out, .string t.nm] 27)).alloc (.cells #[.string x.1, .string x.2.1, .bool x.2.2] 42)) [.int .i64 0, .int .i64 0, .int .i64 0, .int .i64 0, .slice none 0 0, .slice none 0 0, .bool false, .string ⟨#[]⟩] 27
  rw [show ((w.alloc (.cells #[.int .i64 t.id, .int .i64 t.st, .int .i64 t.snap, .int .i64 t.cs, .slice ra t.rs.length rc, .slice wa t.ws.length wc, .bool t.out, .string t.nm] 27)).alloc (.cells #[.string x.1, .string x.2.1, .bool x.2.2] 42)).heap.size = w.heap.size + 1 + 1 by simp] at h
  exact h
 have HB0 : Hid (Below w.heap.size w (((w.alloc (.cells #[.int .i64 t.id, .int .i64 t.st, .int .i64 t.snap, .int .i64 t.cs, .slice ra t.rs.length rc, .slice wa t.ws.length wc, .bool t.out, .string t.nm] 27)).alloc (.cells #[.string x.1, .string x.2.1, .bool x.2.2] 42)).alloc (.cells #[.int .i64 0, .int .i64 0, .int .i64 0, .int .i64 0, .slice none 0 0, .slice none 0 0, .bool false, .string ⟨#[]⟩] 27))) := (((belowRefl w).alloc (Nat.le_refl _) _).alloc (by simp) _).alloc (by simp; omega) _
 have S0 : Hid ((((w.alloc (.cells #[.int .i64 t.id, .int .i64 t.st, .int .i64 t.snap, .int .i64 t.cs, .slice ra t.rs.length rc, .slice wa t.ws.length wc, .bool t.out, .string t.nm] 27)).alloc (.cells #[.string x.1, .string x.2.1, .bool x.2.2] 42)).alloc (.cells #[.int .i64 0, .int .i64 0, .int .i64 0, .int .i64 0, .slice none 0 0, .slice none 0 0, .bool false, .string ⟨#[]⟩] 27)).heap.size = w.heap.size + 1 + 1 + 1) := by show _ = _; simp
 go_enter Tryz.func15, Tryz.ntmps15
 go_wp2_with fail
 refine (scopyTe t ra wa rc wc lo hi (by omega) (by omega) _ (HT.out.below HB0.out).r (HT.out.below HB0.out).w).mono ?_
 rintro e w1 ⟨pa, pc, qa, qc, rfl, hl1, hb1⟩
 rw [S0.out] at hl1
 have hsz1 := hb1.size
 rw [S0.out] at hsz1
 have SZ1 : Hid (w.heap.size + 1 + 1 + 1 ≤ w1.heap.size) := hsz1
 have hbo : Below w1.heap.size w1 (w1.alloc (.cells #[.int .i64 t.id, .int .i64 t.st, .int .i64 t.snap, .int .i64 t.cs, .slice pa t.rs.length pc, .slice qa t.ws.length qc, .bool t.out, .string t.nm] 27)) := (belowRefl w1).alloc (Nat.le_refl _) _
 have BA1 := hide ((BA0.out.below hb1).below hbo)
 have BX1 := hide ((BX0.out.below hb1).below hbo)
 have BR1 := hide ((BR0.out.below hb1).below hbo)
 have HB1 : Hid (Below w.heap.size w (w1.alloc (.cells #[.int .i64 t.id, .int .i64 t.st, .int .i64 t.snap, .int .i64 t.cs, .slice pa t.rs.length pc, .slice qa t.ws.length qc, .bool t.out, .string t.nm] 27))) := (HB0.out.trans (hb1.mono HB0.out.size)).trans (hbo.mono (by have := SZ1.out; omega))
 have BO1 : Hid (Bx (w1.alloc (.cells #[.int .i64 t.id, .int .i64 t.st, .int .i64 t.snap, .int .i64 t.cs, .slice pa t.rs.length pc, .slice qa t.ws.length qc, .bool t.out, .string t.nm] 27)) w1.heap.size [.int .i64 t.id, .int .i64 t.st, .int .i64 t.snap, .int .i64 t.cs, .slice pa t.rs.length pc, .slice qa t.ws.length qc, .bool t.out, .string t.nm]) := Bx.new w1 [.int .i64 t.id, .int .i64 t.st, .int .i64 t.snap, .int .i64 t.cs, .slice pa t.rs.length pc, .slice qa t.ws.length qc, .bool t.out, .string t.nm] 27
 have L1 : Hid (TLie (w1.alloc (.cells #[.int .i64 t.id, .int .i64 t.st, .int .i64 t.snap, .int .i64 t.cs, .slice pa t.rs.length pc, .slice qa t.ws.length qc, .bool t.out, .string t.nm] 27)) (w.heap.size + 1 + 1 + 1) w1.heap.size t pa pc qa qc) := hl1.below hbo
 have ZA : Hid ((w1.alloc (.cells #[.int .i64 t.id, .int .i64 t.st, .int .i64 t.snap, .int .i64 t.cs, .slice pa t.rs.length pc, .slice qa t.ws.length qc, .bool t.out, .string t.nm] 27)).heap.size = w1.heap.size + 1) := World.size_alloc _ _
 clear hl1 hb1 hbo hsz1 BA0 BX0 BR0 HB0
 have x0 := BA1.out.c0
 have x1 := BA1.out.c1
 have x2 := BA1.out.c2
 have x3 := BA1.out.c3
 have x4 := BA1.out.c4
 have x5 := BA1.out.c5
 have x6 := BA1.out.c6
 have x7 := BA1.out.c7
 go_wp2_with fail
 refine (C1.out _ (HP.out.below HB1.out)).mono ?_
 rintro e w5 ⟨rfl, hb5⟩
 have hs5 := hb5.size
 rw [ZA.out] at hs5
 have SZ5 : Hid (w1.heap.size + 1 ≤ w5.heap.size) := hs5
 have BA5 := hide (BA1.out.below hb5)
 have BX5 := hide (BX1.out.below hb5)
 have BR5 := hide (BR1.out.below hb5)
 have BO5 := hide (BO1.out.below hb5)
 have L5 := hide (L1.out.below hb5)
 have HB5 : Hid (Below w.heap.size w w5) := HB1.out.trans (hb5.mono HB1.out.size)
 clear hb5 hs5 x0 x1 x2 x3 x4 x5 x6 x7 BA1 BX1 BR1 BO1 L1 HB1
 have x1 := BA5.out.c1
 have y0 := BX5.out.c0
 have y1 := BX5.out.c1
 have y2 := BX5.out.c2
 go_wp2_with fail
 refine (C3.out _).mono ?_
 rintro e w6 ⟨rfl, hb6⟩
 have SZ6 : Hid (w5.heap.size ≤ w6.heap.size) := hb6.size
 have BA6 := hide (BA5.out.below hb6)
 have BX6 := hide (BX5.out.below hb6)
 have BR6 := hide (BR5.out.below hb6)
 have BO6 := hide (BO5.out.below hb6)
 have L6 := hide (L5.out.below hb6)
 have HB6 : Hid (Below w.heap.size w w6) := HB5.out.trans (hb6.mono HB5.out.size)
 clear hb6 x1 y0 y1 y2 BA5 BX5 BR5 BO5 L5 HB5
 have x5 := BA6.out.c5
 have y0 := BX6.out.c0
 have y1 := BX6.out.c1
 have y2 := BX6.out.c2
 go_wp2_with fail
 refine (CI.out _ (HP.out.w.below HB6.out)).mono ?_
 rintro e w2 ⟨na, nc, rfl, hd2, hb2⟩
 have hs2 := hb2.size
 have SZ2 : Hid (w1.heap.size + 1 ≤ w2.heap.size) := by show _ ≤ _; have := SZ5.out; have := SZ6.out; omega
 have BA2 : Hid (Bx (w2.setCell ⟨w1.heap.size, 5, none⟩ (.slice na l.length nc)) w.heap.size [.int .i64 t.id, .int .i64 t.st, .int .i64 t.snap, .int .i64 t.cs, .slice ra t.rs.length rc, .slice wa t.ws.length wc, .bool t.out, .string t.nm]) := (BA6.out.below hb2).setO (by show w1.heap.size ≠ w.heap.size; have := SZ1.out; omega) _
 have BX2 : Hid (Bx (w2.setCell ⟨w1.heap.size, 5, none⟩ (.slice na l.length nc)) (w.heap.size + 1) [.string x.1, .string x.2.1, .bool x.2.2]) := (BX6.out.below hb2).setO (by show w1.heap.size ≠ w.heap.size + 1; have := SZ1.out; omega) _
 have BR2 : Hid (Bx (w2.setCell ⟨w1.heap.size, 5, none⟩ (.slice na l.length nc)) (w.heap.size + 1 + 1) [.int .i64 0, .int .i64 0, .int .i64 0, .int .i64 0, .slice none 0 0, .slice none 0 0, .bool false, .string ⟨#[]⟩]) := (BR6.out.below hb2).setO (by show w1.heap.size ≠ w.heap.size + 1 + 1; have := SZ1.out; omega) _
 have BO2p := hide (BO6.out.below hb2)
 have BO2 : Hid (Bx (w2.setCell ⟨w1.heap.size, 5, none⟩ (.slice na l.length nc)) w1.heap.size [.int .i64 t.id, .int .i64 t.st, .int .i64 t.snap, .int .i64 t.cs, .slice pa t.rs.length pc, .slice na l.length nc, .bool t.out, .string t.nm]) := BO2p.out.set 5 _
 have HB2 : Hid (Below w.heap.size w (w2.setCell ⟨w1.heap.size, 5, none⟩ (.slice na l.length nc))) := (HB6.out.trans (hb2.mono HB6.out.size)).setCell (by show w.heap.size ≤ w1.heap.size; have := SZ1.out; omega) _
 have L2 : Hid (TLie (w2.setCell ⟨w1.heap.size, 5, none⟩ (.slice na l.length nc)) (w.heap.size + 1 + 1 + 1) w2.heap.size (setW t l) pa pc na nc) := by
  obtain ⟨m, p1, p2, k1, k2⟩ := L6.out.ex
  refine ⟨w1.heap.size + 1, by have := SZ1.out; omega, SZ2.out, ?_, ?_⟩
  ·have h := (k1.below hb2).setx (a := ⟨w1.heap.size, 5, none⟩) (fun g hg => by show w1.heap.size ≠ g; have := (k1.lo g hg).2; omega) (.slice na l.length nc)
   exact h.mono (Nat.le_refl _) (by omega)
  ·exact ((Lies.of hd2).set (by show w1.heap.size < w6.heap.size; have := SZ5.out; have := SZ6.out; omega) _).mono (by have := SZ5.out; have := SZ6.out; omega) (Nat.le_refl _)
 have ZS : Hid ((w2.setCell ⟨w1.heap.size, 5, none⟩ (.slice na l.length nc)).heap.size = w2.heap.size) := by show _ = _; simp [World.setCell]
 have SZS : Hid (w1.heap.size < (w2.setCell ⟨w1.heap.size, 5, none⟩ (.slice na l.length nc)).heap.size) := by show _ < _; rw [ZS.out]; exact SZ2.out
 clear hd2 hs2
 have o5 := BO2p.out.c5
 have f5 := BO2p.out.fz 5
 clear hb2 x5 y0 y1 y2 BA6 BX6 BR6 BO6 HB6 L6
 go_wp2_with fail
 clear o5 f5 BO2p
 refine (C4.out na nc _ L2.out.row.w).mono ?_
 rintro e w3 ⟨rfl, hb3⟩
 have BA3 := hide (BA2.out.below hb3)
 have BO3 := hide (BO2.out.below hb3)
 have BR3 := hide (BR2.out.below hb3)
 have L3 := hide (L2.out.below hb3)
 have HB3 : Hid (Below w.heap.size w w3) := HB2.out.trans (hb3.mono HB2.out.size)
 have SZ3 : Hid (w2.heap.size ≤ w3.heap.size) := by show _ ≤ _; rw [← ZS.out]; exact hb3.size
 clear hb3 BA2 BX2 BR2 BO2 HB2 L2
 have x0 := BA3.out.c0
 have x1 := BA3.out.c1
 have x2 := BA3.out.c2
 have x3 := BA3.out.c3
 have x4 := BA3.out.c4
 have x5 := BA3.out.c5
 have x6 := BA3.out.c6
 have x7 := BA3.out.c7
 go_wp2_with fail
 refine (scopyTe t ra wa rc wc lo hi (by omega) (by omega) _ (HT.out.below HB3.out).r (HT.out.below HB3.out).w).mono ?_
 rintro e w8 ⟨ra5, rc5, wa5, wc5, rfl, hl5, hb5⟩
 have BRn := hide (BR3.out.below hb5)
 have LL : Hid (TLie w8 (w.heap.size + 1 + 1 + 1) w8.heap.size (setW t t.ws) ra5 rc5 wa5 wc5) := TLie.mono (t := setW t t.ws) hl5 (by have := SZ1.out; have := SZ2.out; have := SZ3.out; omega) (Nat.le_refl _)
 have HH : Hid (Below w.heap.size w w8) := HB3.out.trans (hb5.mono HB3.out.size)
 clear hl5 hb5 x0 x1 x2 x3 x4 x5 x6 x7
 have q0 := BRn.out.c0
 have fq0 := BRn.out.fz 0
 have q1 := BRn.out.c1
 have fq1 := BRn.out.fz 1
 have q2 := BRn.out.c2
 have fq2 := BRn.out.fz 2
 have q3 := BRn.out.c3
 have fq3 := BRn.out.fz 3
 have q4 := BRn.out.c4
 have fq4 := BRn.out.fz 4
 have q5 := BRn.out.c5
 have fq5 := BRn.out.fz 5
 have q6 := BRn.out.c6
 have fq6 := BRn.out.fz 6
 have q7 := BRn.out.c7
 have fq7 := BRn.out.fz 7
 go_wp2
 refine bodyPost_ret (v := .tuple #[.agg #[.int .i64 t.id, .int .i64 t.st, .int .i64 t.snap, .int .i64 t.cs, .slice ra5 t.rs.length rc5, .slice wa5 t.ws.length wc5, .bool t.out, .string t.nm], .bool false]) (by simp [results, Tryz.results15, go_sem, q0, q1, q2, q3, q4, q5, q6, q7]) rfl ⟨_, _, _, _, rfl, ?_, ?_⟩
 ·exact ((((((((LL.out.set (by show _ + 1 + 1 < _; omega) _).set (by show _ + 1 + 1 < _; omega) _).set (by show _ + 1 + 1 < _; omega) _).set (by show _ + 1 + 1 < _; omega) _).set (by show _ + 1 + 1 < _; omega) _).set (by show _ + 1 + 1 < _; omega) _).set (by show _ + 1 + 1 < _; omega) _).set (by show _ + 1 + 1 < _; omega) _).mono (by omega) (by simp [World.setCell])
 ·exact ((((((((HH.out.setCell (by show _ ≤ _ + 1 + 1; omega) _).setCell (by show _ ≤ _ + 1 + 1; omega) _).setCell (by show _ ≤ _ + 1 + 1; omega) _).setCell (by show _ ≤ _ + 1 + 1; omega) _).setCell (by show _ ≤ _ + 1 + 1; omega) _).setCell (by show _ ≤ _ + 1 + 1; omega) _).setCell (by show _ ≤ _ + 1 + 1; omega) _).setCell (by show _ ≤ _ + 1 + 1; omega) _)

set_option maxRecDepth 100000 in
set_option maxHeartbeats 4000000 in
theorem twk_yes (t : Tx) (ra wa : Option Addr) (rc wc : Nat) (x : Wt) (lo hi : Nat) (hf : TFit t) (hx : x.1.size ≤ 1048576 ∧ x.2.1.size ≤ 1048576) (htx : txnB t = true) (hst : t.st = 1) (hwr : writeB x = true) (hws : writesB (putS t.ws x) = true) (w : World) (hp : TwoO w lo hi t ra rc wa wc) :
  Calls Tryz.prog 15 #[.agg #[.int .i64 t.id, .int .i64 t.st, .int .i64 t.snap, .int .i64 t.cs, .slice ra t.rs.length rc, .slice wa t.ws.length wc, .bool t.out, .string t.nm], .agg #[.string x.1, .string x.2.1, .bool x.2.2]] w fun e w' => ∃ ra1 rc1 wa1 wc1, e = .returned (.tuple #[.agg #[.int .i64 t.id, .int .i64 t.st, .int .i64 t.snap, .int .i64 t.cs, .slice ra1 t.rs.length rc1, .slice wa1 (putS t.ws x).length wc1, .bool t.out, .string t.nm], .bool true]) ∧ TLie w' w.heap.size w'.heap.size (setW t (putS t.ws x)) ra1 rc1 wa1 wc1 ∧ Below w.heap.size w w' := by
 have HF : Hid (TFit t) := hf
 have HX : Hid (x.1.size ≤ 1048576 ∧ x.2.1.size ≤ 1048576) := hx
 have hrl : t.rs.length ≤ 1048576 := hf.1
 have hwl : t.ws.length ≤ 1048576 := hf.2.2.1
 clear hf hx
 have HT : Hid (TwoO w lo hi t ra rc wa wc) := hp
 have HP : Hid (TRow w t ra wa) := hp.row
 clear hp
 have C1 : Hid (∀ w, TRow w t ra wa → Calls Tryz.prog 19 #[.agg #[.int .i64 t.id, .int .i64 t.st, .int .i64 t.snap, .int .i64 t.cs, .slice ra t.rs.length rc, .slice wa t.ws.length wc, .bool t.out, .string t.nm]] w fun e w' => e = .returned (.bool true) ∧ Below w.heap.size w w') := fun w h => by have k := stxn t ra wa rc wc HF.out w h; rw [htx] at k; exact k
 have C3 : Hid (∀ w, Calls Tryz.prog 49 #[.agg #[.string x.1, .string x.2.1, .bool x.2.2]] w fun e w' => e = .returned (.bool true) ∧ Below w.heap.size w w') := fun w => by have k := swrite x.1 x.2.1 x.2.2 HX.out.1 w; rw [show writeB (x.1, x.2.1, x.2.2) = true from hwr] at k; exact k
 have CI : Hid (∀ w, GRow encW w wa t.ws → Calls Tryz.prog 50 #[.slice wa t.ws.length wc, .agg #[.string x.1, .string x.2.1, .bool x.2.2]] w fun e w' => ∃ a1 c1, e = .returned (.slice a1 (putS t.ws x).length c1) ∧ GOwn encW 42 w' w.heap.size (.slice a1 (putS t.ws x).length c1) (putS t.ws x) ∧ Below w.heap.size w w') := fun w h => sput t.ws x wa wc (by have := right_len htx; omega) w h
 have C4 : Hid (∀ a c w, GRow encW w a (putS t.ws x) → Calls Tryz.prog 51 #[.slice a (putS t.ws x).length c] w fun e w' => e = .returned (.bool true) ∧ Below w.heap.size w w') := fun a c w h => by have k := swrites (putS t.ws x) a c (by have := len_putS t.ws x; omega) (fit_putS HF.out.2.2.2.1 HX.out) w h; rw [hws] at k; exact k
 have hs1 : (t.st != 1) = false := by simp [hst]
 clear htx hst hwr hws
 generalize putS t.ws x = l at CI C4 ⊢
 have BA0 : Hid (Bx (((w.alloc (.cells #[.int .i64 t.id, .int .i64 t.st, .int .i64 t.snap, .int .i64 t.cs, .slice ra t.rs.length rc, .slice wa t.ws.length wc, .bool t.out, .string t.nm] 27)).alloc (.cells #[.string x.1, .string x.2.1, .bool x.2.2] 42)).alloc (.cells #[.int .i64 0, .int .i64 0, .int .i64 0, .int .i64 0, .slice none 0 0, .slice none 0 0, .bool false, .string ⟨#[]⟩] 27)) w.heap.size [.int .i64 t.id, .int .i64 t.st, .int .i64 t.snap, .int .i64 t.cs, .slice ra t.rs.length rc, .slice wa t.ws.length wc, .bool t.out, .string t.nm]) := ((Bx.new w [.int .i64 t.id, .int .i64 t.st, .int .i64 t.snap, .int .i64 t.cs, .slice ra t.rs.length rc, .slice wa t.ws.length wc, .bool t.out, .string t.nm] 27).alloc _).alloc _
 have BX0 : Hid (Bx (((w.alloc (.cells #[.int .i64 t.id, .int .i64 t.st, .int .i64 t.snap, .int .i64 t.cs, .slice ra t.rs.length rc, .slice wa t.ws.length wc, .bool t.out, .string t.nm] 27)).alloc (.cells #[.string x.1, .string x.2.1, .bool x.2.2] 42)).alloc (.cells #[.int .i64 0, .int .i64 0, .int .i64 0, .int .i64 0, .slice none 0 0, .slice none 0 0, .bool false, .string ⟨#[]⟩] 27)) (w.heap.size + 1) [.string x.1, .string x.2.1, .bool x.2.2]) := by
  have h := (Bx.new (w.alloc (.cells #[.int .i64 t.id, .int .i64 t.st, .int .i64 t.snap, .int .i64 t.cs, .slice ra t.rs.length rc, .slice wa t.ws.length wc, .bool t.out, .string t.nm] 27)) [.string x.1, .string x.2.1, .bool x.2.2] 42).alloc (.cells #[.int .i64 0, .int .i64 0, .int .i64 0, .int .i64 0, .slice none 0 0, .slice none 0 0, .bool false, .string ⟨#[]⟩] 27)
  rw [show (w.alloc (.cells #[.int .i64 t.id, .int .i64 t.st, .int .i64 t.snap, .int .i64 t.cs, .slice ra t.rs.length rc, .slice wa t.ws.length wc, .bool t.out, .string t.nm] 27)).heap.size = w.heap.size + 1 by simp] at h
  exact h
 have BR0 : Hid (Bx (((w.alloc (.cells #[.int .i64 t.id, .int .i64 t.st, .int .i64 t.snap, .int .i64 t.cs, .slice ra t.rs.length rc, .slice wa t.ws.length wc, .bool t.out, .string t.nm] 27)).alloc (.cells #[.string x.1, .string x.2.1, .bool x.2.2] 42)).alloc (.cells #[.int .i64 0, .int .i64 0, .int .i64 0, .int .i64 0, .slice none 0 0, .slice none 0 0, .bool false, .string ⟨#[]⟩] 27)) (w.heap.size + 1 + 1) [.int .i64 0, .int .i64 0, .int .i64 0, .int .i64 0, .slice none 0 0, .slice none 0 0, .bool false, .string ⟨#[]⟩]) := by
  have h := Bx.new ((w.alloc (.cells #[.int .i64 t.id, .int .i64 t.st, .int .i64 t.snap, .int .i64 t.cs, .slice ra t.rs.length rc, .slice wa t.ws.length wc, .bool t.out, .string t.nm] 27)).alloc (.cells #[.string x.1, .string x.2.1, .bool x.2.2] 42)) [.int .i64 0, .int .i64 0, .int .i64 0, .int .i64 0, .slice none 0 0, .slice none 0 0, .bool false, .string ⟨#[]⟩] 27
  rw [show ((w.alloc (.cells #[.int .i64 t.id, .int .i64 t.st, .int .i64 t.snap, .int .i64 t.cs, .slice ra t.rs.length rc, .slice wa t.ws.length wc, .bool t.out, .string t.nm] 27)).alloc (.cells #[.string x.1, .string x.2.1, .bool x.2.2] 42)).heap.size = w.heap.size + 1 + 1 by simp] at h
  exact h
 have HB0 : Hid (Below w.heap.size w (((w.alloc (.cells #[.int .i64 t.id, .int .i64 t.st, .int .i64 t.snap, .int .i64 t.cs, .slice ra t.rs.length rc, .slice wa t.ws.length wc, .bool t.out, .string t.nm] 27)).alloc (.cells #[.string x.1, .string x.2.1, .bool x.2.2] 42)).alloc (.cells #[.int .i64 0, .int .i64 0, .int .i64 0, .int .i64 0, .slice none 0 0, .slice none 0 0, .bool false, .string ⟨#[]⟩] 27))) := (((belowRefl w).alloc (Nat.le_refl _) _).alloc (by simp) _).alloc (by simp; omega) _
 have S0 : Hid ((((w.alloc (.cells #[.int .i64 t.id, .int .i64 t.st, .int .i64 t.snap, .int .i64 t.cs, .slice ra t.rs.length rc, .slice wa t.ws.length wc, .bool t.out, .string t.nm] 27)).alloc (.cells #[.string x.1, .string x.2.1, .bool x.2.2] 42)).alloc (.cells #[.int .i64 0, .int .i64 0, .int .i64 0, .int .i64 0, .slice none 0 0, .slice none 0 0, .bool false, .string ⟨#[]⟩] 27)).heap.size = w.heap.size + 1 + 1 + 1) := by show _ = _; simp
 go_enter Tryz.func15, Tryz.ntmps15
 go_wp2_with fail
 refine (scopyTe t ra wa rc wc lo hi (by omega) (by omega) _ (HT.out.below HB0.out).r (HT.out.below HB0.out).w).mono ?_
 rintro e w1 ⟨pa, pc, qa, qc, rfl, hl1, hb1⟩
 rw [S0.out] at hl1
 have hsz1 := hb1.size
 rw [S0.out] at hsz1
 have SZ1 : Hid (w.heap.size + 1 + 1 + 1 ≤ w1.heap.size) := hsz1
 have hbo : Below w1.heap.size w1 (w1.alloc (.cells #[.int .i64 t.id, .int .i64 t.st, .int .i64 t.snap, .int .i64 t.cs, .slice pa t.rs.length pc, .slice qa t.ws.length qc, .bool t.out, .string t.nm] 27)) := (belowRefl w1).alloc (Nat.le_refl _) _
 have BA1 := hide ((BA0.out.below hb1).below hbo)
 have BX1 := hide ((BX0.out.below hb1).below hbo)
 have BR1 := hide ((BR0.out.below hb1).below hbo)
 have HB1 : Hid (Below w.heap.size w (w1.alloc (.cells #[.int .i64 t.id, .int .i64 t.st, .int .i64 t.snap, .int .i64 t.cs, .slice pa t.rs.length pc, .slice qa t.ws.length qc, .bool t.out, .string t.nm] 27))) := (HB0.out.trans (hb1.mono HB0.out.size)).trans (hbo.mono (by have := SZ1.out; omega))
 have BO1 : Hid (Bx (w1.alloc (.cells #[.int .i64 t.id, .int .i64 t.st, .int .i64 t.snap, .int .i64 t.cs, .slice pa t.rs.length pc, .slice qa t.ws.length qc, .bool t.out, .string t.nm] 27)) w1.heap.size [.int .i64 t.id, .int .i64 t.st, .int .i64 t.snap, .int .i64 t.cs, .slice pa t.rs.length pc, .slice qa t.ws.length qc, .bool t.out, .string t.nm]) := Bx.new w1 [.int .i64 t.id, .int .i64 t.st, .int .i64 t.snap, .int .i64 t.cs, .slice pa t.rs.length pc, .slice qa t.ws.length qc, .bool t.out, .string t.nm] 27
 have L1 : Hid (TLie (w1.alloc (.cells #[.int .i64 t.id, .int .i64 t.st, .int .i64 t.snap, .int .i64 t.cs, .slice pa t.rs.length pc, .slice qa t.ws.length qc, .bool t.out, .string t.nm] 27)) (w.heap.size + 1 + 1 + 1) w1.heap.size t pa pc qa qc) := hl1.below hbo
 have ZA : Hid ((w1.alloc (.cells #[.int .i64 t.id, .int .i64 t.st, .int .i64 t.snap, .int .i64 t.cs, .slice pa t.rs.length pc, .slice qa t.ws.length qc, .bool t.out, .string t.nm] 27)).heap.size = w1.heap.size + 1) := World.size_alloc _ _
 clear hl1 hb1 hbo hsz1 BA0 BX0 BR0 HB0
 have x0 := BA1.out.c0
 have x1 := BA1.out.c1
 have x2 := BA1.out.c2
 have x3 := BA1.out.c3
 have x4 := BA1.out.c4
 have x5 := BA1.out.c5
 have x6 := BA1.out.c6
 have x7 := BA1.out.c7
 go_wp2_with fail
 refine (C1.out _ (HP.out.below HB1.out)).mono ?_
 rintro e w5 ⟨rfl, hb5⟩
 have hs5 := hb5.size
 rw [ZA.out] at hs5
 have SZ5 : Hid (w1.heap.size + 1 ≤ w5.heap.size) := hs5
 have BA5 := hide (BA1.out.below hb5)
 have BX5 := hide (BX1.out.below hb5)
 have BR5 := hide (BR1.out.below hb5)
 have BO5 := hide (BO1.out.below hb5)
 have L5 := hide (L1.out.below hb5)
 have HB5 : Hid (Below w.heap.size w w5) := HB1.out.trans (hb5.mono HB1.out.size)
 clear hb5 hs5 x0 x1 x2 x3 x4 x5 x6 x7 BA1 BX1 BR1 BO1 L1 HB1
 have x1 := BA5.out.c1
 have y0 := BX5.out.c0
 have y1 := BX5.out.c1
 have y2 := BX5.out.c2
 go_wp2_with fail
 refine (C3.out _).mono ?_
 rintro e w6 ⟨rfl, hb6⟩
 have SZ6 : Hid (w5.heap.size ≤ w6.heap.size) := hb6.size
 have BA6 := hide (BA5.out.below hb6)
 have BX6 := hide (BX5.out.below hb6)
 have BR6 := hide (BR5.out.below hb6)
 have BO6 := hide (BO5.out.below hb6)
 have L6 := hide (L5.out.below hb6)
 have HB6 : Hid (Below w.heap.size w w6) := HB5.out.trans (hb6.mono HB5.out.size)
 clear hb6 x1 y0 y1 y2 BA5 BX5 BR5 BO5 L5 HB5
 have x5 := BA6.out.c5
 have y0 := BX6.out.c0
 have y1 := BX6.out.c1
 have y2 := BX6.out.c2
 go_wp2_with fail
 refine (CI.out _ (HP.out.w.below HB6.out)).mono ?_
 rintro e w2 ⟨na, nc, rfl, hd2, hb2⟩
 have hs2 := hb2.size
 have SZ2 : Hid (w1.heap.size + 1 ≤ w2.heap.size) := by show _ ≤ _; have := SZ5.out; have := SZ6.out; omega
 have BA2 : Hid (Bx (w2.setCell ⟨w1.heap.size, 5, none⟩ (.slice na l.length nc)) w.heap.size [.int .i64 t.id, .int .i64 t.st, .int .i64 t.snap, .int .i64 t.cs, .slice ra t.rs.length rc, .slice wa t.ws.length wc, .bool t.out, .string t.nm]) := (BA6.out.below hb2).setO (by show w1.heap.size ≠ w.heap.size; have := SZ1.out; omega) _
 have BX2 : Hid (Bx (w2.setCell ⟨w1.heap.size, 5, none⟩ (.slice na l.length nc)) (w.heap.size + 1) [.string x.1, .string x.2.1, .bool x.2.2]) := (BX6.out.below hb2).setO (by show w1.heap.size ≠ w.heap.size + 1; have := SZ1.out; omega) _
 have BR2 : Hid (Bx (w2.setCell ⟨w1.heap.size, 5, none⟩ (.slice na l.length nc)) (w.heap.size + 1 + 1) [.int .i64 0, .int .i64 0, .int .i64 0, .int .i64 0, .slice none 0 0, .slice none 0 0, .bool false, .string ⟨#[]⟩]) := (BR6.out.below hb2).setO (by show w1.heap.size ≠ w.heap.size + 1 + 1; have := SZ1.out; omega) _
 have BO2p := hide (BO6.out.below hb2)
 have BO2 : Hid (Bx (w2.setCell ⟨w1.heap.size, 5, none⟩ (.slice na l.length nc)) w1.heap.size [.int .i64 t.id, .int .i64 t.st, .int .i64 t.snap, .int .i64 t.cs, .slice pa t.rs.length pc, .slice na l.length nc, .bool t.out, .string t.nm]) := BO2p.out.set 5 _
 have HB2 : Hid (Below w.heap.size w (w2.setCell ⟨w1.heap.size, 5, none⟩ (.slice na l.length nc))) := (HB6.out.trans (hb2.mono HB6.out.size)).setCell (by show w.heap.size ≤ w1.heap.size; have := SZ1.out; omega) _
 have L2 : Hid (TLie (w2.setCell ⟨w1.heap.size, 5, none⟩ (.slice na l.length nc)) (w.heap.size + 1 + 1 + 1) w2.heap.size (setW t l) pa pc na nc) := by
  obtain ⟨m, p1, p2, k1, k2⟩ := L6.out.ex
  refine ⟨w1.heap.size + 1, by have := SZ1.out; omega, SZ2.out, ?_, ?_⟩
  ·have h := (k1.below hb2).setx (a := ⟨w1.heap.size, 5, none⟩) (fun g hg => by show w1.heap.size ≠ g; have := (k1.lo g hg).2; omega) (.slice na l.length nc)
   exact h.mono (Nat.le_refl _) (by omega)
  ·exact ((Lies.of hd2).set (by show w1.heap.size < w6.heap.size; have := SZ5.out; have := SZ6.out; omega) _).mono (by have := SZ5.out; have := SZ6.out; omega) (Nat.le_refl _)
 have ZS : Hid ((w2.setCell ⟨w1.heap.size, 5, none⟩ (.slice na l.length nc)).heap.size = w2.heap.size) := by show _ = _; simp [World.setCell]
 have SZS : Hid (w1.heap.size < (w2.setCell ⟨w1.heap.size, 5, none⟩ (.slice na l.length nc)).heap.size) := by show _ < _; rw [ZS.out]; exact SZ2.out
 clear hd2 hs2
 have o5 := BO2p.out.c5
 have f5 := BO2p.out.fz 5
 clear hb2 x5 y0 y1 y2 BA6 BX6 BR6 BO6 HB6 L6
 go_wp2_with fail
 clear o5 f5 BO2p
 refine (C4.out na nc _ L2.out.row.w).mono ?_
 rintro e w3 ⟨rfl, hb3⟩
 have BA3 := hide (BA2.out.below hb3)
 have BO3 := hide (BO2.out.below hb3)
 have BR3 := hide (BR2.out.below hb3)
 have L3 := hide (L2.out.below hb3)
 have HB3 : Hid (Below w.heap.size w w3) := HB2.out.trans (hb3.mono HB2.out.size)
 have SZ3 : Hid (w2.heap.size ≤ w3.heap.size) := by show _ ≤ _; rw [← ZS.out]; exact hb3.size
 clear hb3 BA2 BX2 BR2 BO2 HB2 L2
 have BRn := BR3
 have LL : Hid (TLie w3 (w.heap.size + 1 + 1 + 1) w3.heap.size (setW t l) pa pc na nc) := L3.out.mono (Nat.le_refl _) SZ3.out
 have HH := HB3
 clear BR3 HB3 L3
 have o0 := BO3.out.c0
 have q0 := BRn.out.c0
 have fq0 := BRn.out.fz 0
 have o1 := BO3.out.c1
 have q1 := BRn.out.c1
 have fq1 := BRn.out.fz 1
 have o2 := BO3.out.c2
 have q2 := BRn.out.c2
 have fq2 := BRn.out.fz 2
 have o3 := BO3.out.c3
 have q3 := BRn.out.c3
 have fq3 := BRn.out.fz 3
 have o4 := BO3.out.c4
 have q4 := BRn.out.c4
 have fq4 := BRn.out.fz 4
 have o5 := BO3.out.c5
 have q5 := BRn.out.c5
 have fq5 := BRn.out.fz 5
 have o6 := BO3.out.c6
 have q6 := BRn.out.c6
 have fq6 := BRn.out.fz 6
 have o7 := BO3.out.c7
 have q7 := BRn.out.c7
 have fq7 := BRn.out.fz 7
 go_wp2
 refine bodyPost_ret (v := .tuple #[.agg #[.int .i64 t.id, .int .i64 t.st, .int .i64 t.snap, .int .i64 t.cs, .slice pa t.rs.length pc, .slice na l.length nc, .bool t.out, .string t.nm], .bool true]) (by simp [results, Tryz.results15, go_sem, q0, q1, q2, q3, q4, q5, q6, q7]) rfl ⟨_, _, _, _, rfl, ?_, ?_⟩
 ·exact ((((((((LL.out.set (by show _ + 1 + 1 < _; omega) _).set (by show _ + 1 + 1 < _; omega) _).set (by show _ + 1 + 1 < _; omega) _).set (by show _ + 1 + 1 < _; omega) _).set (by show _ + 1 + 1 < _; omega) _).set (by show _ + 1 + 1 < _; omega) _).set (by show _ + 1 + 1 < _; omega) _).set (by show _ + 1 + 1 < _; omega) _).mono (by omega) (by simp [World.setCell])
 ·exact ((((((((HH.out.setCell (by show _ ≤ _ + 1 + 1; omega) _).setCell (by show _ ≤ _ + 1 + 1; omega) _).setCell (by show _ ≤ _ + 1 + 1; omega) _).setCell (by show _ ≤ _ + 1 + 1; omega) _).setCell (by show _ ≤ _ + 1 + 1; omega) _).setCell (by show _ ≤ _ + 1 + 1; omega) _).setCell (by show _ ≤ _ + 1 + 1; omega) _).setCell (by show _ ≤ _ + 1 + 1; omega) _)

theorem twk_no (t : Tx) (ra wa : Option Addr) (rc wc : Nat) (x : Wt) (lo hi : Nat) (hf : TFit t) (hx : x.1.size ≤ 1048576 ∧ x.2.1.size ≤ 1048576) (hb : wkB t x = false) (w : World) (hp : TwoO w lo hi t ra rc wa wc) :
  Calls Tryz.prog 15 #[.agg #[.int .i64 t.id, .int .i64 t.st, .int .i64 t.snap, .int .i64 t.cs, .slice ra t.rs.length rc, .slice wa t.ws.length wc, .bool t.out, .string t.nm], .agg #[.string x.1, .string x.2.1, .bool x.2.2]] w fun e w' => ∃ ra1 rc1 wa1 wc1, e = .returned (.tuple #[.agg #[.int .i64 t.id, .int .i64 t.st, .int .i64 t.snap, .int .i64 t.cs, .slice ra1 t.rs.length rc1, .slice wa1 t.ws.length wc1, .bool t.out, .string t.nm], .bool false]) ∧ TLie w' w.heap.size w'.heap.size (setW t t.ws) ra1 rc1 wa1 wc1 ∧ Below w.heap.size w w' := by
 cases htx : txnB t
 ·exact twk_no1 t ra wa rc wc x lo hi hf hx htx w hp
 by_cases hst : t.st = 1
 ·cases hwr : writeB x
  ·exact twk_no3 t ra wa rc wc x lo hi hf hx htx hst hwr w hp
  ·refine twk_no4 t ra wa rc wc x lo hi hf hx htx hst hwr ?_ w hp
   unfold wkB at hb
   rw [htx, show decide (t.st = 1) = true by simp [hst]] at hb
   simpa using hb
 ·exact twk_no2 t ra wa rc wc x lo hi hf hx htx hst w hp
theorem twk_ok (t : Tx) (ra wa : Option Addr) (rc wc : Nat) (x : Wt) (lo hi : Nat) (hf : TFit t) (hx : x.1.size ≤ 1048576 ∧ x.2.1.size ≤ 1048576) (hb : wkB t x = true) (w : World) (hp : TwoO w lo hi t ra rc wa wc) :
  Calls Tryz.prog 15 #[.agg #[.int .i64 t.id, .int .i64 t.st, .int .i64 t.snap, .int .i64 t.cs, .slice ra t.rs.length rc, .slice wa t.ws.length wc, .bool t.out, .string t.nm], .agg #[.string x.1, .string x.2.1, .bool x.2.2]] w fun e w' => ∃ ra1 rc1 wa1 wc1, e = .returned (.tuple #[.agg #[.int .i64 t.id, .int .i64 t.st, .int .i64 t.snap, .int .i64 t.cs, .slice ra1 t.rs.length rc1, .slice wa1 (putS t.ws x).length wc1, .bool t.out, .string t.nm], .bool true]) ∧ TLie w' w.heap.size w'.heap.size (setW t (putS t.ws x)) ra1 rc1 wa1 wc1 ∧ Below w.heap.size w w' := by
 unfold wkB at hb
 simp only [Bool.and_eq_true, decide_eq_true_eq] at hb
 exact twk_yes t ra wa rc wc x lo hi hf hx hb.1.2 hb.1.1 (write_of hb.2 (mem_putS _ _)) hb.2 w hp
end Go.Proofs.YtnljmdodpffmoaaGreat
