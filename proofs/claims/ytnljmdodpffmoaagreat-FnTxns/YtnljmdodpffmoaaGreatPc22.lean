/- What WriteKey returns, on both sides. -/
import Derived.Test.YtnljmdodpffmoaaGreatPc20
import Derived.Test.YtnljmdodpffmoaaGreatPc11
import Derived.Test.YtnljmdodpffmoaaGreatPc21
import Derived.Test.YtnljmdodpffmoaaGreatPc07
namespace Go.Proofs.YtnljmdodpffmoaaGreat
open Go.RowKit
open KM
open VM
attribute [local go_sem ↓] Go.wp_at_zero Go.wp_at_succ

def setW (t : Tx) (l : List Wt) : Tx := ⟨t.id, t.st, t.snap, t.cs, t.rs, l, t.out, t.nm⟩
def wkB (t : Tx) (x : Wt) : Bool := decide (t.st = 1) && txnB t && writesB (putS t.ws x)
theorem good_of {xs : List Wt} (h : writesB xs = true) : Good xs xs.length := by
 unfold writesB at h
 simp only [Bool.and_eq_true, decide_eq_true_eq] at h
 exact fun j hj _ => h.2 j hj
theorem asc_of {xs : List Wt} (h : writesB xs = true) : Asc xs := by
 have hg := good_of h
 have key : ∀ d i (hi : i + d + 1 < xs.length), lt xs[i].1 (xs[i + d + 1]'hi).1 = true := by
  intro d
  induction d with
  | zero =>
   intro i hi
   have := (hg (i + 1) hi hi).2 (by omega)
   simpa using this
  | succ d ih =>
   intro i hi
   have h1 := ih i (by omega)
   have h2 := (hg (i + (d + 1) + 1) hi hi).2 (by omega)
   simp only [Nat.add_sub_cancel] at h2
   exact lt_trans' h1 h2
 unfold Asc
 rw [List.pairwise_iff_getElem]
 intro i j hi hj hij
 have := key (j - i - 1) i (by omega)
 simp only [show i + (j - i - 1) + 1 = j by omega] at this
 exact this
theorem write_of {xs : List Wt} (h : writesB xs = true) {x : Wt} (hx : x ∈ xs) : writeB x = true := by
 obtain ⟨j, hj, rfl⟩ := List.getElem_of_mem hx
 exact (good_of h j hj hj).1
theorem mem_putS (xs : List Wt) (x : Wt) : x ∈ putS xs x := by unfold putS; simp
theorem txn_ws {t : Tx} (h : txnB t = true) : writesB t.ws = true := by
 unfold txnB at h
 simp only [Bool.and_eq_true] at h
 exact h.2
theorem txn_set {t : Tx} (l : List Wt) (h : txnB t = true) : txnB (setW t l) = writesB l := by
 have h0 := h
 unfold txnB at h
 simp only [Bool.and_eq_true, decide_eq_true_eq] at h
 obtain ⟨⟨⟨⟨⟨⟨h1, h2⟩, h3⟩, h4⟩, h5⟩, h6⟩, _⟩ := h
 unfold txnB
 have e5 : stateB (setW t l) = true := by rw [← h5]; rfl
 have e6 : readsB (setW t l).rs = true := h6
 have e1 : decide (1 ≤ (setW t l).id) = true := decide_eq_true h1
 have e2 : decide ((setW t l).id ≤ 9999) = true := decide_eq_true h2
 have e3 : decide (0 ≤ (setW t l).snap) = true := decide_eq_true h3
 have e4 : decide ((setW t l).snap ≤ 9999) = true := decide_eq_true h4
 rw [e1, e2, e3, e4, e5, e6]
 rfl
theorem put_same {t : Tx} (x : Wt) (h : txnB t = true) : putI t.ws x = putS t.ws x := putI_eq _ _ (asc_of (txn_ws h))
theorem len_putS (xs : List Wt) (x : Wt) : (putS xs x).length ≤ 2 * xs.length + 1 := by
 unfold putS
 rw [List.length_append, List.length_append]
 have h1 := List.length_filter_le (fun y : Wt => lt y.1 x.1) xs
 have h2 := List.length_filter_le (fun y : Wt => lt x.1 y.1) xs
 simp only [List.length_singleton]; omega
theorem fit_putS {xs : List Wt} {x : Wt} (h : WFit xs) (hx : x.1.size ≤ 1048576 ∧ x.2.1.size ≤ 1048576) : WFit (putS xs x) := fun y hy => by
 unfold putS at hy
 simp only [List.mem_append, List.mem_filter, List.mem_singleton] at hy
 rcases hy with (hy | hy) | hy
 ·exact h y hy.1
 ·subst hy; exact hx
 ·exact h y hy.1

theorem Lies.setx {α : Type} {E : Enc α} {e : TypeId} {w : World} {lo hi : Nat} {v : Value} {xs : List α} (h : Lies E e w lo hi v xs) {a : Addr} (ha : ∀ g, v.ownBlock = some g → a.block ≠ g) (u : Value) : Lies E e (w.setCell a u) lo hi v xs := by
 refine ⟨?_, h.up⟩
 obtain ⟨h1, h2⟩ := h.own
 refine ⟨h1, ?_⟩
 rcases h2 with h2 | ⟨g, cap, cur, hv, hg', hh, r⟩
 ·exact Or.inl h2
 ·refine Or.inr ⟨g, cap, cur, hv, hg', ?_, r⟩
  rw [Below.heap_setCell _ _ _ _ (fun e => ha g (by rw [hv]; rfl) e.symm)]
  exact hh

set_option maxRecDepth 100000 in
set_option maxHeartbeats 4000000 in
theorem iwk_yes (t : Tx) (ra wa : Option Addr) (rc wc : Nat) (x : Wt) (hf : TFit t) (hx : x.1.size ≤ 1048576 ∧ x.2.1.size ≤ 1048576) (hb : wkB t x = true) (w : World) (hp : TRow w t ra wa) :
  Calls Tryz.prog 14 #[.agg #[.int .i64 t.id, .int .i64 t.st, .int .i64 t.snap, .int .i64 t.cs, .slice ra t.rs.length rc, .slice wa t.ws.length wc, .bool t.out, .string t.nm], .agg #[.string x.1, .string x.2.1, .bool x.2.2]] w fun e w' => ∃ ra1 rc1 wa1 wc1, e = .returned (.tuple #[.agg #[.int .i64 t.id, .int .i64 t.st, .int .i64 t.snap, .int .i64 t.cs, .slice ra1 t.rs.length rc1, .slice wa1 (putS t.ws x).length wc1, .bool t.out, .string t.nm], .bool true]) ∧ TLie w' w.heap.size w'.heap.size (setW t (putS t.ws x)) ra1 rc1 wa1 wc1 ∧ Below w.heap.size w w' := by
 have HF : Hid (TFit t) := hf
 have HX : Hid (x.1.size ≤ 1048576 ∧ x.2.1.size ≤ 1048576) := hx
 have hrl : t.rs.length ≤ 1048576 := hf.1
 have hwl : t.ws.length ≤ 1048576 := hf.2.2.1
 clear hf hx
 have HP : Hid (TRow w t ra wa) := hp
 have hok : (decide (t.st = 1) && txnB t) = true ∧ writesB (putS t.ws x) = true := by unfold wkB at hb; simpa using hb
 have htx : txnB t = true := by have := hok.1; simp only [Bool.and_eq_true] at this; exact this.2
 have C1 : Hid (∀ pa pc qa qc w, TRow w t pa qa → Calls Tryz.prog 40 #[.agg #[.int .i64 t.id, .int .i64 t.st, .int .i64 t.snap, .int .i64 t.cs, .slice pa t.rs.length pc, .slice qa t.ws.length qc, .bool t.out, .string t.nm]] w fun e w' => e = .returned (.bool true) ∧ Below w.heap.size w w') := fun pa pc qa qc w h => by have k := iopen t pa qa pc qc (by omega) (by omega) w h; rw [hok.1] at k; exact k
 have C2 : Hid (∀ pa pc qa qc w, TRow w (setW t (putS t.ws x)) pa qa → Calls Tryz.prog 20 #[.agg #[.int .i64 t.id, .int .i64 t.st, .int .i64 t.snap, .int .i64 t.cs, .slice pa t.rs.length pc, .slice qa (putS t.ws x).length qc, .bool t.out, .string t.nm]] w fun e w' => e = .returned (.bool true) ∧ Below w.heap.size w w') := fun pa pc qa qc w h => by have k := itxn (setW t (putS t.ws x)) pa qa pc qc (by show t.rs.length ≤ _; omega) (by show (putS t.ws x).length ≤ _; have := len_putS t.ws x; omega) w h; rw [txn_set _ htx, hok.2] at k; exact k
 have CI : Hid (∀ w, GRow encW w wa t.ws → Calls Tryz.prog 48 #[.slice wa t.ws.length wc, .agg #[.string x.1, .string x.2.1, .bool x.2.2]] w fun e w' => ∃ a1 c1, e = .returned (.slice a1 (putS t.ws x).length c1) ∧ GOwn encW 42 w' w.heap.size (.slice a1 (putS t.ws x).length c1) (putS t.ws x) ∧ Below w.heap.size w w') := fun w h => by have k := iput t.ws x wa wc hwl HF.out.2.2.2.1 HX.out.1 HX.out.2 w h; rw [put_same x htx] at k; exact k
 clear hp hb hok htx
 generalize putS t.ws x = l at C2 CI ⊢
 have BA0 : Hid (Bx (((w.alloc (.cells #[.int .i64 t.id, .int .i64 t.st, .int .i64 t.snap, .int .i64 t.cs, .slice ra t.rs.length rc, .slice wa t.ws.length wc, .bool t.out, .string t.nm] 27)).alloc (.cells #[.string x.1, .string x.2.1, .bool x.2.2] 42)).alloc (.cells #[.int .i64 0, .int .i64 0, .int .i64 0, .int .i64 0, .slice none 0 0, .slice none 0 0, .bool false, .string ⟨#[]⟩] 27)) w.heap.size [.int .i64 t.id, .int .i64 t.st, .int .i64 t.snap, .int .i64 t.cs, .slice ra t.rs.length rc, .slice wa t.ws.length wc, .bool t.out, .string t.nm]) := ((Bx.new w [.int .i64 t.id, .int .i64 t.st, .int .i64 t.snap, .int .i64 t.cs, .slice ra t.rs.length rc, .slice wa t.ws.length wc, .bool t.out, .string t.nm] 27).alloc _).alloc _
 have BX0 : Hid (Bx (((w.alloc (.cells #[.int .i64 t.id, .int .i64 t.st, .int .i64 t.snap, .int .i64 t.cs, .slice ra t.rs.length rc, .slice wa t.ws.length wc, .bool t.out, .string t.nm] 27)).alloc (.cells #[.string x.1, .string x.2.1, .bool x.2.2] 42)).alloc (.cells #[.int .i64 0, .int .i64 0, .int .i64 0, .int .i64 0, .slice none 0 0, .slice none 0 0, .bool false, .string ⟨#[]⟩] 27)) (w.heap.size + 1) [.string x.1, .string x.2.1, .bool x.2.2]) := by
  have h := (Bx.new (w.alloc (.cells #[.int .i64 t.id, .int .i64 t.st, .int .i64 t.snap, .int .i64 t.cs, .slice ra t.rs.length rc, .slice wa t.ws.length wc, .bool t.out, .string t.nm] 27)) [.string x.1, .string x.2.1, .bool x.2.2] 42).alloc (.cells #[.int .i64 0, .int .i64 0, .int .i64 0, .int .i64 0, .slice none 0 0, .slice none 0 0, .bool false, .string ⟨#[]⟩] 27)
  rw [show (w.alloc (.cells #[.int .i64 t.id, .int .i64 t.st, .int .i64 t.snap, .int .i64 t.cs, .slice ra t.rs.length rc, .slice wa t.ws.length wc, .bool t.out, .string t.nm] 27)).heap.size = w.heap.size + 1 by simp] at h
  exact h
 have BR0 : Hid (Bx (((w.alloc (.cells #[.int .i64 t.id, .int .i64 t.st, .int .i64 t.snap, .int .i64 t.cs, .slice ra t.rs.length rc, .slice wa t.ws.length wc, .bool t.out, .string t.nm] 27)).alloc (.cells #[.string x.1, .string x.2.1, .bool x.2.2] 42)).alloc (.cells #[.int .i64 0, .int .i64 0, .int .i64 0, .int .i64 0, .slice none 0 0, .slice none 0 0, .bool false, .string ⟨#[]⟩] 27)) (w.heap.size + 1 + 1) [.int .i64 0, .int .i64 0, .int .i64 0, .int .i64 0, .slice none 0 0, .slice none 0 0, .bool false, .string ⟨#[]⟩]) := by
  have h := Bx.new ((w.alloc (.cells #[.int .i64 t.id, .int .i64 t.st, .int .i64 t.snap, .int .i64 t.cs, .slice ra t.rs.length rc, .slice wa t.ws.length wc, .bool t.out, .string t.nm] 27)).alloc (.cells #[.string x.1, .string x.2.1, .bool x.2.2] 42)) [.int .i64 0, .int .i64 0, .int .i64 0, .int .i64 0, .slice none 0 0, .slice none 0 0, .bool false, .string ⟨#[]⟩] 27
  rw [show ((w.alloc (.cells #[.int .i64 t.id, .int .i64 t.st, .int .i64 t.snap, .int .i64 t.cs, .slice ra t.rs.length rc, .slice wa t.ws.length wc, .bool t.out, .string t.nm] 27)).alloc (.cells #[.string x.1, .string x.2.1, .bool x.2.2] 42)).heap.size = w.heap.size + 1 + 1 by simp] at h
  exact h
 have HB0 : Hid (Below w.heap.size w (((w.alloc (.cells #[.int .i64 t.id, .int .i64 t.st, .int .i64 t.snap, .int .i64 t.cs, .slice ra t.rs.length rc, .slice wa t.ws.length wc, .bool t.out, .string t.nm] 27)).alloc (.cells #[.string x.1, .string x.2.1, .bool x.2.2] 42)).alloc (.cells #[.int .i64 0, .int .i64 0, .int .i64 0, .int .i64 0, .slice none 0 0, .slice none 0 0, .bool false, .string ⟨#[]⟩] 27))) := (((belowRefl w).alloc (Nat.le_refl _) _).alloc (by simp) _).alloc (by simp; omega) _
 have S0 : Hid ((((w.alloc (.cells #[.int .i64 t.id, .int .i64 t.st, .int .i64 t.snap, .int .i64 t.cs, .slice ra t.rs.length rc, .slice wa t.ws.length wc, .bool t.out, .string t.nm] 27)).alloc (.cells #[.string x.1, .string x.2.1, .bool x.2.2] 42)).alloc (.cells #[.int .i64 0, .int .i64 0, .int .i64 0, .int .i64 0, .slice none 0 0, .slice none 0 0, .bool false, .string ⟨#[]⟩] 27)).heap.size = w.heap.size + 1 + 1 + 1) := by show _ = _; simp
 go_enter Tryz.func14, Tryz.ntmps14
 go_wp2_with fail
 refine (icopyT t ra wa rc wc HF.out _ (HP.out.below HB0.out)).mono ?_
 rintro e w1 ⟨pa, pc, qa, qc, rfl, hl1, hb1⟩
 rw [S0.out] at hl1
 have hs1 := hb1.size
 rw [S0.out] at hs1
 have SZ1 : Hid (w.heap.size + 1 + 1 + 1 ≤ w1.heap.size) := hs1
 have hbo : Below w1.heap.size w1 (w1.alloc (.cells #[.int .i64 t.id, .int .i64 t.st, .int .i64 t.snap, .int .i64 t.cs, .slice pa t.rs.length pc, .slice qa t.ws.length qc, .bool t.out, .string t.nm] 27)) := (belowRefl w1).alloc (Nat.le_refl _) _
 have BA1 := hide ((BA0.out.below hb1).below hbo)
 have BX1 := hide ((BX0.out.below hb1).below hbo)
 have BR1 := hide ((BR0.out.below hb1).below hbo)
 have HB1 : Hid (Below w.heap.size w (w1.alloc (.cells #[.int .i64 t.id, .int .i64 t.st, .int .i64 t.snap, .int .i64 t.cs, .slice pa t.rs.length pc, .slice qa t.ws.length qc, .bool t.out, .string t.nm] 27))) := (HB0.out.trans (hb1.mono HB0.out.size)).trans (hbo.mono (by have := SZ1.out; omega))
 have BO1 : Hid (Bx (w1.alloc (.cells #[.int .i64 t.id, .int .i64 t.st, .int .i64 t.snap, .int .i64 t.cs, .slice pa t.rs.length pc, .slice qa t.ws.length qc, .bool t.out, .string t.nm] 27)) w1.heap.size [.int .i64 t.id, .int .i64 t.st, .int .i64 t.snap, .int .i64 t.cs, .slice pa t.rs.length pc, .slice qa t.ws.length qc, .bool t.out, .string t.nm]) := Bx.new w1 [.int .i64 t.id, .int .i64 t.st, .int .i64 t.snap, .int .i64 t.cs, .slice pa t.rs.length pc, .slice qa t.ws.length qc, .bool t.out, .string t.nm] 27
 have L1 : Hid (TLie (w1.alloc (.cells #[.int .i64 t.id, .int .i64 t.st, .int .i64 t.snap, .int .i64 t.cs, .slice pa t.rs.length pc, .slice qa t.ws.length qc, .bool t.out, .string t.nm] 27)) (w.heap.size + 1 + 1 + 1) w1.heap.size t pa pc qa qc) := hl1.below hbo
 have ZA : Hid ((w1.alloc (.cells #[.int .i64 t.id, .int .i64 t.st, .int .i64 t.snap, .int .i64 t.cs, .slice pa t.rs.length pc, .slice qa t.ws.length qc, .bool t.out, .string t.nm] 27)).heap.size = w1.heap.size + 1) := World.size_alloc _ _
 clear hl1 hb1 hbo hs1 BA0 BX0 BR0 HB0
 have x5 := BA1.out.c5
 have y0 := BX1.out.c0
 have y1 := BX1.out.c1
 have y2 := BX1.out.c2
 go_wp2_with fail
 refine (CI.out _ (HP.out.w.below HB1.out)).mono ?_
 rintro e w2 ⟨na, nc, rfl, hd2, hb2⟩
 rw [ZA.out] at hd2
 have hs2 := hb2.size
 rw [ZA.out] at hs2
 have SZ2 : Hid (w1.heap.size + 1 ≤ w2.heap.size) := hs2
 have BA2 : Hid (Bx (w2.setCell ⟨w1.heap.size, 5, none⟩ (.slice na l.length nc)) w.heap.size [.int .i64 t.id, .int .i64 t.st, .int .i64 t.snap, .int .i64 t.cs, .slice ra t.rs.length rc, .slice wa t.ws.length wc, .bool t.out, .string t.nm]) := (BA1.out.below hb2).setO (by show w1.heap.size ≠ w.heap.size; have := SZ1.out; omega) _
 have BX2 : Hid (Bx (w2.setCell ⟨w1.heap.size, 5, none⟩ (.slice na l.length nc)) (w.heap.size + 1) [.string x.1, .string x.2.1, .bool x.2.2]) := (BX1.out.below hb2).setO (by show w1.heap.size ≠ w.heap.size + 1; have := SZ1.out; omega) _
 have BR2 : Hid (Bx (w2.setCell ⟨w1.heap.size, 5, none⟩ (.slice na l.length nc)) (w.heap.size + 1 + 1) [.int .i64 0, .int .i64 0, .int .i64 0, .int .i64 0, .slice none 0 0, .slice none 0 0, .bool false, .string ⟨#[]⟩]) := (BR1.out.below hb2).setO (by show w1.heap.size ≠ w.heap.size + 1 + 1; have := SZ1.out; omega) _
 have BO2p := hide (BO1.out.below hb2)
 have BO2 : Hid (Bx (w2.setCell ⟨w1.heap.size, 5, none⟩ (.slice na l.length nc)) w1.heap.size [.int .i64 t.id, .int .i64 t.st, .int .i64 t.snap, .int .i64 t.cs, .slice pa t.rs.length pc, .slice na l.length nc, .bool t.out, .string t.nm]) := BO2p.out.set 5 _
 have HB2 : Hid (Below w.heap.size w (w2.setCell ⟨w1.heap.size, 5, none⟩ (.slice na l.length nc))) := (HB1.out.trans (hb2.mono HB1.out.size)).setCell (by show w.heap.size ≤ w1.heap.size; have := SZ1.out; omega) _
 have L2 : Hid (TLie (w2.setCell ⟨w1.heap.size, 5, none⟩ (.slice na l.length nc)) (w.heap.size + 1 + 1 + 1) w2.heap.size (setW t l) pa pc na nc) := by
  obtain ⟨m, p1, p2, k1, k2⟩ := L1.out.ex
  refine ⟨w1.heap.size + 1, by have := SZ1.out; omega, SZ2.out, ?_, ?_⟩
  ·have h := (k1.below hb2).setx (a := ⟨w1.heap.size, 5, none⟩) (fun g hg => by show w1.heap.size ≠ g; have := (k1.lo g hg).2; omega) (.slice na l.length nc)
   exact h.mono (Nat.le_refl _) (by omega)
  ·exact (Lies.of hd2).set (by show w1.heap.size < w1.heap.size + 1; omega) _
 have ZS : Hid ((w2.setCell ⟨w1.heap.size, 5, none⟩ (.slice na l.length nc)).heap.size = w2.heap.size) := by show _ = _; simp [World.setCell]
 have SZS : Hid (w1.heap.size < (w2.setCell ⟨w1.heap.size, 5, none⟩ (.slice na l.length nc)).heap.size) := by show _ < _; rw [ZS.out]; exact SZ2.out
 clear hd2 hs2
 have o5 := BO2p.out.c5
 have f5 := BO2p.out.fz 5
 clear hb2 x5 y0 y1 y2 BA1 BX1 BR1 BO1 HB1 L1
 have x0 := BA2.out.c0
 have x1 := BA2.out.c1
 have x2 := BA2.out.c2
 have x3 := BA2.out.c3
 have x4 := BA2.out.c4
 have x5 := BA2.out.c5
 have x6 := BA2.out.c6
 have x7 := BA2.out.c7
 go_wp2_with fail
 clear o5 f5 BO2p
 refine (C1.out ra rc wa wc _ (HP.out.below HB2.out)).mono ?_
 rintro e w3 ⟨rfl, hb3⟩
 have BO3 := hide (BO2.out.below hb3)
 have BR3 := hide (BR2.out.below hb3)
 have L3 := hide (L2.out.below hb3)
 have HB3 : Hid (Below w.heap.size w w3) := HB2.out.trans (hb3.mono HB2.out.size)
 have SZ3 : Hid (w2.heap.size ≤ w3.heap.size) := by show _ ≤ _; rw [← ZS.out]; exact hb3.size
 clear hb3 x0 x1 x2 x3 x4 x5 x6 x7 BA2 BX2 BR2 BO2 HB2 L2
 have x0 := BO3.out.c0
 have x1 := BO3.out.c1
 have x2 := BO3.out.c2
 have x3 := BO3.out.c3
 have x4 := BO3.out.c4
 have x5 := BO3.out.c5
 have x6 := BO3.out.c6
 have x7 := BO3.out.c7
 go_wp2_with fail
 refine (C2.out pa pc na nc _ L3.out.row).mono ?_
 rintro e w4 ⟨rfl, hb4⟩
 have BO4 := hide (BO3.out.below hb4)
 have BRn := hide (BR3.out.below hb4)
 have LL : Hid (TLie w4 (w.heap.size + 1 + 1 + 1) w4.heap.size (setW t l) pa pc na nc) := (L3.out.below hb4).mono (Nat.le_refl _) (Nat.le_trans SZ3.out hb4.size)
 have HH : Hid (Below w.heap.size w w4) := HB3.out.trans (hb4.mono HB3.out.size)
 clear hb4 x0 x1 x2 x3 x4 x5 x6 x7 BO3 BR3 L3 HB3
 have o0 := BO4.out.c0
 have q0 := BRn.out.c0
 have fq0 := BRn.out.fz 0
 have o1 := BO4.out.c1
 have q1 := BRn.out.c1
 have fq1 := BRn.out.fz 1
 have o2 := BO4.out.c2
 have q2 := BRn.out.c2
 have fq2 := BRn.out.fz 2
 have o3 := BO4.out.c3
 have q3 := BRn.out.c3
 have fq3 := BRn.out.fz 3
 have o4 := BO4.out.c4
 have q4 := BRn.out.c4
 have fq4 := BRn.out.fz 4
 have o5 := BO4.out.c5
 have q5 := BRn.out.c5
 have fq5 := BRn.out.fz 5
 have o6 := BO4.out.c6
 have q6 := BRn.out.c6
 have fq6 := BRn.out.fz 6
 have o7 := BO4.out.c7
 have q7 := BRn.out.c7
 have fq7 := BRn.out.fz 7
 go_wp2
 refine bodyPost_ret (v := .tuple #[.agg #[.int .i64 t.id, .int .i64 t.st, .int .i64 t.snap, .int .i64 t.cs, .slice pa t.rs.length pc, .slice na l.length nc, .bool t.out, .string t.nm], .bool true]) (by simp [results, Tryz.results14, go_sem, q0, q1, q2, q3, q4, q5, q6, q7]) rfl ⟨_, _, _, _, rfl, ?_, ?_⟩
 ·exact ((((((((LL.out.set (by show _ + 1 + 1 < _; omega) _).set (by show _ + 1 + 1 < _; omega) _).set (by show _ + 1 + 1 < _; omega) _).set (by show _ + 1 + 1 < _; omega) _).set (by show _ + 1 + 1 < _; omega) _).set (by show _ + 1 + 1 < _; omega) _).set (by show _ + 1 + 1 < _; omega) _).set (by show _ + 1 + 1 < _; omega) _).mono (by omega) (by simp [World.setCell])
 ·exact ((((((((HH.out.setCell (by show _ ≤ _ + 1 + 1; omega) _).setCell (by show _ ≤ _ + 1 + 1; omega) _).setCell (by show _ ≤ _ + 1 + 1; omega) _).setCell (by show _ ≤ _ + 1 + 1; omega) _).setCell (by show _ ≤ _ + 1 + 1; omega) _).setCell (by show _ ≤ _ + 1 + 1; omega) _).setCell (by show _ ≤ _ + 1 + 1; omega) _).setCell (by show _ ≤ _ + 1 + 1; omega) _)

set_option maxRecDepth 100000 in
set_option maxHeartbeats 4000000 in
theorem iwk_no (t : Tx) (ra wa : Option Addr) (rc wc : Nat) (x : Wt) (hf : TFit t) (hx : x.1.size ≤ 1048576 ∧ x.2.1.size ≤ 1048576) (hb : wkB t x = false) (w : World) (hp : TRow w t ra wa) :
  Calls Tryz.prog 14 #[.agg #[.int .i64 t.id, .int .i64 t.st, .int .i64 t.snap, .int .i64 t.cs, .slice ra t.rs.length rc, .slice wa t.ws.length wc, .bool t.out, .string t.nm], .agg #[.string x.1, .string x.2.1, .bool x.2.2]] w fun e w' => ∃ ra1 rc1 wa1 wc1, e = .returned (.tuple #[.agg #[.int .i64 t.id, .int .i64 t.st, .int .i64 t.snap, .int .i64 t.cs, .slice ra1 t.rs.length rc1, .slice wa1 t.ws.length wc1, .bool t.out, .string t.nm], .bool false]) ∧ TLie w' w.heap.size w'.heap.size (setW t t.ws) ra1 rc1 wa1 wc1 ∧ Below w.heap.size w w' := by
 have HF : Hid (TFit t) := hf
 have HX : Hid (x.1.size ≤ 1048576 ∧ x.2.1.size ≤ 1048576) := hx
 have hrl : t.rs.length ≤ 1048576 := hf.1
 have hwl : t.ws.length ≤ 1048576 := hf.2.2.1
 clear hf hx
 have HP : Hid (TRow w t ra wa) := hp
 have hpl : (putI t.ws x).length ≤ 1048577 := Nat.le_trans (putI_len _ _) (by omega)
 have hok : (decide (t.st = 1) && txnB t) = true → txnB (setW t (putI t.ws x)) = false := fun h => by
  have ht : txnB t = true := by simp only [Bool.and_eq_true] at h; exact h.2
  rw [txn_set _ ht, put_same x ht]
  unfold wkB at hb
  rw [h] at hb
  simpa using hb
 have C1 : Hid (∀ pa pc qa qc w, TRow w t pa qa → Calls Tryz.prog 40 #[.agg #[.int .i64 t.id, .int .i64 t.st, .int .i64 t.snap, .int .i64 t.cs, .slice pa t.rs.length pc, .slice qa t.ws.length qc, .bool t.out, .string t.nm]] w fun e w' => e = .returned (.bool (decide (t.st = 1) && txnB t)) ∧ Below w.heap.size w w') := fun pa pc qa qc w h => iopen t pa qa pc qc (by omega) (by omega) w h
 have C2 : Hid (∀ pa pc qa qc w, TRow w (setW t (putI t.ws x)) pa qa → Calls Tryz.prog 20 #[.agg #[.int .i64 t.id, .int .i64 t.st, .int .i64 t.snap, .int .i64 t.cs, .slice pa t.rs.length pc, .slice qa (putI t.ws x).length qc, .bool t.out, .string t.nm]] w fun e w' => e = .returned (.bool (txnB (setW t (putI t.ws x)))) ∧ Below w.heap.size w w') := fun pa pc qa qc w h => itxn (setW t (putI t.ws x)) pa qa pc qc (by show t.rs.length ≤ _; omega) (by show (putI t.ws x).length ≤ _; omega) w h
 have CI : Hid (∀ w, GRow encW w wa t.ws → Calls Tryz.prog 48 #[.slice wa t.ws.length wc, .agg #[.string x.1, .string x.2.1, .bool x.2.2]] w fun e w' => ∃ a1 c1, e = .returned (.slice a1 (putI t.ws x).length c1) ∧ GOwn encW 42 w' w.heap.size (.slice a1 (putI t.ws x).length c1) (putI t.ws x) ∧ Below w.heap.size w w') := fun w h => iput t.ws x wa wc hwl HF.out.2.2.2.1 HX.out.1 HX.out.2 w h
 generalize txnB (setW t (putI t.ws x)) = b2 at C2 hok
 generalize (decide (t.st = 1) && txnB t) = b1 at C1 hok
 clear hp hb hpl
 generalize putI t.ws x = l at C2 CI
 have BA0 : Hid (Bx (((w.alloc (.cells #[.int .i64 t.id, .int .i64 t.st, .int .i64 t.snap, .int .i64 t.cs, .slice ra t.rs.length rc, .slice wa t.ws.length wc, .bool t.out, .string t.nm] 27)).alloc (.cells #[.string x.1, .string x.2.1, .bool x.2.2] 42)).alloc (.cells #[.int .i64 0, .int .i64 0, .int .i64 0, .int .i64 0, .slice none 0 0, .slice none 0 0, .bool false, .string ⟨#[]⟩] 27)) w.heap.size [.int .i64 t.id, .int .i64 t.st, .int .i64 t.snap, .int .i64 t.cs, .slice ra t.rs.length rc, .slice wa t.ws.length wc, .bool t.out, .string t.nm]) := ((Bx.new w [.int .i64 t.id, .int .i64 t.st, .int .i64 t.snap, .int .i64 t.cs, .slice ra t.rs.length rc, .slice wa t.ws.length wc, .bool t.out, .string t.nm] 27).alloc _).alloc _
 have BX0 : Hid (Bx (((w.alloc (.cells #[.int .i64 t.id, .int .i64 t.st, .int .i64 t.snap, .int .i64 t.cs, .slice ra t.rs.length rc, .slice wa t.ws.length wc, .bool t.out, .string t.nm] 27)).alloc (.cells #[.string x.1, .string x.2.1, .bool x.2.2] 42)).alloc (.cells #[.int .i64 0, .int .i64 0, .int .i64 0, .int .i64 0, .slice none 0 0, .slice none 0 0, .bool false, .string ⟨#[]⟩] 27)) (w.heap.size + 1) [.string x.1, .string x.2.1, .bool x.2.2]) := by
  have h := (Bx.new (w.alloc (.cells #[.int .i64 t.id, .int .i64 t.st, .int .i64 t.snap, .int .i64 t.cs, .slice ra t.rs.length rc, .slice wa t.ws.length wc, .bool t.out, .string t.nm] 27)) [.string x.1, .string x.2.1, .bool x.2.2] 42).alloc (.cells #[.int .i64 0, .int .i64 0, .int .i64 0, .int .i64 0, .slice none 0 0, .slice none 0 0, .bool false, .string ⟨#[]⟩] 27)
  rw [show (w.alloc (.cells #[.int .i64 t.id, .int .i64 t.st, .int .i64 t.snap, .int .i64 t.cs, .slice ra t.rs.length rc, .slice wa t.ws.length wc, .bool t.out, .string t.nm] 27)).heap.size = w.heap.size + 1 by simp] at h
  exact h
 have BR0 : Hid (Bx (((w.alloc (.cells #[.int .i64 t.id, .int .i64 t.st, .int .i64 t.snap, .int .i64 t.cs, .slice ra t.rs.length rc, .slice wa t.ws.length wc, .bool t.out, .string t.nm] 27)).alloc (.cells #[.string x.1, .string x.2.1, .bool x.2.2] 42)).alloc (.cells #[.int .i64 0, .int .i64 0, .int .i64 0, .int .i64 0, .slice none 0 0, .slice none 0 0, .bool false, .string ⟨#[]⟩] 27)) (w.heap.size + 1 + 1) [.int .i64 0, .int .i64 0, .int .i64 0, .int .i64 0, .slice none 0 0, .slice none 0 0, .bool false, .string ⟨#[]⟩]) := by
  have h := Bx.new ((w.alloc (.cells #[.int .i64 t.id, .int .i64 t.st, .int .i64 t.snap, .int .i64 t.cs, .slice ra t.rs.length rc, .slice wa t.ws.length wc, .bool t.out, .string t.nm] 27)).alloc (.cells #[.string x.1, .string x.2.1, .bool x.2.2] 42)) [.int .i64 0, .int .i64 0, .int .i64 0, .int .i64 0, .slice none 0 0, .slice none 0 0, .bool false, .string ⟨#[]⟩] 27
  rw [show ((w.alloc (.cells #[.int .i64 t.id, .int .i64 t.st, .int .i64 t.snap, .int .i64 t.cs, .slice ra t.rs.length rc, .slice wa t.ws.length wc, .bool t.out, .string t.nm] 27)).alloc (.cells #[.string x.1, .string x.2.1, .bool x.2.2] 42)).heap.size = w.heap.size + 1 + 1 by simp] at h
  exact h
 have HB0 : Hid (Below w.heap.size w (((w.alloc (.cells #[.int .i64 t.id, .int .i64 t.st, .int .i64 t.snap, .int .i64 t.cs, .slice ra t.rs.length rc, .slice wa t.ws.length wc, .bool t.out, .string t.nm] 27)).alloc (.cells #[.string x.1, .string x.2.1, .bool x.2.2] 42)).alloc (.cells #[.int .i64 0, .int .i64 0, .int .i64 0, .int .i64 0, .slice none 0 0, .slice none 0 0, .bool false, .string ⟨#[]⟩] 27))) := (((belowRefl w).alloc (Nat.le_refl _) _).alloc (by simp) _).alloc (by simp; omega) _
 have S0 : Hid ((((w.alloc (.cells #[.int .i64 t.id, .int .i64 t.st, .int .i64 t.snap, .int .i64 t.cs, .slice ra t.rs.length rc, .slice wa t.ws.length wc, .bool t.out, .string t.nm] 27)).alloc (.cells #[.string x.1, .string x.2.1, .bool x.2.2] 42)).alloc (.cells #[.int .i64 0, .int .i64 0, .int .i64 0, .int .i64 0, .slice none 0 0, .slice none 0 0, .bool false, .string ⟨#[]⟩] 27)).heap.size = w.heap.size + 1 + 1 + 1) := by show _ = _; simp
 go_enter Tryz.func14, Tryz.ntmps14
 go_wp2_with fail
 refine (icopyT t ra wa rc wc HF.out _ (HP.out.below HB0.out)).mono ?_
 rintro e w1 ⟨pa, pc, qa, qc, rfl, hl1, hb1⟩
 rw [S0.out] at hl1
 have hs1 := hb1.size
 rw [S0.out] at hs1
 have SZ1 : Hid (w.heap.size + 1 + 1 + 1 ≤ w1.heap.size) := hs1
 have hbo : Below w1.heap.size w1 (w1.alloc (.cells #[.int .i64 t.id, .int .i64 t.st, .int .i64 t.snap, .int .i64 t.cs, .slice pa t.rs.length pc, .slice qa t.ws.length qc, .bool t.out, .string t.nm] 27)) := (belowRefl w1).alloc (Nat.le_refl _) _
 have BA1 := hide ((BA0.out.below hb1).below hbo)
 have BX1 := hide ((BX0.out.below hb1).below hbo)
 have BR1 := hide ((BR0.out.below hb1).below hbo)
 have HB1 : Hid (Below w.heap.size w (w1.alloc (.cells #[.int .i64 t.id, .int .i64 t.st, .int .i64 t.snap, .int .i64 t.cs, .slice pa t.rs.length pc, .slice qa t.ws.length qc, .bool t.out, .string t.nm] 27))) := (HB0.out.trans (hb1.mono HB0.out.size)).trans (hbo.mono (by have := SZ1.out; omega))
 have BO1 : Hid (Bx (w1.alloc (.cells #[.int .i64 t.id, .int .i64 t.st, .int .i64 t.snap, .int .i64 t.cs, .slice pa t.rs.length pc, .slice qa t.ws.length qc, .bool t.out, .string t.nm] 27)) w1.heap.size [.int .i64 t.id, .int .i64 t.st, .int .i64 t.snap, .int .i64 t.cs, .slice pa t.rs.length pc, .slice qa t.ws.length qc, .bool t.out, .string t.nm]) := Bx.new w1 [.int .i64 t.id, .int .i64 t.st, .int .i64 t.snap, .int .i64 t.cs, .slice pa t.rs.length pc, .slice qa t.ws.length qc, .bool t.out, .string t.nm] 27
 have L1 : Hid (TLie (w1.alloc (.cells #[.int .i64 t.id, .int .i64 t.st, .int .i64 t.snap, .int .i64 t.cs, .slice pa t.rs.length pc, .slice qa t.ws.length qc, .bool t.out, .string t.nm] 27)) (w.heap.size + 1 + 1 + 1) w1.heap.size t pa pc qa qc) := hl1.below hbo
 have ZA : Hid ((w1.alloc (.cells #[.int .i64 t.id, .int .i64 t.st, .int .i64 t.snap, .int .i64 t.cs, .slice pa t.rs.length pc, .slice qa t.ws.length qc, .bool t.out, .string t.nm] 27)).heap.size = w1.heap.size + 1) := World.size_alloc _ _
 clear hl1 hb1 hbo hs1 BA0 BX0 BR0 HB0
 have x5 := BA1.out.c5
 have y0 := BX1.out.c0
 have y1 := BX1.out.c1
 have y2 := BX1.out.c2
 go_wp2_with fail
 refine (CI.out _ (HP.out.w.below HB1.out)).mono ?_
 rintro e w2 ⟨na, nc, rfl, hd2, hb2⟩
 rw [ZA.out] at hd2
 have hs2 := hb2.size
 rw [ZA.out] at hs2
 have SZ2 : Hid (w1.heap.size + 1 ≤ w2.heap.size) := hs2
 have BA2 : Hid (Bx (w2.setCell ⟨w1.heap.size, 5, none⟩ (.slice na l.length nc)) w.heap.size [.int .i64 t.id, .int .i64 t.st, .int .i64 t.snap, .int .i64 t.cs, .slice ra t.rs.length rc, .slice wa t.ws.length wc, .bool t.out, .string t.nm]) := (BA1.out.below hb2).setO (by show w1.heap.size ≠ w.heap.size; have := SZ1.out; omega) _
 have BX2 : Hid (Bx (w2.setCell ⟨w1.heap.size, 5, none⟩ (.slice na l.length nc)) (w.heap.size + 1) [.string x.1, .string x.2.1, .bool x.2.2]) := (BX1.out.below hb2).setO (by show w1.heap.size ≠ w.heap.size + 1; have := SZ1.out; omega) _
 have BR2 : Hid (Bx (w2.setCell ⟨w1.heap.size, 5, none⟩ (.slice na l.length nc)) (w.heap.size + 1 + 1) [.int .i64 0, .int .i64 0, .int .i64 0, .int .i64 0, .slice none 0 0, .slice none 0 0, .bool false, .string ⟨#[]⟩]) := (BR1.out.below hb2).setO (by show w1.heap.size ≠ w.heap.size + 1 + 1; have := SZ1.out; omega) _
 have BO2p := hide (BO1.out.below hb2)
 have BO2 : Hid (Bx (w2.setCell ⟨w1.heap.size, 5, none⟩ (.slice na l.length nc)) w1.heap.size [.int .i64 t.id, .int .i64 t.st, .int .i64 t.snap, .int .i64 t.cs, .slice pa t.rs.length pc, .slice na l.length nc, .bool t.out, .string t.nm]) := BO2p.out.set 5 _
 have HB2 : Hid (Below w.heap.size w (w2.setCell ⟨w1.heap.size, 5, none⟩ (.slice na l.length nc))) := (HB1.out.trans (hb2.mono HB1.out.size)).setCell (by show w.heap.size ≤ w1.heap.size; have := SZ1.out; omega) _
 have L2 : Hid (TLie (w2.setCell ⟨w1.heap.size, 5, none⟩ (.slice na l.length nc)) (w.heap.size + 1 + 1 + 1) w2.heap.size (setW t l) pa pc na nc) := by
  obtain ⟨m, p1, p2, k1, k2⟩ := L1.out.ex
  refine ⟨w1.heap.size + 1, by have := SZ1.out; omega, SZ2.out, ?_, ?_⟩
  ·have h := (k1.below hb2).setx (a := ⟨w1.heap.size, 5, none⟩) (fun g hg => by show w1.heap.size ≠ g; have := (k1.lo g hg).2; omega) (.slice na l.length nc)
   exact h.mono (Nat.le_refl _) (by omega)
  ·exact (Lies.of hd2).set (by show w1.heap.size < w1.heap.size + 1; omega) _
 have ZS : Hid ((w2.setCell ⟨w1.heap.size, 5, none⟩ (.slice na l.length nc)).heap.size = w2.heap.size) := by show _ = _; simp [World.setCell]
 have SZS : Hid (w1.heap.size < (w2.setCell ⟨w1.heap.size, 5, none⟩ (.slice na l.length nc)).heap.size) := by show _ < _; rw [ZS.out]; exact SZ2.out
 clear hd2 hs2
 have o5 := BO2p.out.c5
 have f5 := BO2p.out.fz 5
 clear hb2 x5 y0 y1 y2 BA1 BX1 BR1 BO1 HB1 L1
 have x0 := BA2.out.c0
 have x1 := BA2.out.c1
 have x2 := BA2.out.c2
 have x3 := BA2.out.c3
 have x4 := BA2.out.c4
 have x5 := BA2.out.c5
 have x6 := BA2.out.c6
 have x7 := BA2.out.c7
 go_wp2_with fail
 clear o5 f5 BO2p
 refine (C1.out ra rc wa wc _ (HP.out.below HB2.out)).mono ?_
 rintro e w3 ⟨rfl, hb3⟩
 have BA3 := hide (BA2.out.below hb3)
 have BO3 := hide (BO2.out.below hb3)
 have BR3 := hide (BR2.out.below hb3)
 have L3 := hide (L2.out.below hb3)
 have HB3 : Hid (Below w.heap.size w w3) := HB2.out.trans (hb3.mono HB2.out.size)
 have SZ3 : Hid (w2.heap.size ≤ w3.heap.size) := by show _ ≤ _; rw [← ZS.out]; exact hb3.size
 clear hb3 x0 x1 x2 x3 x4 x5 x6 x7 BA2 BX2 BR2 BO2 HB2 L2
 cases b1
 ·clear hok C2
  have x0 := BA3.out.c0
  have x1 := BA3.out.c1
  have x2 := BA3.out.c2
  have x3 := BA3.out.c3
  have x4 := BA3.out.c4
  have x5 := BA3.out.c5
  have x6 := BA3.out.c6
  have x7 := BA3.out.c7
  go_wp2_with fail
  refine (icopyT t ra wa rc wc HF.out _ (HP.out.below HB3.out)).mono ?_
  rintro e w5 ⟨ra5, rc5, wa5, wc5, rfl, hl5, hb5⟩
  have BRn := hide (BR3.out.below hb5)
  have LL : Hid (TLie w5 (w.heap.size + 1 + 1 + 1) w5.heap.size (setW t t.ws) ra5 rc5 wa5 wc5) := TLie.mono (t := setW t t.ws) hl5 (by have := SZ1.out; have := SZ2.out; have := SZ3.out; omega) (Nat.le_refl _)
  have HH : Hid (Below w.heap.size w w5) := HB3.out.trans (hb5.mono HB3.out.size)
  clear hl5 hb5 x0 x1 x2 x3 x4 x5 x6 x7
  have q0 := BRn.out.c0
  have fq0 := BRn.out.fz 0
  have q1 := BRn.out.c1
  have fq1 := BRn.out.fz 1
  have q2 := BRn.out.c2
  have fq2 := BRn.out.fz 2
  have q3 := BRn.out.c3
  have fq3 := BRn.out.fz 3
  have q4 := BRn.out.c4
  have fq4 := BRn.out.fz 4
  have q5 := BRn.out.c5
  have fq5 := BRn.out.fz 5
  have q6 := BRn.out.c6
  have fq6 := BRn.out.fz 6
  have q7 := BRn.out.c7
  have fq7 := BRn.out.fz 7
  go_wp2
  refine bodyPost_ret (v := .tuple #[.agg #[.int .i64 t.id, .int .i64 t.st, .int .i64 t.snap, .int .i64 t.cs, .slice ra5 t.rs.length rc5, .slice wa5 t.ws.length wc5, .bool t.out, .string t.nm], .bool false]) (by simp [results, Tryz.results14, go_sem, q0, q1, q2, q3, q4, q5, q6, q7]) rfl ⟨_, _, _, _, rfl, ?_, ?_⟩
  ·exact ((((((((LL.out.set (by show _ + 1 + 1 < _; omega) _).set (by show _ + 1 + 1 < _; omega) _).set (by show _ + 1 + 1 < _; omega) _).set (by show _ + 1 + 1 < _; omega) _).set (by show _ + 1 + 1 < _; omega) _).set (by show _ + 1 + 1 < _; omega) _).set (by show _ + 1 + 1 < _; omega) _).set (by show _ + 1 + 1 < _; omega) _).mono (by omega) (by simp [World.setCell])
  ·exact ((((((((HH.out.setCell (by show _ ≤ _ + 1 + 1; omega) _).setCell (by show _ ≤ _ + 1 + 1; omega) _).setCell (by show _ ≤ _ + 1 + 1; omega) _).setCell (by show _ ≤ _ + 1 + 1; omega) _).setCell (by show _ ≤ _ + 1 + 1; omega) _).setCell (by show _ ≤ _ + 1 + 1; omega) _).setCell (by show _ ≤ _ + 1 + 1; omega) _).setCell (by show _ ≤ _ + 1 + 1; omega) _)
 ·have e2 := hok rfl
  subst e2
  have x0 := BO3.out.c0
  have x1 := BO3.out.c1
  have x2 := BO3.out.c2
  have x3 := BO3.out.c3
  have x4 := BO3.out.c4
  have x5 := BO3.out.c5
  have x6 := BO3.out.c6
  have x7 := BO3.out.c7
  go_wp2_with fail
  refine (C2.out pa pc na nc _ L3.out.row).mono ?_
  rintro e w4 ⟨rfl, hb4⟩
  have BA4 := hide (BA3.out.below hb4)
  have BR4 := hide (BR3.out.below hb4)
  have HB4 : Hid (Below w.heap.size w w4) := HB3.out.trans (hb4.mono HB3.out.size)
  have SZ4 : Hid (w3.heap.size ≤ w4.heap.size) := hb4.size
  clear hb4 x0 x1 x2 x3 x4 x5 x6 x7
  have x0 := BA4.out.c0
  have x1 := BA4.out.c1
  have x2 := BA4.out.c2
  have x3 := BA4.out.c3
  have x4 := BA4.out.c4
  have x5 := BA4.out.c5
  have x6 := BA4.out.c6
  have x7 := BA4.out.c7
  go_wp2_with fail
  refine (icopyT t ra wa rc wc HF.out _ (HP.out.below HB4.out)).mono ?_
  rintro e w5 ⟨ra5, rc5, wa5, wc5, rfl, hl5, hb5⟩
  have BRn := hide (BR4.out.below hb5)
  have LL : Hid (TLie w5 (w.heap.size + 1 + 1 + 1) w5.heap.size (setW t t.ws) ra5 rc5 wa5 wc5) := TLie.mono (t := setW t t.ws) hl5 (by have := SZ1.out; have := SZ2.out; have := SZ3.out; have := SZ4.out; omega) (Nat.le_refl _)
  have HH : Hid (Below w.heap.size w w5) := HB4.out.trans (hb5.mono HB4.out.size)
  clear hl5 hb5 x0 x1 x2 x3 x4 x5 x6 x7
  have q0 := BRn.out.c0
  have fq0 := BRn.out.fz 0
  have q1 := BRn.out.c1
  have fq1 := BRn.out.fz 1
  have q2 := BRn.out.c2
  have fq2 := BRn.out.fz 2
  have q3 := BRn.out.c3
  have fq3 := BRn.out.fz 3
  have q4 := BRn.out.c4
  have fq4 := BRn.out.fz 4
  have q5 := BRn.out.c5
  have fq5 := BRn.out.fz 5
  have q6 := BRn.out.c6
  have fq6 := BRn.out.fz 6
  have q7 := BRn.out.c7
  have fq7 := BRn.out.fz 7
  go_wp2
  refine bodyPost_ret (v := .tuple #[.agg #[.int .i64 t.id, .int .i64 t.st, .int .i64 t.snap, .int .i64 t.cs, .slice ra5 t.rs.length rc5, .slice wa5 t.ws.length wc5, .bool t.out, .string t.nm], .bool false]) (by simp [results, Tryz.results14, go_sem, q0, q1, q2, q3, q4, q5, q6, q7]) rfl ⟨_, _, _, _, rfl, ?_, ?_⟩
  ·exact ((((((((LL.out.set (by show _ + 1 + 1 < _; omega) _).set (by show _ + 1 + 1 < _; omega) _).set (by show _ + 1 + 1 < _; omega) _).set (by show _ + 1 + 1 < _; omega) _).set (by show _ + 1 + 1 < _; omega) _).set (by show _ + 1 + 1 < _; omega) _).set (by show _ + 1 + 1 < _; omega) _).set (by show _ + 1 + 1 < _; omega) _).mono (by omega) (by simp [World.setCell])
  ·exact ((((((((HH.out.setCell (by show _ ≤ _ + 1 + 1; omega) _).setCell (by show _ ≤ _ + 1 + 1; omega) _).setCell (by show _ ≤ _ + 1 + 1; omega) _).setCell (by show _ ≤ _ + 1 + 1; omega) _).setCell (by show _ ≤ _ + 1 + 1; omega) _).setCell (by show _ ≤ _ + 1 + 1; omega) _).setCell (by show _ ≤ _ + 1 + 1; omega) _).setCell (by show _ ≤ _ + 1 + 1; omega) _)

end Go.Proofs.YtnljmdodpffmoaaGreat
