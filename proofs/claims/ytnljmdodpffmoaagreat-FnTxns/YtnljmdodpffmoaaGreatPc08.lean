/- What TxnOk returns, on both sides. -/
import Derived.Test.YtnljmdodpffmoaaGreatPc05
import Derived.Test.YtnljmdodpffmoaaGreatPc07
import Derived.Test.YtnljmdodpffmoaaGreatPc02
namespace Go.Proofs.YtnljmdodpffmoaaGreat
open Go.RowKit
open KM
attribute [local go_sem ↓] Go.wp_at_zero Go.wp_at_succ

theorem hide0 {p : Prop} (h : p) : Hid p := h
section
variable {w : World} {b : Nat}
theorem Bx.c5 {x0 x1 x2 x3 x4 x5 : Value} {r : List Value} (h : Bx w b (x0 :: x1 :: x2 :: x3 :: x4 :: x5 :: r)) : w.cell? ⟨b, 5, none⟩ = some x5 := h.at' 5 (by simp)
theorem Bx.c6 {x0 x1 x2 x3 x4 x5 x6 : Value} {r : List Value} (h : Bx w b (x0 :: x1 :: x2 :: x3 :: x4 :: x5 :: x6 :: r)) : w.cell? ⟨b, 6, none⟩ = some x6 := h.at' 6 (by simp)
theorem Bx.c7 {x0 x1 x2 x3 x4 x5 x6 x7 : Value} {r : List Value} (h : Bx w b (x0 :: x1 :: x2 :: x3 :: x4 :: x5 :: x6 :: x7 :: r)) : w.cell? ⟨b, 7, none⟩ = some x7 := h.at' 7 (by simp)
end
set_option maxRecDepth 100000 in
set_option maxHeartbeats 2000000 in
theorem itxn (t : Tx) (ra wa : Option Addr) (rc wc : Nat) (hr : t.rs.length ≤ 100000000) (hw : t.ws.length ≤ 100000000) (w : World) (hp : TRow w t ra wa) : Calls Tryz.prog 20 #[.agg #[.int .i64 t.id, .int .i64 t.st, .int .i64 t.snap, .int .i64 t.cs, .slice ra t.rs.length rc, .slice wa t.ws.length wc, .bool t.out, .string t.nm]] w fun e w' => e = .returned (.bool (txnB t)) ∧ Below w.heap.size w w' := by
 have HP : Hid (TRow w t ra wa) := hp
 clear hp
 have BX0 : Hid (Bx (w.alloc (.cells #[.int .i64 t.id, .int .i64 t.st, .int .i64 t.snap, .int .i64 t.cs, .slice ra t.rs.length rc, .slice wa t.ws.length wc, .bool t.out, .string t.nm] 27)) w.heap.size [.int .i64 t.id, .int .i64 t.st, .int .i64 t.snap, .int .i64 t.cs, .slice ra t.rs.length rc, .slice wa t.ws.length wc, .bool t.out, .string t.nm]) := Bx.new w [.int .i64 t.id, .int .i64 t.st, .int .i64 t.snap, .int .i64 t.cs, .slice ra t.rs.length rc, .slice wa t.ws.length wc, .bool t.out, .string t.nm] 27
 have HB0 : Hid (Below w.heap.size w (w.alloc (.cells #[.int .i64 t.id, .int .i64 t.st, .int .i64 t.snap, .int .i64 t.cs, .slice ra t.rs.length rc, .slice wa t.ws.length wc, .bool t.out, .string t.nm] 27))) := (belowRefl w).alloc (Nat.le_refl _) _
 by_cases c1 : t.id < 1
 ·have HN : Hid (txnB t = false) := by show _ = _; unfold txnB; have e : decide (1 ≤ t.id) = false := decide_eq_false (by omega); simp [e]
  go_enter Tryz.func20, Tryz.ntmps20
  go_wp2
  go_ret
  exact ⟨ret_bool HN.out.symm, HB0.out⟩
 by_cases c2 : 9999 < t.id
 ·have HN : Hid (txnB t = false) := by show _ = _; unfold txnB; have e : decide (t.id ≤ 9999) = false := decide_eq_false (by omega); simp [e]
  go_enter Tryz.func20, Tryz.ntmps20
  go_wp2
  go_ret
  exact ⟨ret_bool HN.out.symm, HB0.out⟩
 by_cases c3 : t.snap < 0
 ·have HN : Hid (txnB t = false) := by show _ = _; unfold txnB; have e : decide (0 ≤ t.snap) = false := decide_eq_false (by omega); simp [e]
  go_enter Tryz.func20, Tryz.ntmps20
  go_wp2
  go_ret
  exact ⟨ret_bool HN.out.symm, HB0.out⟩
 by_cases c4 : 9999 < t.snap
 ·have HN : Hid (txnB t = false) := by show _ = _; unfold txnB; have e : decide (t.snap ≤ 9999) = false := decide_eq_false (by omega); simp [e]
  go_enter Tryz.func20, Tryz.ntmps20
  go_wp2
  go_ret
  exact ⟨ret_bool HN.out.symm, HB0.out⟩
 have E : Hid (txnB t = (stateB t && readsB t.rs && writesB t.ws)) := by
  show _ = _
  unfold txnB
  have e1 : decide (1 ≤ t.id) = true := by simp; omega
  have e2 : decide (t.id ≤ 9999) = true := by simp; omega
  have e3 : decide (0 ≤ t.snap) = true := by simp; omega
  have e4 : decide (t.snap ≤ 9999) = true := by simp; omega
  rw [e1, e2, e3, e4]; simp
 cases hs : stateB t
 ·have C1 : Hid (∀ w, Calls Tryz.prog 61 #[.agg #[.int .i64 t.id, .int .i64 t.st, .int .i64 t.snap, .int .i64 t.cs, .slice ra t.rs.length rc, .slice wa t.ws.length wc, .bool t.out, .string t.nm]] w fun e w' => e = .returned (.bool false) ∧ Below w.heap.size w w') := fun w => hs ▸ istate t ra wa rc wc w
  go_enter Tryz.func20, Tryz.ntmps20
  go_wp2_with fail
  refine (C1.out _).mono ?_
  rintro e w1 ⟨rfl, hb1⟩
  have HB1 : Hid (Below w.heap.size w w1) := HB0.out.trans (hb1.mono HB0.out.size)
  have BX1 : Hid (Bx w1 w.heap.size [.int .i64 t.id, .int .i64 t.st, .int .i64 t.snap, .int .i64 t.cs, .slice ra t.rs.length rc, .slice wa t.ws.length wc, .bool t.out, .string t.nm]) := BX0.out.below hb1
  clear hb1
  have HN : Hid (txnB t = false) := by show _ = _; rw [E.out, hs]; rfl
  clear hs E
  go_wp2
  go_ret
  exact ⟨ret_bool HN.out.symm, HB1.out⟩
 have C1 : Hid (∀ w, Calls Tryz.prog 61 #[.agg #[.int .i64 t.id, .int .i64 t.st, .int .i64 t.snap, .int .i64 t.cs, .slice ra t.rs.length rc, .slice wa t.ws.length wc, .bool t.out, .string t.nm]] w fun e w' => e = .returned (.bool true) ∧ Below w.heap.size w w') := fun w => hs ▸ istate t ra wa rc wc w
 cases hd : readsB t.rs
 ·have C2 : Hid (∀ w, GRow encR w ra t.rs → Calls Tryz.prog 62 #[.slice ra t.rs.length rc] w fun e w' => e = .returned (.bool false) ∧ Below w.heap.size w w') := fun w h => hd ▸ ireads t.rs ra rc hr w h
  have HN : Hid (txnB t = false) := by show _ = _; rw [E.out, hs, hd]; rfl
  clear hs hd E
  go_enter Tryz.func20, Tryz.ntmps20
  go_wp2_with fail
  refine (C1.out _).mono ?_
  rintro e w1 ⟨rfl, hb1⟩
  have HB1 : Hid (Below w.heap.size w w1) := HB0.out.trans (hb1.mono HB0.out.size)
  have BX1 : Hid (Bx w1 w.heap.size [.int .i64 t.id, .int .i64 t.st, .int .i64 t.snap, .int .i64 t.cs, .slice ra t.rs.length rc, .slice wa t.ws.length wc, .bool t.out, .string t.nm]) := BX0.out.below hb1
  clear hb1
  have x4 := BX1.out.c4
  go_wp2_with fail
  refine (C2.out _ (HP.out.r.below HB1.out)).mono ?_
  rintro e w2 ⟨rfl, hb2⟩
  have HB2 : Hid (Below w.heap.size w w2) := HB1.out.trans (hb2.mono HB1.out.size)
  have BX2 : Hid (Bx w2 w.heap.size [.int .i64 t.id, .int .i64 t.st, .int .i64 t.snap, .int .i64 t.cs, .slice ra t.rs.length rc, .slice wa t.ws.length wc, .bool t.out, .string t.nm]) := BX1.out.below hb2
  clear hb2 x4
  go_wp2
  go_ret
  exact ⟨ret_bool HN.out.symm, HB2.out⟩
 ·have C2 : Hid (∀ w, GRow encR w ra t.rs → Calls Tryz.prog 62 #[.slice ra t.rs.length rc] w fun e w' => e = .returned (.bool true) ∧ Below w.heap.size w w') := fun w h => hd ▸ ireads t.rs ra rc hr w h
  have HN : Hid (txnB t = writesB t.ws) := by show _ = _; rw [E.out, hs, hd]; rfl
  clear hs hd E
  go_enter Tryz.func20, Tryz.ntmps20
  go_wp2_with fail
  refine (C1.out _).mono ?_
  rintro e w1 ⟨rfl, hb1⟩
  have HB1 : Hid (Below w.heap.size w w1) := HB0.out.trans (hb1.mono HB0.out.size)
  have BX1 : Hid (Bx w1 w.heap.size [.int .i64 t.id, .int .i64 t.st, .int .i64 t.snap, .int .i64 t.cs, .slice ra t.rs.length rc, .slice wa t.ws.length wc, .bool t.out, .string t.nm]) := BX0.out.below hb1
  clear hb1
  have x4 := BX1.out.c4
  go_wp2_with fail
  refine (C2.out _ (HP.out.r.below HB1.out)).mono ?_
  rintro e w2 ⟨rfl, hb2⟩
  have HB2 : Hid (Below w.heap.size w w2) := HB1.out.trans (hb2.mono HB1.out.size)
  have BX2 : Hid (Bx w2 w.heap.size [.int .i64 t.id, .int .i64 t.st, .int .i64 t.snap, .int .i64 t.cs, .slice ra t.rs.length rc, .slice wa t.ws.length wc, .bool t.out, .string t.nm]) := BX1.out.below hb2
  clear hb2 x4
  have x5 := BX2.out.c5
  go_wp2_with fail
  refine (iwrites t.ws wa wc hw _ (HP.out.w.below HB2.out)).mono ?_
  rintro e w3 ⟨rfl, hb3⟩
  have HB3 : Hid (Below w.heap.size w w3) := HB2.out.trans (hb3.mono HB2.out.size)
  clear hb3 x5
  go_wp2
  go_ret
  exact ⟨ret_bool HN.out.symm, HB3.out⟩

set_option maxRecDepth 100000 in
set_option maxHeartbeats 2000000 in
theorem stxn (t : Tx) (ra wa : Option Addr) (rc wc : Nat) (hf : TFit t) (w : World) (hp : TRow w t ra wa) : Calls Tryz.prog 19 #[.agg #[.int .i64 t.id, .int .i64 t.st, .int .i64 t.snap, .int .i64 t.cs, .slice ra t.rs.length rc, .slice wa t.ws.length wc, .bool t.out, .string t.nm]] w fun e w' => e = .returned (.bool (txnB t)) ∧ Below w.heap.size w w' := by
 obtain ⟨hr, hrf, hw, hwf, hnm⟩ := hf
 have HRF : Hid (RFit t.rs) := hrf
 have HWF : Hid (WFit t.ws) := hwf
 clear hrf hwf
 have HP : Hid (TRow w t ra wa) := hp
 clear hp
 have BX0 : Hid (Bx (w.alloc (.cells #[.int .i64 t.id, .int .i64 t.st, .int .i64 t.snap, .int .i64 t.cs, .slice ra t.rs.length rc, .slice wa t.ws.length wc, .bool t.out, .string t.nm] 27)) w.heap.size [.int .i64 t.id, .int .i64 t.st, .int .i64 t.snap, .int .i64 t.cs, .slice ra t.rs.length rc, .slice wa t.ws.length wc, .bool t.out, .string t.nm]) := Bx.new w [.int .i64 t.id, .int .i64 t.st, .int .i64 t.snap, .int .i64 t.cs, .slice ra t.rs.length rc, .slice wa t.ws.length wc, .bool t.out, .string t.nm] 27
 have HB0 : Hid (Below w.heap.size w (w.alloc (.cells #[.int .i64 t.id, .int .i64 t.st, .int .i64 t.snap, .int .i64 t.cs, .slice ra t.rs.length rc, .slice wa t.ws.length wc, .bool t.out, .string t.nm] 27))) := (belowRefl w).alloc (Nat.le_refl _) _
 by_cases c0 : 1 ≤ t.id ∧ t.id ≤ 9999
 rotate_left
 ·have HN : Hid (txnB t = false) := by
   show _ = _
   cases e : txnB t with
   | false => rfl
   | true =>
    exfalso
    unfold txnB stateB at e
    simp only [Bool.and_eq_true, Bool.or_eq_true, decide_eq_true_eq] at e
    omega
  go_enter Tryz.func19, Tryz.ntmps19
  go_wp2_with fail
  refine (in57 t.id 1 9999 false (by simp; omega) _).mono ?_
  rintro e w2 ⟨rfl, rfl⟩
  go_wp2
  go_ret
  exact ⟨ret_bool HN.out.symm, HB0.out⟩
 by_cases c1 : 1 ≤ t.st ∧ t.st ≤ 3
 rotate_left
 ·have HN : Hid (txnB t = false) := by
   show _ = _
   cases e : txnB t with
   | false => rfl
   | true =>
    exfalso
    unfold txnB stateB at e
    simp only [Bool.and_eq_true, Bool.or_eq_true, decide_eq_true_eq] at e
    omega
  go_enter Tryz.func19, Tryz.ntmps19
  go_wp2_with fail
  refine (in57 t.id 1 9999 true (by simp; exact c0) _).mono ?_
  rintro e w2 ⟨rfl, rfl⟩
  go_wp2_with fail
  refine (in57 t.st 1 3 false (by simp; omega) _).mono ?_
  rintro e w2 ⟨rfl, rfl⟩
  go_wp2
  go_ret
  exact ⟨ret_bool HN.out.symm, HB0.out⟩
 by_cases c2 : 0 ≤ t.snap ∧ t.snap ≤ 9999
 rotate_left
 ·have HN : Hid (txnB t = false) := by
   show _ = _
   cases e : txnB t with
   | false => rfl
   | true =>
    exfalso
    unfold txnB stateB at e
    simp only [Bool.and_eq_true, Bool.or_eq_true, decide_eq_true_eq] at e
    omega
  go_enter Tryz.func19, Tryz.ntmps19
  go_wp2_with fail
  refine (in57 t.id 1 9999 true (by simp; exact c0) _).mono ?_
  rintro e w2 ⟨rfl, rfl⟩
  go_wp2_with fail
  refine (in57 t.st 1 3 true (by simp; exact c1) _).mono ?_
  rintro e w2 ⟨rfl, rfl⟩
  go_wp2_with fail
  refine (in57 t.snap 0 9999 false (by simp; omega) _).mono ?_
  rintro e w2 ⟨rfl, rfl⟩
  go_wp2
  go_ret
  exact ⟨ret_bool HN.out.symm, HB0.out⟩
 by_cases h8 : t.rs.length ≤ 8
 rotate_left
 ·have h8' : (8 : Int) < (t.rs.length : Int) := by omega
  have HN : Hid (txnB t = false) := by show _ = _; unfold txnB; rw [goodR_len h8]; simp
  go_enter Tryz.func19, Tryz.ntmps19
  go_wp2_with fail
  refine (in57 t.id 1 9999 true (by simp; exact c0) _).mono ?_
  rintro e w2 ⟨rfl, rfl⟩
  go_wp2_with fail
  refine (in57 t.st 1 3 true (by simp; exact c1) _).mono ?_
  rintro e w2 ⟨rfl, rfl⟩
  go_wp2_with fail
  refine (in57 t.snap 0 9999 true (by simp; exact c2) _).mono ?_
  rintro e w2 ⟨rfl, rfl⟩
  go_wp2
  go_ret
  exact ⟨ret_bool HN.out.symm, HB0.out⟩
 have h8' : ¬ (8 : Int) < (t.rs.length : Int) := by omega
 cases hv : writesB t.ws
 ·have C1 : Hid (∀ w, GRow encW w wa t.ws → Calls Tryz.prog 51 #[.slice wa t.ws.length wc] w fun e w' => e = .returned (.bool false) ∧ Below w.heap.size w w') := fun w h => hv ▸ swrites t.ws wa wc (by omega) HWF.out w h
  have HN : Hid (txnB t = false) := by show _ = _; unfold txnB; rw [hv]; simp
  clear hv
  go_enter Tryz.func19, Tryz.ntmps19
  go_wp2_with fail
  refine (in57 t.id 1 9999 true (by simp; exact c0) _).mono ?_
  rintro e w2 ⟨rfl, rfl⟩
  go_wp2_with fail
  refine (in57 t.st 1 3 true (by simp; exact c1) _).mono ?_
  rintro e w2 ⟨rfl, rfl⟩
  go_wp2_with fail
  refine (in57 t.snap 0 9999 true (by simp; exact c2) _).mono ?_
  rintro e w2 ⟨rfl, rfl⟩
  go_wp2_with fail
  refine (C1.out _ (HP.out.w.below HB0.out)).mono ?_
  rintro e w1 ⟨rfl, hb1⟩
  have HB1 : Hid (Below w.heap.size w w1) := HB0.out.trans (hb1.mono HB0.out.size)
  have BX1 : Hid (Bx w1 w.heap.size [.int .i64 t.id, .int .i64 t.st, .int .i64 t.snap, .int .i64 t.cs, .slice ra t.rs.length rc, .slice wa t.ws.length wc, .bool t.out, .string t.nm]) := BX0.out.below hb1
  clear hb1
  go_wp2
  go_ret
  exact ⟨ret_bool HN.out.symm, HB1.out⟩
 ·have C1 : Hid (∀ w, GRow encW w wa t.ws → Calls Tryz.prog 51 #[.slice wa t.ws.length wc] w fun e w' => e = .returned (.bool true) ∧ Below w.heap.size w w') := fun w h => hv ▸ swrites t.ws wa wc (by omega) HWF.out w h
  have HV : Hid (writesB t.ws = true) := hv
  clear hv
  go_enter Tryz.func19, Tryz.ntmps19
  go_wp2_with fail
  refine (in57 t.id 1 9999 true (by simp; exact c0) _).mono ?_
  rintro e w2 ⟨rfl, rfl⟩
  go_wp2_with fail
  refine (in57 t.st 1 3 true (by simp; exact c1) _).mono ?_
  rintro e w2 ⟨rfl, rfl⟩
  go_wp2_with fail
  refine (in57 t.snap 0 9999 true (by simp; exact c2) _).mono ?_
  rintro e w2 ⟨rfl, rfl⟩
  go_wp2_with fail
  refine (C1.out _ (HP.out.w.below HB0.out)).mono ?_
  rintro e w1 ⟨rfl, hb1⟩
  have HB1 : Hid (Below w.heap.size w w1) := HB0.out.trans (hb1.mono HB0.out.size)
  have BX1 : Hid (Bx w1 w.heap.size [.int .i64 t.id, .int .i64 t.st, .int .i64 t.snap, .int .i64 t.cs, .slice ra t.rs.length rc, .slice wa t.ws.length wc, .bool t.out, .string t.nm]) := BX0.out.below hb1
  clear hb1
  go_wp2
  go_loopw [3] (fun v wr => ∃ k : Nat, k ≤ t.rs.length ∧ v = .int .i64 k ∧ Hid (GoodR t.rs k) ∧ Hid (Bx wr w.heap.size [.int .i64 t.id, .int .i64 t.st, .int .i64 t.snap, .int .i64 t.cs, .slice ra t.rs.length rc, .slice wa t.ws.length wc, .bool t.out, .string t.nm]) ∧ Hid (Below w.heap.size w wr)) (fun v _ => t.rs.length - (intOf v).toNat)
  case atStart => exact ⟨0, Nat.zero_le _, rfl, fun j _ h => by omega, BX1, HB1⟩
  case round =>
   obtain ⟨k, hk, rfl, HG, BX, HB⟩ := hrel
   have x4 := BX.out.c4
   by_cases hlt : k < t.rs.length
   ·have hlt' : (k : Int) < (t.rs.length : Int) := by omega
    have h0 : (0 : Int) ≤ (k : Int) := by omega
    obtain ⟨bb, off, rfl, hl, q⟩ := (HP.out.r.below HB.out) (by omega)
    have r0 := ((rat q) k hlt).1
    have r1 := ((rat q) k hlt).2
    clear q
    have HZ : Hid (t.rs[k].1.size ≤ 1048576 ∧ t.rs[k].2.size ≤ 1048576) := HRF.out _ (List.getElem_mem hlt)
    cases hv : rangeB t.rs[k]
    ·have K1 : Hid (∀ w, Calls Tryz.prog 45 #[.agg #[.string t.rs[k].1, .string t.rs[k].2]] w fun e w' => e = .returned (.bool false) ∧ Below w.heap.size w w') := fun w => hv ▸ srange t.rs[k].1 t.rs[k].2 HZ.out.1 HZ.out.2 w
     have HN : Hid (txnB t = false) := by show _ = _; unfold txnB; rw [goodR_no k hlt hv]; simp
     clear hv
     go_wp2_with fail
     refine (K1.out _).mono ?_
     rintro e w2 ⟨rfl, hb2⟩
     have HB2 : Hid (Below w.heap.size w w2) := HB.out.trans (hb2.mono HB.out.size)
     clear hb2
     go_wp2
     go_ret
     exact ⟨ret_bool HN.out.symm, HB2.out⟩
    ·have K1 : Hid (∀ w, Calls Tryz.prog 45 #[.agg #[.string t.rs[k].1, .string t.rs[k].2]] w fun e w' => e = .returned (.bool true) ∧ Below w.heap.size w w') := fun w => hv ▸ srange t.rs[k].1 t.rs[k].2 HZ.out.1 HZ.out.2 w
     have HG2 : Hid (GoodR t.rs (k + 1)) := goodR_more HG.out hlt hv
     clear hv
     go_wp2_with fail
     refine (K1.out _).mono ?_
     rintro e w2 ⟨rfl, hb2⟩
     have HB2 : Hid (Below w.heap.size w w2) := HB.out.trans (hb2.mono HB.out.size)
     have BX2 := hide0 (BX.out.below hb2)
     clear hb2
     go_wp2
     go_roundw
     case rel => exact ⟨k + 1, by omega, by go_num, HG2, BX2, HB2⟩
     case measure => simp [intOf]; omega
   ·have hlt' : ¬ (k : Int) < (t.rs.length : Int) := by omega
    have HN : Hid (txnB t = stateB t) := by
     show _ = _
     unfold txnB
     have e1 : decide (1 ≤ t.id) = true := by simp; omega
     have e2 : decide (t.id ≤ 9999) = true := by simp; omega
     have e3 : decide (0 ≤ t.snap) = true := by simp; omega
     have e4 : decide (t.snap ≤ 9999) = true := by simp; omega
     rw [e1, e2, e3, e4, goodR_all HG.out (by omega) h8, HV.out]; simp
    have x1 := BX.out.c1
    have x2 := BX.out.c2
    have x3 := BX.out.c3
    have x6 := BX.out.c6
    have x7 := BX.out.c7
    have ew : IntKind.i64.wrap (t.snap + 1) = t.snap + 1 := by rw [IntKind.wrap_i64]; omega
    rcases (show t.st = 1 ∨ t.st = 2 ∨ t.st = 3 by omega) with s | s | s
    ·have s1 : (t.st == 1) = true := by simp; omega
     have s1n : (t.st != 1) = false := by simp; omega
     have s2 : (t.st == 2) = false := by simp; omega
     have s2n : (t.st != 2) = true := by simp; omega
     have s3 : (t.st == 3) = false := by simp; omega
     have s3n : (t.st != 3) = true := by simp; omega
     by_cases d0 : t.cs = 0
     ·have d0b : (t.cs == 0) = true := by simp; omega
      have d0bn : (t.cs != 0) = false := by simp; omega
      cases he : t.nm.toList.isEmpty
      ·have he' : (!t.nm.toList.isEmpty) = true := by rw [he]; rfl
       have HE : Hid (stateB t = false) := by show _ = _; unfold stateB; simp [s, d0, he]
       clear s d0 he
       go_wp2
       go_ret
       exact ⟨ret_bool (by rw [HN.out, HE.out]), HB.out⟩
      ·have he' : (!t.nm.toList.isEmpty) = false := by rw [he]; rfl
       cases ho : t.out
       ·have HE : Hid (stateB t = true) := by show _ = _; unfold stateB; simp [s, d0, he, ho]
        clear s d0 he
        go_wp2
        go_ret
        exact ⟨ret_bool (by rw [HN.out, HE.out]), HB.out⟩
       ·have HE : Hid (stateB t = false) := by show _ = _; unfold stateB; simp [s, d0, he, ho]
        clear s d0 he
        go_wp2
        go_ret
        exact ⟨ret_bool (by rw [HN.out, HE.out]), HB.out⟩
     ·have d0b : (t.cs == 0) = false := by simp; omega
      have d0bn : (t.cs != 0) = true := by simp; omega
      have HE : Hid (stateB t = false) := by show _ = _; unfold stateB; simp [s, d0]
      clear s d0
      go_wp2
      go_ret
      exact ⟨ret_bool (by rw [HN.out, HE.out]), HB.out⟩
    ·have s1 : (t.st == 1) = false := by simp; omega
     have s1n : (t.st != 1) = true := by simp; omega
     have s2 : (t.st == 2) = true := by simp; omega
     have s2n : (t.st != 2) = false := by simp; omega
     have s3 : (t.st == 3) = false := by simp; omega
     have s3n : (t.st != 3) = true := by simp; omega
     by_cases d0 : t.cs = 0
     ·have d0b : (t.cs == 0) = true := by simp; omega
      have d0bn : (t.cs != 0) = false := by simp; omega
      cases hk : keyB t.nm
      ·have K1 : Hid (∀ w, Calls Tryz.prog 60 #[.string t.nm] w fun e w' => e = .returned (.bool false) ∧ w' = w) := fun w => hk ▸ skey t.nm hnm w
       have HE : Hid (stateB t = false) := by show _ = _; unfold stateB; simp [s, d0, hk]
       clear s d0 hk
       go_wp2_with (go_at_call 60; refine (K1.out _).mono ?_; rintro e w2 ⟨rfl, rfl⟩)
       go_ret
       exact ⟨ret_bool (by rw [HN.out, HE.out]), HB.out⟩
      ·have K1 : Hid (∀ w, Calls Tryz.prog 60 #[.string t.nm] w fun e w' => e = .returned (.bool true) ∧ w' = w) := fun w => hk ▸ skey t.nm hnm w
       have HE : Hid (stateB t = true) := by show _ = _; unfold stateB; simp [s, d0, hk]
       clear s d0 hk
       go_wp2_with (go_at_call 60; refine (K1.out _).mono ?_; rintro e w2 ⟨rfl, rfl⟩)
       go_ret
       exact ⟨ret_bool (by rw [HN.out, HE.out]), HB.out⟩
     ·have d0b : (t.cs == 0) = false := by simp; omega
      have d0bn : (t.cs != 0) = true := by simp; omega
      have HE : Hid (stateB t = false) := by show _ = _; unfold stateB; simp [s, d0]
      clear s d0
      go_wp2
      go_ret
      exact ⟨ret_bool (by rw [HN.out, HE.out]), HB.out⟩
    ·have s1 : (t.st == 1) = false := by simp; omega
     have s1n : (t.st != 1) = true := by simp; omega
     have s2 : (t.st == 2) = false := by simp; omega
     have s2n : (t.st != 2) = true := by simp; omega
     have s3 : (t.st == 3) = true := by simp; omega
     have s3n : (t.st != 3) = false := by simp; omega
     by_cases dd : t.snap + 1 ≤ t.cs ∧ t.cs ≤ 9999
     rotate_left
     ·have HD : Hid (decide (t.snap + 1 ≤ t.cs ∧ t.cs ≤ 9999) = false) := by show _ = _; simp; omega
      have HE : Hid (stateB t = false) := by
       show _ = _
       cases e : stateB t with
       | false => rfl
       | true =>
        exfalso
        unfold stateB at e
        simp only [Bool.and_eq_true, Bool.or_eq_true, decide_eq_true_eq] at e
        omega
      clear s dd
      go_wp2_with (go_at_call 59; refine (in57 t.cs (t.snap + 1) 9999 false HD.out _).mono ?_; rintro e w2 ⟨rfl, rfl⟩)
      go_ret
      exact ⟨ret_bool (by rw [HN.out, HE.out]), HB.out⟩
     ·have HD : Hid (decide (t.snap + 1 ≤ t.cs ∧ t.cs ≤ 9999) = true) := by show _ = _; simp; omega
      have dd1 : t.snap < t.cs := by omega
      have dd2 : t.cs ≤ 9999 := by omega
      cases he : t.nm.toList.isEmpty
      ·have he' : (!t.nm.toList.isEmpty) = true := by rw [he]; rfl
       have HE : Hid (stateB t = false) := by show _ = _; unfold stateB; simp [s, dd1, dd2, he]
       clear s dd dd1 dd2 he
       go_wp2_with (go_at_call 59; refine (in57 t.cs (t.snap + 1) 9999 true HD.out _).mono ?_; rintro e w2 ⟨rfl, rfl⟩)
       go_ret
       exact ⟨ret_bool (by rw [HN.out, HE.out]), HB.out⟩
      ·have he' : (!t.nm.toList.isEmpty) = false := by rw [he]; rfl
       have HE : Hid (stateB t = true) := by show _ = _; unfold stateB; simp [s, dd1, dd2, he]
       clear s dd dd1 dd2 he
       go_wp2_with (go_at_call 59; refine (in57 t.cs (t.snap + 1) 9999 true HD.out _).mono ?_; rintro e w2 ⟨rfl, rfl⟩)
       go_ret
       exact ⟨ret_bool (by rw [HN.out, HE.out]), HB.out⟩
end Go.Proofs.YtnljmdodpffmoaaGreat

namespace Go.Proofs.YtnljmdodpffmoaaGreat
open Go.RowKit
open KM
open VM
attribute [local go_sem ↓] Go.wp_at_zero Go.wp_at_succ

structure Lies {α : Type} (E : Enc α) (e : TypeId) (w : World) (lo hi : Nat) (v : Value) (xs : List α) : Prop where
 own : GOwn E e w lo v xs
 up : ∀ g, v.ownBlock = some g → g < hi
section
variable {α : Type} {E : Enc α} {e : TypeId}
theorem Lies.of {w : World} {lo : Nat} {v : Value} {xs : List α} (h : GOwn E e w lo v xs) : Lies E e w lo w.heap.size v xs := ⟨h, fun g hg => (World.ownsRow.lt h g hg).2⟩
theorem Lies.below {w w' : World} {lo hi : Nat} {v : Value} {xs : List α} (h : Lies E e w lo hi v xs) (hb : Below w.heap.size w w') : Lies E e w' lo hi v xs := ⟨h.own.below hb, h.up⟩
theorem Lies.lo {w : World} {lo hi : Nat} {v : Value} {xs : List α} (h : Lies E e w lo hi v xs) : ∀ g, v.ownBlock = some g → lo ≤ g ∧ g < hi := fun g hg => ⟨(World.ownsRow.lt h.own g hg).1, h.up g hg⟩
end
theorem grown_low {w w' : World} {row : Option Nat} {base : Nat} (h : w.grownBy w' row) (hr : ∀ g, row = some g → base ≤ g) (hb : base ≤ w.heap.size) : Below base w w' :=
 ⟨h.os, h.tape, h.output, h.size, fun j hj => h.block j (by omega) (fun e => by have := hr j e.symm; omega)⟩
theorem bx_marked {w w' : World} {b : Nat} {cs : List Value} {row : Option Nat} (h : Bx w b cs) (hg : w.grownBy w' row) (hr : row ≠ some b) : Bx w' b cs := by
 have hb := hg.block b h.lt (fun e => hr e.symm)
 refine ⟨Nat.lt_of_lt_of_le h.lt hg.size, fun j hj => (World.cell?_of_block (w := w) (a := ⟨b, j, none⟩) hb).trans (h.at' j hj), fun j => ?_⟩
 have := h.fz j
 unfold World.frozen? at this ⊢
 simp only at this ⊢
 rw [hb]; exact this
end Go.Proofs.YtnljmdodpffmoaaGreat

namespace Go.Proofs.YtnljmdodpffmoaaGreat
open Go.RowKit
open KM
attribute [local go_sem ↓] Go.wp_at_zero Go.wp_at_succ

theorem Lies.set {α : Type} {E : Enc α} {e : TypeId} {w : World} {lo hi : Nat} {v : Value} {xs : List α} (h : Lies E e w lo hi v xs) {a : Addr} (ha : a.block < lo) (u : Value) : Lies E e (w.setCell a u) lo hi v xs := ⟨h.own.set ha u, h.up⟩
theorem Lies.mono {α : Type} {E : Enc α} {e : TypeId} {w : World} {lo lo' hi hi' : Nat} {v : Value} {xs : List α} (h : Lies E e w lo hi v xs) (h1 : lo' ≤ lo) (h2 : hi ≤ hi') : Lies E e w lo' hi' v xs := ⟨h.own.mono h1, fun g hg => Nat.lt_of_lt_of_le (h.up g hg) h2⟩
structure TLie (w : World) (lo hi : Nat) (t : Tx) (ra : Option Addr) (rc : Nat) (wa : Option Addr) (wc : Nat) : Prop where
 ex : ∃ m, lo ≤ m ∧ m ≤ hi ∧ Lies encR 36 w lo m (.slice ra t.rs.length rc) t.rs ∧ Lies encW 42 w m hi (.slice wa t.ws.length wc) t.ws
theorem TLie.row {w : World} {lo hi : Nat} {t : Tx} {ra wa : Option Addr} {rc wc : Nat} (h : TLie w lo hi t ra rc wa wc) : TRow w t ra wa := by
 obtain ⟨m, _, _, h1, h2⟩ := h.ex
 exact ⟨h1.own.grow, h2.own.grow⟩
theorem TLie.below {w w' : World} {lo hi : Nat} {t : Tx} {ra wa : Option Addr} {rc wc : Nat} (h : TLie w lo hi t ra rc wa wc) (hb : Below w.heap.size w w') : TLie w' lo hi t ra rc wa wc := by
 obtain ⟨m, a, b, h1, h2⟩ := h.ex
 exact ⟨m, a, b, h1.below hb, h2.below hb⟩
theorem TLie.set {w : World} {lo hi : Nat} {t : Tx} {ra wa : Option Addr} {rc wc : Nat} (h : TLie w lo hi t ra rc wa wc) {a : Addr} (ha : a.block < lo) (u : Value) : TLie (w.setCell a u) lo hi t ra rc wa wc := by
 obtain ⟨m, p, q, h1, h2⟩ := h.ex
 exact ⟨m, p, q, h1.set ha u, h2.set (Nat.lt_of_lt_of_le ha p) u⟩
theorem TLie.mono {w : World} {lo lo' hi hi' : Nat} {t : Tx} {ra wa : Option Addr} {rc wc : Nat} (h : TLie w lo hi t ra rc wa wc) (h1 : lo' ≤ lo) (h2 : hi ≤ hi') : TLie w lo' hi' t ra rc wa wc := by
 obtain ⟨m, p, q, k1, k2⟩ := h.ex
 exact ⟨m, Nat.le_trans h1 p, Nat.le_trans q h2, k1.mono h1 (Nat.le_refl _), k2.mono (Nat.le_refl _) h2⟩
end Go.Proofs.YtnljmdodpffmoaaGreat
