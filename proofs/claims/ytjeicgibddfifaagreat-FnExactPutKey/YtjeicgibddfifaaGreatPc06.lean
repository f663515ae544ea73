/- What TxnOk returns, on both sides. -/
import Derived.Test.YtjeicgibddfifaaGreatPc02
import Derived.Test.YtjeicgibddfifaaGreatPc05
import Derived.Test.YtjeicgibddfifaaGreatPc03
import Derived.Sort.OwnSorted
import Derived.Lib.RowBridge
namespace Go.Proofs.YtjeicgibddfifaaGreat
open Go.RowKit
open KM
attribute [local go_sem ↓] Go.wp_at_zero Go.wp_at_succ

theorem hide0 {p : Prop} (h : p) : Hid p := h
section
variable {w : World} {b : Nat}
theorem Bx.c5 {x0 x1 x2 x3 x4 x5 : Value} {r : List Value} (h : Bx w b (x0 :: x1 :: x2 :: x3 :: x4 :: x5 :: r)) : w.cell? ⟨b, 5, none⟩ = some x5 := h.at' 5 (by simp)
theorem Bx.c6 {x0 x1 x2 x3 x4 x5 x6 : Value} {r : List Value} (h : Bx w b (x0 :: x1 :: x2 :: x3 :: x4 :: x5 :: x6 :: r)) : w.cell? ⟨b, 6, none⟩ = some x6 := h.at' 6 (by simp)
theorem Bx.c7 {x0 x1 x2 x3 x4 x5 x6 x7 : Value} {r : List Value} (h : Bx w b (x0 :: x1 :: x2 :: x3 :: x4 :: x5 :: x6 :: x7 :: r)) : w.cell? ⟨b, 7, none⟩ = some x7 := h.at' 7 (by simp)
end
set_option maxRecDepth 100000 in
set_option maxHeartbeats 2000000 in
theorem itxn (t : Tx) (ra wa : Option Addr) (rc wc : Nat) (hr : t.rs.length ≤ 100000000) (hw : t.ws.length ≤ 100000000) (w : World) (hp : TRow w t ra wa) : Calls Tryz.prog 89 #[.agg #[.int .i64 t.id, .int .i64 t.st, .int .i64 t.snap, .int .i64 t.cs, .slice ra t.rs.length rc, .slice wa t.ws.length wc, .bool t.out, .string t.nm]] w fun e w' => e = .returned (.bool (txnB t)) ∧ Below w.heap.size w w' := by
 have HP : Hid (TRow w t ra wa) := hp
 clear hp
 have BX0 : Hid (Bx (w.alloc (.cells #[.int .i64 t.id, .int .i64 t.st, .int .i64 t.snap, .int .i64 t.cs, .slice ra t.rs.length rc, .slice wa t.ws.length wc, .bool t.out, .string t.nm] 56)) w.heap.size [.int .i64 t.id, .int .i64 t.st, .int .i64 t.snap, .int .i64 t.cs, .slice ra t.rs.length rc, .slice wa t.ws.length wc, .bool t.out, .string t.nm]) := Bx.new w [.int .i64 t.id, .int .i64 t.st, .int .i64 t.snap, .int .i64 t.cs, .slice ra t.rs.length rc, .slice wa t.ws.length wc, .bool t.out, .string t.nm] 56
 have HB0 : Hid (Below w.heap.size w (w.alloc (.cells #[.int .i64 t.id, .int .i64 t.st, .int .i64 t.snap, .int .i64 t.cs, .slice ra t.rs.length rc, .slice wa t.ws.length wc, .bool t.out, .string t.nm] 56))) := (belowRefl w).alloc (Nat.le_refl _) _
 by_cases c1 : t.id < 1
 ·have HN : Hid (txnB t = false) := by show _ = _; unfold txnB; have e : decide (1 ≤ t.id) = false := decide_eq_false (by omega); simp [e]
  go_enter Tryz.func89, Tryz.ntmps89
  go_wp2
  go_ret
  exact ⟨ret_bool HN.out.symm, HB0.out⟩
 by_cases c2 : 9999 < t.id
 ·have HN : Hid (txnB t = false) := by show _ = _; unfold txnB; have e : decide (t.id ≤ 9999) = false := decide_eq_false (by omega); simp [e]
  go_enter Tryz.func89, Tryz.ntmps89
  go_wp2
  go_ret
  exact ⟨ret_bool HN.out.symm, HB0.out⟩
 by_cases c3 : t.snap < 0
 ·have HN : Hid (txnB t = false) := by show _ = _; unfold txnB; have e : decide (0 ≤ t.snap) = false := decide_eq_false (by omega); simp [e]
  go_enter Tryz.func89, Tryz.ntmps89
  go_wp2
  go_ret
  exact ⟨ret_bool HN.out.symm, HB0.out⟩
 by_cases c4 : 9999 < t.snap
 ·have HN : Hid (txnB t = false) := by show _ = _; unfold txnB; have e : decide (t.snap ≤ 9999) = false := decide_eq_false (by omega); simp [e]
  go_enter Tryz.func89, Tryz.ntmps89
  go_wp2
  go_ret
  exact ⟨ret_bool HN.out.symm, HB0.out⟩
 have E : Hid (txnB t = (stateB t && readsB t.rs && writesB t.ws)) := by
  show _ = _
  unfold txnB
  have e1 : decide (1 ≤ t.id) = true := by simp; omega
  have e2 : decide (t.id ≤ 9999) = true := by simp; omega
  have e3 : decide (0 ≤ t.snap) = true := by simp; omega
  have e4 : decide (t.snap ≤ 9999) = true := by simp; omega
  rw [e1, e2, e3, e4]; simp
 cases hs : stateB t
 ·have C1 : Hid (∀ w, Calls Tryz.prog 125 #[.agg #[.int .i64 t.id, .int .i64 t.st, .int .i64 t.snap, .int .i64 t.cs, .slice ra t.rs.length rc, .slice wa t.ws.length wc, .bool t.out, .string t.nm]] w fun e w' => e = .returned (.bool false) ∧ Below w.heap.size w w') := fun w => hs ▸ istate t ra wa rc wc w
  go_enter Tryz.func89, Tryz.ntmps89
  go_wp2_with fail
  refine (C1.out _).mono ?_
  rintro e w1 ⟨rfl, hb1⟩
  have HB1 : Hid (Below w.heap.size w w1) := HB0.out.trans (hb1.mono HB0.out.size)
  have BX1 : Hid (Bx w1 w.heap.size [.int .i64 t.id, .int .i64 t.st, .int .i64 t.snap, .int .i64 t.cs, .slice ra t.rs.length rc, .slice wa t.ws.length wc, .bool t.out, .string t.nm]) := BX0.out.below hb1
  clear hb1
  have HN : Hid (txnB t = false) := by show _ = _; rw [E.out, hs]; rfl
  clear hs E
  go_wp2
  go_ret
  exact ⟨ret_bool HN.out.symm, HB1.out⟩
 have C1 : Hid (∀ w, Calls Tryz.prog 125 #[.agg #[.int .i64 t.id, .int .i64 t.st, .int .i64 t.snap, .int .i64 t.cs, .slice ra t.rs.length rc, .slice wa t.ws.length wc, .bool t.out, .string t.nm]] w fun e w' => e = .returned (.bool true) ∧ Below w.heap.size w w') := fun w => hs ▸ istate t ra wa rc wc w
 cases hd : readsB t.rs
 ·have C2 : Hid (∀ w, GRow encR w ra t.rs → Calls Tryz.prog 126 #[.slice ra t.rs.length rc] w fun e w' => e = .returned (.bool false) ∧ Below w.heap.size w w') := fun w h => hd ▸ ireads t.rs ra rc hr w h
  have HN : Hid (txnB t = false) := by show _ = _; rw [E.out, hs, hd]; rfl
  clear hs hd E
  go_enter Tryz.func89, Tryz.ntmps89
  go_wp2_with fail
  refine (C1.out _).mono ?_
  rintro e w1 ⟨rfl, hb1⟩
  have HB1 : Hid (Below w.heap.size w w1) := HB0.out.trans (hb1.mono HB0.out.size)
  have BX1 : Hid (Bx w1 w.heap.size [.int .i64 t.id, .int .i64 t.st, .int .i64 t.snap, .int .i64 t.cs, .slice ra t.rs.length rc, .slice wa t.ws.length wc, .bool t.out, .string t.nm]) := BX0.out.below hb1
  clear hb1
  have x4 := BX1.out.c4
  go_wp2_with fail
  refine (C2.out _ (HP.out.r.below HB1.out)).mono ?_
  rintro e w2 ⟨rfl, hb2⟩
  have HB2 : Hid (Below w.heap.size w w2) := HB1.out.trans (hb2.mono HB1.out.size)
  have BX2 : Hid (Bx w2 w.heap.size [.int .i64 t.id, .int .i64 t.st, .int .i64 t.snap, .int .i64 t.cs, .slice ra t.rs.length rc, .slice wa t.ws.length wc, .bool t.out, .string t.nm]) := BX1.out.below hb2
  clear hb2 x4
  go_wp2
  go_ret
  exact ⟨ret_bool HN.out.symm, HB2.out⟩
 ·have C2 : Hid (∀ w, GRow encR w ra t.rs → Calls Tryz.prog 126 #[.slice ra t.rs.length rc] w fun e w' => e = .returned (.bool true) ∧ Below w.heap.size w w') := fun w h => hd ▸ ireads t.rs ra rc hr w h
  have HN : Hid (txnB t = writesB t.ws) := by show _ = _; rw [E.out, hs, hd]; rfl
  clear hs hd E
  go_enter Tryz.func89, Tryz.ntmps89
  go_wp2_with fail
  refine (C1.out _).mono ?_
  rintro e w1 ⟨rfl, hb1⟩
  have HB1 : Hid (Below w.heap.size w w1) := HB0.out.trans (hb1.mono HB0.out.size)
  have BX1 : Hid (Bx w1 w.heap.size [.int .i64 t.id, .int .i64 t.st, .int .i64 t.snap, .int .i64 t.cs, .slice ra t.rs.length rc, .slice wa t.ws.length wc, .bool t.out, .string t.nm]) := BX0.out.below hb1
  clear hb1
  have x4 := BX1.out.c4
  go_wp2_with fail
  refine (C2.out _ (HP.out.r.below HB1.out)).mono ?_
  rintro e w2 ⟨rfl, hb2⟩
  have HB2 : Hid (Below w.heap.size w w2) := HB1.out.trans (hb2.mono HB1.out.size)
  have BX2 : Hid (Bx w2 w.heap.size [.int .i64 t.id, .int .i64 t.st, .int .i64 t.snap, .int .i64 t.cs, .slice ra t.rs.length rc, .slice wa t.ws.length wc, .bool t.out, .string t.nm]) := BX1.out.below hb2
  clear hb2 x4
  have x5 := BX2.out.c5
  go_wp2_with fail
  refine (iwrites t.ws wa wc hw _ (HP.out.w.below HB2.out)).mono ?_
  rintro e w3 ⟨rfl, hb3⟩
  have HB3 : Hid (Below w.heap.size w w3) := HB2.out.trans (hb3.mono HB2.out.size)
  clear hb3 x5
  go_wp2
  go_ret
  exact ⟨ret_bool HN.out.symm, HB3.out⟩

set_option maxRecDepth 100000 in
set_option maxHeartbeats 2000000 in
theorem stxn (t : Tx) (ra wa : Option Addr) (rc wc : Nat) (hf : TFit t) (w : World) (hp : TRow w t ra wa) : Calls Tryz.prog 22 #[.agg #[.int .i64 t.id, .int .i64 t.st, .int .i64 t.snap, .int .i64 t.cs, .slice ra t.rs.length rc, .slice wa t.ws.length wc, .bool t.out, .string t.nm]] w fun e w' => e = .returned (.bool (txnB t)) ∧ Below w.heap.size w w' := by
 obtain ⟨hr, hrf, hw, hwf, hnm⟩ := hf
 have HRF : Hid (RFit t.rs) := hrf
 have HWF : Hid (WFit t.ws) := hwf
 clear hrf hwf
 have HP : Hid (TRow w t ra wa) := hp
 clear hp
 have BX0 : Hid (Bx (w.alloc (.cells #[.int .i64 t.id, .int .i64 t.st, .int .i64 t.snap, .int .i64 t.cs, .slice ra t.rs.length rc, .slice wa t.ws.length wc, .bool t.out, .string t.nm] 56)) w.heap.size [.int .i64 t.id, .int .i64 t.st, .int .i64 t.snap, .int .i64 t.cs, .slice ra t.rs.length rc, .slice wa t.ws.length wc, .bool t.out, .string t.nm]) := Bx.new w [.int .i64 t.id, .int .i64 t.st, .int .i64 t.snap, .int .i64 t.cs, .slice ra t.rs.length rc, .slice wa t.ws.length wc, .bool t.out, .string t.nm] 56
 have HB0 : Hid (Below w.heap.size w (w.alloc (.cells #[.int .i64 t.id, .int .i64 t.st, .int .i64 t.snap, .int .i64 t.cs, .slice ra t.rs.length rc, .slice wa t.ws.length wc, .bool t.out, .string t.nm] 56))) := (belowRefl w).alloc (Nat.le_refl _) _
 by_cases c0 : 1 ≤ t.id ∧ t.id ≤ 9999
 rotate_left
 ·have HN : Hid (txnB t = false) := by
   show _ = _
   cases e : txnB t with
   | false => rfl
   | true =>
    exfalso
    unfold txnB stateB at e
    simp only [Bool.and_eq_true, Bool.or_eq_true, decide_eq_true_eq] at e
    omega
  go_enter Tryz.func22, Tryz.ntmps22
  go_wp2_with fail
  refine (in57 t.id 1 9999 false (by simp; omega) _).mono ?_
  rintro e w2 ⟨rfl, rfl⟩
  go_wp2
  go_ret
  exact ⟨ret_bool HN.out.symm, HB0.out⟩
 by_cases c1 : 1 ≤ t.st ∧ t.st ≤ 3
 rotate_left
 ·have HN : Hid (txnB t = false) := by
   show _ = _
   cases e : txnB t with
   | false => rfl
   | true =>
    exfalso
    unfold txnB stateB at e
    simp only [Bool.and_eq_true, Bool.or_eq_true, decide_eq_true_eq] at e
    omega
  go_enter Tryz.func22, Tryz.ntmps22
  go_wp2_with fail
  refine (in57 t.id 1 9999 true (by simp; exact c0) _).mono ?_
  rintro e w2 ⟨rfl, rfl⟩
  go_wp2_with fail
  refine (in57 t.st 1 3 false (by simp; omega) _).mono ?_
  rintro e w2 ⟨rfl, rfl⟩
  go_wp2
  go_ret
  exact ⟨ret_bool HN.out.symm, HB0.out⟩
 by_cases c2 : 0 ≤ t.snap ∧ t.snap ≤ 9999
 rotate_left
 ·have HN : Hid (txnB t = false) := by
   show _ = _
   cases e : txnB t with
   | false => rfl
   | true =>
    exfalso
    unfold txnB stateB at e
    simp only [Bool.and_eq_true, Bool.or_eq_true, decide_eq_true_eq] at e
    omega
  go_enter Tryz.func22, Tryz.ntmps22
  go_wp2_with fail
  refine (in57 t.id 1 9999 true (by simp; exact c0) _).mono ?_
  rintro e w2 ⟨rfl, rfl⟩
  go_wp2_with fail
  refine (in57 t.st 1 3 true (by simp; exact c1) _).mono ?_
  rintro e w2 ⟨rfl, rfl⟩
  go_wp2_with fail
  refine (in57 t.snap 0 9999 false (by simp; omega) _).mono ?_
  rintro e w2 ⟨rfl, rfl⟩
  go_wp2
  go_ret
  exact ⟨ret_bool HN.out.symm, HB0.out⟩
 by_cases h8 : t.rs.length ≤ 8
 rotate_left
 ·have h8' : (8 : Int) < (t.rs.length : Int) := by omega
  have HN : Hid (txnB t = false) := by show _ = _; unfold txnB; rw [goodR_len h8]; simp
  go_enter Tryz.func22, Tryz.ntmps22
  go_wp2_with fail
  refine (in57 t.id 1 9999 true (by simp; exact c0) _).mono ?_
  rintro e w2 ⟨rfl, rfl⟩
  go_wp2_with fail
  refine (in57 t.st 1 3 true (by simp; exact c1) _).mono ?_
  rintro e w2 ⟨rfl, rfl⟩
  go_wp2_with fail
  refine (in57 t.snap 0 9999 true (by simp; exact c2) _).mono ?_
  rintro e w2 ⟨rfl, rfl⟩
  go_wp2
  go_ret
  exact ⟨ret_bool HN.out.symm, HB0.out⟩
 have h8' : ¬ (8 : Int) < (t.rs.length : Int) := by omega
 cases hv : writesB t.ws
 ·have C1 : Hid (∀ w, GRow encW w wa t.ws → Calls Tryz.prog 48 #[.slice wa t.ws.length wc] w fun e w' => e = .returned (.bool false) ∧ Below w.heap.size w w') := fun w h => hv ▸ swrites t.ws wa wc (by omega) HWF.out w h
  have HN : Hid (txnB t = false) := by show _ = _; unfold txnB; rw [hv]; simp
  clear hv
  go_enter Tryz.func22, Tryz.ntmps22
  go_wp2_with fail
  refine (in57 t.id 1 9999 true (by simp; exact c0) _).mono ?_
  rintro e w2 ⟨rfl, rfl⟩
  go_wp2_with fail
  refine (in57 t.st 1 3 true (by simp; exact c1) _).mono ?_
  rintro e w2 ⟨rfl, rfl⟩
  go_wp2_with fail
  refine (in57 t.snap 0 9999 true (by simp; exact c2) _).mono ?_
  rintro e w2 ⟨rfl, rfl⟩
  go_wp2_with fail
  refine (C1.out _ (HP.out.w.below HB0.out)).mono ?_
  rintro e w1 ⟨rfl, hb1⟩
  have HB1 : Hid (Below w.heap.size w w1) := HB0.out.trans (hb1.mono HB0.out.size)
  have BX1 : Hid (Bx w1 w.heap.size [.int .i64 t.id, .int .i64 t.st, .int .i64 t.snap, .int .i64 t.cs, .slice ra t.rs.length rc, .slice wa t.ws.length wc, .bool t.out, .string t.nm]) := BX0.out.below hb1
  clear hb1
  go_wp2
  go_ret
  exact ⟨ret_bool HN.out.symm, HB1.out⟩
 ·have C1 : Hid (∀ w, GRow encW w wa t.ws → Calls Tryz.prog 48 #[.slice wa t.ws.length wc] w fun e w' => e = .returned (.bool true) ∧ Below w.heap.size w w') := fun w h => hv ▸ swrites t.ws wa wc (by omega) HWF.out w h
  have HV : Hid (writesB t.ws = true) := hv
  clear hv
  go_enter Tryz.func22, Tryz.ntmps22
  go_wp2_with fail
  refine (in57 t.id 1 9999 true (by simp; exact c0) _).mono ?_
  rintro e w2 ⟨rfl, rfl⟩
  go_wp2_with fail
  refine (in57 t.st 1 3 true (by simp; exact c1) _).mono ?_
  rintro e w2 ⟨rfl, rfl⟩
  go_wp2_with fail
  refine (in57 t.snap 0 9999 true (by simp; exact c2) _).mono ?_
  rintro e w2 ⟨rfl, rfl⟩
  go_wp2_with fail
  refine (C1.out _ (HP.out.w.below HB0.out)).mono ?_
  rintro e w1 ⟨rfl, hb1⟩
  have HB1 : Hid (Below w.heap.size w w1) := HB0.out.trans (hb1.mono HB0.out.size)
  have BX1 : Hid (Bx w1 w.heap.size [.int .i64 t.id, .int .i64 t.st, .int .i64 t.snap, .int .i64 t.cs, .slice ra t.rs.length rc, .slice wa t.ws.length wc, .bool t.out, .string t.nm]) := BX0.out.below hb1
  clear hb1
  go_wp2
  go_loopw [3] (fun v wr => ∃ k : Nat, k ≤ t.rs.length ∧ v = .int .i64 k ∧ Hid (GoodR t.rs k) ∧ Hid (Bx wr w.heap.size [.int .i64 t.id, .int .i64 t.st, .int .i64 t.snap, .int .i64 t.cs, .slice ra t.rs.length rc, .slice wa t.ws.length wc, .bool t.out, .string t.nm]) ∧ Hid (Below w.heap.size w wr)) (fun v _ => t.rs.length - (intOf v).toNat)
  case atStart => exact ⟨0, Nat.zero_le _, rfl, fun j _ h => by omega, BX1, HB1⟩
  case round =>
   obtain ⟨k, hk, rfl, HG, BX, HB⟩ := hrel
   have x4 := BX.out.c4
   by_cases hlt : k < t.rs.length
   ·have hlt' : (k : Int) < (t.rs.length : Int) := by omega
    have h0 : (0 : Int) ≤ (k : Int) := by omega
    obtain ⟨bb, off, rfl, hl, q⟩ := (HP.out.r.below HB.out) (by omega)
    have r0 := ((rat q) k hlt).1
    have r1 := ((rat q) k hlt).2
    clear q
    have HZ : Hid (t.rs[k].1.size ≤ 1048576 ∧ t.rs[k].2.size ≤ 1048576) := HRF.out _ (List.getElem_mem hlt)
    cases hv : rangeB t.rs[k]
    ·have K1 : Hid (∀ w, Calls Tryz.prog 49 #[.agg #[.string t.rs[k].1, .string t.rs[k].2]] w fun e w' => e = .returned (.bool false) ∧ Below w.heap.size w w') := fun w => hv ▸ srange t.rs[k].1 t.rs[k].2 HZ.out.1 HZ.out.2 w
     have HN : Hid (txnB t = false) := by show _ = _; unfold txnB; rw [goodR_no k hlt hv]; simp
     clear hv
     go_wp2_with fail
     refine (K1.out _).mono ?_
     rintro e w2 ⟨rfl, hb2⟩
     have HB2 : Hid (Below w.heap.size w w2) := HB.out.trans (hb2.mono HB.out.size)
     clear hb2
     go_wp2
     go_ret
     exact ⟨ret_bool HN.out.symm, HB2.out⟩
    ·have K1 : Hid (∀ w, Calls Tryz.prog 49 #[.agg #[.string t.rs[k].1, .string t.rs[k].2]] w fun e w' => e = .returned (.bool true) ∧ Below w.heap.size w w') := fun w => hv ▸ srange t.rs[k].1 t.rs[k].2 HZ.out.1 HZ.out.2 w
     have HG2 : Hid (GoodR t.rs (k + 1)) := goodR_more HG.out hlt hv
     clear hv
     go_wp2_with fail
     refine (K1.out _).mono ?_
     rintro e w2 ⟨rfl, hb2⟩
     have HB2 : Hid (Below w.heap.size w w2) := HB.out.trans (hb2.mono HB.out.size)
     have BX2 := hide0 (BX.out.below hb2)
     clear hb2
     go_wp2
     go_roundw
     case rel => exact ⟨k + 1, by omega, by go_num, HG2, BX2, HB2⟩
     case measure => simp [intOf]; omega
   ·have hlt' : ¬ (k : Int) < (t.rs.length : Int) := by omega
    have HN : Hid (txnB t = stateB t) := by
     show _ = _
     unfold txnB
     have e1 : decide (1 ≤ t.id) = true := by simp; omega
     have e2 : decide (t.id ≤ 9999) = true := by simp; omega
     have e3 : decide (0 ≤ t.snap) = true := by simp; omega
     have e4 : decide (t.snap ≤ 9999) = true := by simp; omega
     rw [e1, e2, e3, e4, goodR_all HG.out (by omega) h8, HV.out]; simp
    have x1 := BX.out.c1
    have x2 := BX.out.c2
    have x3 := BX.out.c3
    have x6 := BX.out.c6
    have x7 := BX.out.c7
    have ew : IntKind.i64.wrap (t.snap + 1) = t.snap + 1 := by rw [IntKind.wrap_i64]; omega
    rcases (show t.st = 1 ∨ t.st = 2 ∨ t.st = 3 by omega) with s | s | s
    ·have s1 : (t.st == 1) = true := by simp; omega
     have s1n : (t.st != 1) = false := by simp; omega
     have s2 : (t.st == 2) = false := by simp; omega
     have s2n : (t.st != 2) = true := by simp; omega
     have s3 : (t.st == 3) = false := by simp; omega
     have s3n : (t.st != 3) = true := by simp; omega
     by_cases d0 : t.cs = 0
     ·have d0b : (t.cs == 0) = true := by simp; omega
      have d0bn : (t.cs != 0) = false := by simp; omega
      cases he : t.nm.toList.isEmpty
      ·have he' : (!t.nm.toList.isEmpty) = true := by rw [he]; rfl
       have HE : Hid (stateB t = false) := by show _ = _; unfold stateB; simp [s, d0, he]
       clear s d0 he
       go_wp2
       go_ret
       exact ⟨ret_bool (by rw [HN.out, HE.out]), HB.out⟩
      ·have he' : (!t.nm.toList.isEmpty) = false := by rw [he]; rfl
       cases ho : t.out
       ·have HE : Hid (stateB t = true) := by show _ = _; unfold stateB; simp [s, d0, he, ho]
        clear s d0 he
        go_wp2
        go_ret
        exact ⟨ret_bool (by rw [HN.out, HE.out]), HB.out⟩
       ·have HE : Hid (stateB t = false) := by show _ = _; unfold stateB; simp [s, d0, he, ho]
        clear s d0 he
        go_wp2
        go_ret
        exact ⟨ret_bool (by rw [HN.out, HE.out]), HB.out⟩
     ·have d0b : (t.cs == 0) = false := by simp; omega
      have d0bn : (t.cs != 0) = true := by simp; omega
      have HE : Hid (stateB t = false) := by show _ = _; unfold stateB; simp [s, d0]
      clear s d0
      go_wp2
      go_ret
      exact ⟨ret_bool (by rw [HN.out, HE.out]), HB.out⟩
    ·have s1 : (t.st == 1) = false := by simp; omega
     have s1n : (t.st != 1) = true := by simp; omega
     have s2 : (t.st == 2) = true := by simp; omega
     have s2n : (t.st != 2) = false := by simp; omega
     have s3 : (t.st == 3) = false := by simp; omega
     have s3n : (t.st != 3) = true := by simp; omega
     by_cases d0 : t.cs = 0
     ·have d0b : (t.cs == 0) = true := by simp; omega
      have d0bn : (t.cs != 0) = false := by simp; omega
      cases hk : keyB t.nm
      ·have K1 : Hid (∀ w, Calls Tryz.prog 50 #[.string t.nm] w fun e w' => e = .returned (.bool false) ∧ w' = w) := fun w => hk ▸ skey t.nm hnm w
       have HE : Hid (stateB t = false) := by show _ = _; unfold stateB; simp [s, d0, hk]
       clear s d0 hk
       go_wp2_with (go_at_call 50; refine (K1.out _).mono ?_; rintro e w2 ⟨rfl, rfl⟩)
       go_ret
       exact ⟨ret_bool (by rw [HN.out, HE.out]), HB.out⟩
      ·have K1 : Hid (∀ w, Calls Tryz.prog 50 #[.string t.nm] w fun e w' => e = .returned (.bool true) ∧ w' = w) := fun w => hk ▸ skey t.nm hnm w
       have HE : Hid (stateB t = true) := by show _ = _; unfold stateB; simp [s, d0, hk]
       clear s d0 hk
       go_wp2_with (go_at_call 50; refine (K1.out _).mono ?_; rintro e w2 ⟨rfl, rfl⟩)
       go_ret
       exact ⟨ret_bool (by rw [HN.out, HE.out]), HB.out⟩
     ·have d0b : (t.cs == 0) = false := by simp; omega
      have d0bn : (t.cs != 0) = true := by simp; omega
      have HE : Hid (stateB t = false) := by show _ = _; unfold stateB; simp [s, d0]
      clear s d0
      go_wp2
      go_ret
      exact ⟨ret_bool (by rw [HN.out, HE.out]), HB.out⟩
    ·have s1 : (t.st == 1) = false := by simp; omega
     have s1n : (t.st != 1) = true := by simp; omega
     have s2 : (t.st == 2) = false := by simp; omega
     have s2n : (t.st != 2) = true := by simp; omega
     have s3 : (t.st == 3) = true := by simp; omega
     have s3n : (t.st != 3) = false := by simp; omega
     by_cases dd : t.snap + 1 ≤ t.cs ∧ t.cs ≤ 9999
     rotate_left
     ·have HD : Hid (decide (t.snap + 1 ≤ t.cs ∧ t.cs ≤ 9999) = false) := by show _ = _; simp; omega
      have HE : Hid (stateB t = false) := by
       show _ = _
       cases e : stateB t with
       | false => rfl
       | true =>
        exfalso
        unfold stateB at e
        simp only [Bool.and_eq_true, Bool.or_eq_true, decide_eq_true_eq] at e
        omega
      clear s dd
      go_wp2_with (go_at_call 47; refine (in57 t.cs (t.snap + 1) 9999 false HD.out _).mono ?_; rintro e w2 ⟨rfl, rfl⟩)
      go_ret
      exact ⟨ret_bool (by rw [HN.out, HE.out]), HB.out⟩
     ·have HD : Hid (decide (t.snap + 1 ≤ t.cs ∧ t.cs ≤ 9999) = true) := by show _ = _; simp; omega
      have dd1 : t.snap < t.cs := by omega
      have dd2 : t.cs ≤ 9999 := by omega
      cases he : t.nm.toList.isEmpty
      ·have he' : (!t.nm.toList.isEmpty) = true := by rw [he]; rfl
       have HE : Hid (stateB t = false) := by show _ = _; unfold stateB; simp [s, dd1, dd2, he]
       clear s dd dd1 dd2 he
       go_wp2_with (go_at_call 47; refine (in57 t.cs (t.snap + 1) 9999 true HD.out _).mono ?_; rintro e w2 ⟨rfl, rfl⟩)
       go_ret
       exact ⟨ret_bool (by rw [HN.out, HE.out]), HB.out⟩
      ·have he' : (!t.nm.toList.isEmpty) = false := by rw [he]; rfl
       have HE : Hid (stateB t = true) := by show _ = _; unfold stateB; simp [s, dd1, dd2, he]
       clear s dd dd1 dd2 he
       go_wp2_with (go_at_call 47; refine (in57 t.cs (t.snap + 1) 9999 true HD.out _).mono ?_; rintro e w2 ⟨rfl, rfl⟩)
       go_ret
       exact ⟨ret_bool (by rw [HN.out, HE.out]), HB.out⟩
end Go.Proofs.YtjeicgibddfifaaGreat

namespace Go.Proofs.YtjeicgibddfifaaGreat
open Go.RowKit
open KM
open Go.Sort
attribute [local go_sem ↓] Go.wp_at_zero Go.wp_at_succ

theorem hide {p : Prop} (h : p) : Hid p := h
theorem heapAllocNew (w : World) (cs : List Value) (T : Nat) : (w.alloc (.cells cs.toArray T)).heap[w.heap.size]? = some (.cells cs.toArray T (0, 0)) := by unfold World.alloc; simp
theorem Bx.belowB {w w' : World} {b B : Nat} {cs : List Value} (h : Bx w b cs) (hb : Below B w w') (hlt : b < B) : Bx w' b cs :=
 ⟨Nat.lt_of_lt_of_le h.lt hb.size, fun j hj => (hb.cell (p := ⟨b, j, none⟩) hlt).trans (h.at' j hj), fun j => (hb.frozen (p := ⟨b, j, none⟩) hlt).trans (h.fz j)⟩
theorem GOwn.drewN {α : Type} {E : Enc α} {e : TypeId} {w : World} {base : Nat} {v : Value} {l : List α} (h : GOwn E e w base v l) (n : Nat) : GOwn E e (w.drewN n) base v l := h

theorem oneP {y : Rg} : ∀ u ∈ encR.enc y, u.oneCell' = true := by
 intro u hu
 simp only [encR, List.mem_cons, List.not_mem_nil, or_false] at hu
 rcases hu with rfl | rfl <;> rfl
theorem oneV {y : Vr} : ∀ u ∈ encV.enc y, u.oneCell' = true := by
 intro u hu
 simp only [encV, List.mem_cons, List.not_mem_nil, or_false] at hu
 rcases hu with rfl | rfl | rfl | rfl <;> rfl
theorem oneI {y : Int} : ∀ u ∈ encI.enc y, u.oneCell' = true := by
 intro u hu
 simp only [encI, List.mem_cons, List.not_mem_nil, or_false] at hu
 rw [hu]; rfl
theorem GRow.grown {α : Type} {E : Enc α} {w w' : World} {ao : Option Addr} {xs : List α} {row : Option Nat} (h : GRow E w ao xs) (hg : w.grownBy w' row) (hne : ∀ b off, ao = some ⟨b, off, none⟩ → row ≠ some b) : GRow E w' ao xs := fun h0 => by
 obtain ⟨b, off, rfl, hlt, hc⟩ := h h0
 have hb := hg.block b hlt (fun e => hne b off rfl e.symm)
 exact ⟨b, off, rfl, Nat.lt_of_lt_of_le hlt hg.size, fun j hj i hi => (World.cell?_of_block (w := w) (a := ⟨b, off + j * E.size + i, none⟩) hb).trans (hc j hj i hi)⟩
def Away (v : Value) (lo hi : Nat) : Prop := ∀ g, v.ownBlock = some g → g < lo ∨ hi ≤ g
theorem Away.next {v v' : Value} {lo hi n : Nat} (h : Away v lo hi) (hn : hi ≤ n) (h2 : v'.ownBlock = v.ownBlock ∨ ∃ g, v'.ownBlock = some g ∧ n ≤ g) : Away v' lo hi := fun g hg => by
 rcases h2 with h2 | ⟨g', h2, h3⟩
 ·exact h g (h2 ▸ hg)
 ·rw [h2] at hg
  have := Option.some.inj hg
  omega
theorem not_le (a b : ByteArray) : (!(Op.bytesLess a.toList b.toList || a.toList == b.toList)) = lt b a := by
 have h := not_lt b a
 unfold le at h
 rw [← h]
 unfold lt
 simp
theorem filter_take {α : Type} (p : α → Bool) (xs : List α) (k : Nat) (hk : k < xs.length) : (xs.take (k + 1)).filter p = (xs.take k).filter p ++ (if p xs[k] then [xs[k]] else []) := by
 rw [List.take_succ_eq_append_getElem hk, List.filter_append]
 congr 1
 cases h : p xs[k] <;> simp [h]
theorem filter_yes {α : Type} {p : α → Bool} {xs : List α} {k : Nat} (hk : k < xs.length) (h : p xs[k] = true) : (xs.take (k + 1)).filter p = (xs.take k).filter p ++ [xs[k]] := by
 rw [filter_take p xs k hk, h]; rfl
theorem filter_no {α : Type} {p : α → Bool} {xs : List α} {k : Nat} (hk : k < xs.length) (h : p xs[k] = false) : (xs.take (k + 1)).filter p = (xs.take k).filter p := by
 rw [filter_take p xs k hk, h]; simp
end Go.Proofs.YtjeicgibddfifaaGreat

namespace Go.Proofs.YtjeicgibddfifaaGreat
open Go.RowKit
open KM
attribute [local go_sem ↓] Go.wp_at_zero Go.wp_at_succ

structure Lies {α : Type} (E : Enc α) (e : TypeId) (w : World) (lo hi : Nat) (v : Value) (xs : List α) : Prop where
 own : GOwn E e w lo v xs
 up : ∀ g, v.ownBlock = some g → g < hi
section
variable {α : Type} {E : Enc α} {e : TypeId}
theorem Lies.of {w : World} {lo : Nat} {v : Value} {xs : List α} (h : GOwn E e w lo v xs) : Lies E e w lo w.heap.size v xs := ⟨h, fun g hg => (World.ownsRow.lt h g hg).2⟩
theorem Lies.below {w w' : World} {lo hi : Nat} {v : Value} {xs : List α} (h : Lies E e w lo hi v xs) (hb : Below w.heap.size w w') : Lies E e w' lo hi v xs := ⟨h.own.below hb, h.up⟩
theorem Lies.lo {w : World} {lo hi : Nat} {v : Value} {xs : List α} (h : Lies E e w lo hi v xs) : ∀ g, v.ownBlock = some g → lo ≤ g ∧ g < hi := fun g hg => ⟨(World.ownsRow.lt h.own g hg).1, h.up g hg⟩
end
theorem grown_low {w w' : World} {row : Option Nat} {base : Nat} (h : w.grownBy w' row) (hr : ∀ g, row = some g → base ≤ g) (hb : base ≤ w.heap.size) : Below base w w' :=
 ⟨h.os, h.tape, h.output, h.size, fun j hj => h.block j (by omega) (fun e => by have := hr j e.symm; omega)⟩
theorem bx_marked {w w' : World} {b : Nat} {cs : List Value} {row : Option Nat} (h : Bx w b cs) (hg : w.grownBy w' row) (hr : row ≠ some b) : Bx w' b cs := by
 have hb := hg.block b h.lt (fun e => hr e.symm)
 refine ⟨Nat.lt_of_lt_of_le h.lt hg.size, fun j hj => (World.cell?_of_block (w := w) (a := ⟨b, j, none⟩) hb).trans (h.at' j hj), fun j => ?_⟩
 have := h.fz j
 unfold World.frozen? at this ⊢
 simp only at this ⊢
 rw [hb]; exact this
theorem ne_self_int (x : Int) : (x != x) = false := by simp

end Go.Proofs.YtjeicgibddfifaaGreat
