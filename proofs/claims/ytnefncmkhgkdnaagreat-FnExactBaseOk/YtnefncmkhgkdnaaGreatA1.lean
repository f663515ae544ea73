/- What impl.stateOk and readsOk return. -/
import Derived.Test.YtnefncmkhgkdnaaGreatTxM
import Derived.Test.YtnefncmkhgkdnaaGreatKyK1
namespace Go.Proofs.YtnefncmkhgkdnaaGreat
open Go.RowKit
open KM
attribute [local go_sem ↓] Go.wp_at_zero Go.wp_at_succ

set_option maxRecDepth 100000 in
set_option maxHeartbeats 2000000 in
theorem istate (t : Tx) (ra wa : Option Addr) (rc wc : Nat) (w : World) : Calls Tryz.prog 81 #[.agg #[.int .i64 t.id, .int .i64 t.st, .int .i64 t.snap, .int .i64 t.cs, .slice ra t.rs.length rc, .slice wa t.ws.length wc, .bool t.out, .string t.nm]] w fun e w' => e = .returned (.bool (stateB t)) ∧ Below w.heap.size w w' := by
  by_cases s1 : t.st = 1
  · have s1' : (t.st == 1) = true := by simp [s1]
    by_cases c0 : t.cs = 0
    · have c0' : (t.cs == 0) = true := by simp [c0]
      cases ho : t.out
      · cases he : t.nm.toList.isEmpty
        · have HN : Hid (stateB t = false) := by show _ = _; unfold stateB; simp [s1, c0, ho, he]
          clear s1 c0
          go_enter Tryz.func81, Tryz.ntmps81
          go_wp2
          go_ret
          exact ⟨ret_bool HN.out.symm, (belowRefl w).alloc (Nat.le_refl _) _⟩
        · have HN : Hid (stateB t = true) := by show _ = _; unfold stateB; simp [s1, c0, ho, he]
          clear s1 c0
          go_enter Tryz.func81, Tryz.ntmps81
          go_wp2
          go_ret
          exact ⟨ret_bool HN.out.symm, (belowRefl w).alloc (Nat.le_refl _) _⟩
      · have HN : Hid (stateB t = false) := by show _ = _; unfold stateB; simp [s1, c0, ho]
        clear s1 c0
        go_enter Tryz.func81, Tryz.ntmps81
        go_wp2
        go_ret
        exact ⟨ret_bool HN.out.symm, (belowRefl w).alloc (Nat.le_refl _) _⟩
    · have c0' : (t.cs == 0) = false := by simp [c0]
      have HN : Hid (stateB t = false) := by show _ = _; unfold stateB; simp [s1, c0]
      clear s1 c0
      go_enter Tryz.func81, Tryz.ntmps81
      go_wp2
      go_ret
      exact ⟨ret_bool HN.out.symm, (belowRefl w).alloc (Nat.le_refl _) _⟩
  have s1' : (t.st == 1) = false := by simp [s1]
  by_cases s2 : t.st = 2
  · have s2' : (t.st == 2) = true := by simp [s2]
    by_cases c0 : t.cs = 0
    · have c0' : (t.cs == 0) = true := by simp [c0]
      cases hk : keyB t.nm
      · have K1 : Hid (∀ w, Calls Tryz.prog 76 #[.string t.nm] w fun e w' => e = .returned (.bool false) ∧ w' = w) := fun w => hk ▸ ikey t.nm w
        have HN : Hid (stateB t = false) := by show _ = _; unfold stateB; simp [s2, c0, hk]
        clear s1 s2 c0 hk
        go_enter Tryz.func81, Tryz.ntmps81
        go_wp2_with (go_at_call 76; refine (K1.out _).mono ?_; rintro e w2 ⟨rfl, rfl⟩)
        go_ret
        exact ⟨ret_bool HN.out.symm, (belowRefl w).alloc (Nat.le_refl _) _⟩
      · have K1 : Hid (∀ w, Calls Tryz.prog 76 #[.string t.nm] w fun e w' => e = .returned (.bool true) ∧ w' = w) := fun w => hk ▸ ikey t.nm w
        have HN : Hid (stateB t = true) := by show _ = _; unfold stateB; simp [s2, c0, hk]
        clear s1 s2 c0 hk
        go_enter Tryz.func81, Tryz.ntmps81
        go_wp2_with (go_at_call 76; refine (K1.out _).mono ?_; rintro e w2 ⟨rfl, rfl⟩)
        go_ret
        exact ⟨ret_bool HN.out.symm, (belowRefl w).alloc (Nat.le_refl _) _⟩
    · have c0' : (t.cs == 0) = false := by simp [c0]
      have HN : Hid (stateB t = false) := by show _ = _; unfold stateB; simp [s2, c0]
      clear s1 s2 c0
      go_enter Tryz.func81, Tryz.ntmps81
      go_wp2
      go_ret
      exact ⟨ret_bool HN.out.symm, (belowRefl w).alloc (Nat.le_refl _) _⟩
  have s2' : (t.st == 2) = false := by simp [s2]
  by_cases s3 : t.st = 3
  · have s3' : (t.st == 3) = true := by simp [s3]
    by_cases c1 : t.snap < t.cs
    · by_cases c2 : t.cs ≤ 9999
      · cases he : t.nm.toList.isEmpty
        · have HN : Hid (stateB t = false) := by show _ = _; unfold stateB; simp [s3, c1, c2, he]
          clear s1 s2 s3
          go_enter Tryz.func81, Tryz.ntmps81
          go_wp2
          go_ret
          exact ⟨ret_bool HN.out.symm, (belowRefl w).alloc (Nat.le_refl _) _⟩
        · have HN : Hid (stateB t = true) := by show _ = _; unfold stateB; simp [s3, c1, c2, he]
          clear s1 s2 s3
          go_enter Tryz.func81, Tryz.ntmps81
          go_wp2
          go_ret
          exact ⟨ret_bool HN.out.symm, (belowRefl w).alloc (Nat.le_refl _) _⟩
      · have HN : Hid (stateB t = false) := by show _ = _; unfold stateB; simp [s3, c2]
        clear s1 s2 s3
        go_enter Tryz.func81, Tryz.ntmps81
        go_wp2
        go_ret
        exact ⟨ret_bool HN.out.symm, (belowRefl w).alloc (Nat.le_refl _) _⟩
    · have HN : Hid (stateB t = false) := by show _ = _; unfold stateB; simp [s3, c1]
      clear s1 s2 s3
      go_enter Tryz.func81, Tryz.ntmps81
      go_wp2
      go_ret
      exact ⟨ret_bool HN.out.symm, (belowRefl w).alloc (Nat.le_refl _) _⟩
  have s3' : (t.st == 3) = false := by simp [s3]
  have HN : Hid (stateB t = false) := by show _ = _; unfold stateB; simp [s1, s2, s3]
  clear s1 s2 s3
  go_enter Tryz.func81, Tryz.ntmps81
  go_wp2
  go_ret
  exact ⟨ret_bool HN.out.symm, (belowRefl w).alloc (Nat.le_refl _) _⟩

/-- the first k reads are right -/
def GoodR (rs : List Rg) (k : Nat) : Prop := ∀ j (h : j < rs.length), j < k → rangeB rs[j] = true
theorem goodR_all {rs : List Rg} {k : Nat} (h : GoodR rs k) (hk : rs.length ≤ k) (h8 : rs.length ≤ 8) : readsB rs = true := by
  unfold readsB
  simp only [Bool.and_eq_true, decide_eq_true_eq, List.all_eq_true]
  exact ⟨h8, fun x hx => by obtain ⟨j, hj, rfl⟩ := List.getElem_of_mem hx; exact h j hj (by omega)⟩
theorem goodR_no {rs : List Rg} (k : Nat) (hk : k < rs.length) (h : rangeB rs[k] = false) : readsB rs = false := by
  cases e : readsB rs with
  | false => rfl
  | true =>
    unfold readsB at e
    simp only [Bool.and_eq_true, decide_eq_true_eq, List.all_eq_true] at e
    rw [e.2 _ (List.getElem_mem hk)] at h; cases h
theorem goodR_len {rs : List Rg} (h8 : ¬ rs.length ≤ 8) : readsB rs = false := by unfold readsB; simp [h8]
theorem goodR_more {rs : List Rg} {k : Nat} (hg : GoodR rs k) (hk : k < rs.length) (h : rangeB rs[k] = true) : GoodR rs (k + 1) := fun j hj h2 => by
  by_cases e : j = k
  · subst e; exact h
  · exact hg j hj (by omega)

set_option maxRecDepth 100000 in
set_option maxHeartbeats 2000000 in
theorem ireads (rs : List Rg) (a : Option Addr) (c : Nat) (hn : rs.length ≤ 100000000) (w : World) (hp : GRow encR w a rs) :
    Calls Tryz.prog 82 #[.slice a rs.length c] w fun e w' => e = .returned (.bool (readsB rs)) ∧ Below w.heap.size w w' := by
  have HP : Hid (GRow encR w a rs) := hp
  clear hp
  by_cases h8 : rs.length ≤ 8
  · have h8' : ¬ (8 : Int) < (rs.length : Int) := by omega
    go_enter Tryz.func82, Tryz.ntmps82
    go_wp2
    go_loopw [10] (fun t wr => ∃ k : Nat, k ≤ rs.length ∧ t = .int .i64 k ∧ Hid (GoodR rs k) ∧ Hid (Below w.heap.size w wr)) (fun t _ => rs.length - (intOf t).toNat)
    case atStart => exact ⟨0, Nat.zero_le _, rfl, fun j _ h => by omega, Below.refl _ _⟩
    case round =>
      obtain ⟨k, hk, rfl, HG, HB⟩ := hrel
      by_cases hlt : k < rs.length
      · have hlt' : (k : Int) < (rs.length : Int) := by omega
        have h0 : (0 : Int) ≤ (k : Int) := by omega
        obtain ⟨b, off, rfl, hl, q⟩ := (HP.out.below HB.out) (by omega)
        have r0 := ((rat q) k hlt).1
        have r1 := ((rat q) k hlt).2
        clear q
        cases hv : rangeB rs[k]
        · have K1 : Hid (∀ w, Calls Tryz.prog 89 #[.agg #[.string rs[k].1, .string rs[k].2]] w fun e w' => e = .returned (.bool false) ∧ Below w.heap.size w w') := fun w => hv ▸ irange rs[k].1 rs[k].2 w
          have HN : Hid (readsB rs = false) := goodR_no k hlt hv
          clear hv
          go_wp2_with fail
          refine (K1.out _).mono ?_
          rintro e w2 ⟨rfl, hb2⟩
          have HB2 : Hid (Below w.heap.size w w2) := (HB.out.alloc HB.out.size _).trans (hb2.mono (Nat.le_trans HB.out.size (by simp)))
          clear hb2
          go_wp2
          go_ret
          exact ⟨ret_bool HN.out.symm, HB2.out⟩
        · have K1 : Hid (∀ w, Calls Tryz.prog 89 #[.agg #[.string rs[k].1, .string rs[k].2]] w fun e w' => e = .returned (.bool true) ∧ Below w.heap.size w w') := fun w => hv ▸ irange rs[k].1 rs[k].2 w
          have HG2 : Hid (GoodR rs (k + 1)) := goodR_more HG.out hlt hv
          clear hv
          go_wp2_with fail
          refine (K1.out _).mono ?_
          rintro e w2 ⟨rfl, hb2⟩
          have HB2 : Hid (Below w.heap.size w w2) := (HB.out.alloc HB.out.size _).trans (hb2.mono (Nat.le_trans HB.out.size (by simp)))
          clear hb2
          go_wp2
          go_roundw
          case rel => exact ⟨k + 1, by omega, by go_num, HG2, HB2⟩
          case measure => simp [intOf]; omega
      · have hlt' : ¬ (k : Int) < (rs.length : Int) := by omega
        have HN : Hid (readsB rs = true) := goodR_all HG.out (by omega) h8
        go_wp2
        go_ret
        exact ⟨ret_bool HN.out.symm, HB.out⟩
  · have h8' : (8 : Int) < (rs.length : Int) := by omega
    have HN : Hid (readsB rs = false) := goodR_len h8
    go_enter Tryz.func82, Tryz.ntmps82
    go_wp2
    go_ret
    exact ⟨ret_bool HN.out.symm, belowRefl w⟩
end Go.Proofs.YtnefncmkhgkdnaaGreat
