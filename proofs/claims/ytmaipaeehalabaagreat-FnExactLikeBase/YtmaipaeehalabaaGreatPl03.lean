/- What KeyOk, InRange, RangeOk and WriteOk return, on both sides. -/
import Derived.Test.YtmaipaeehalabaaGreatPl01
import Derived.WalkSpells
import Derived.WalkLawsBesides
import Derived.Deep.QuietTactic
import Derived.BigQuiet
import Derived.Deep.RegionHeld3
import Derived.Deep.DrawnRows
import Derived.Test.YtmaipaeehalabaaGreatPl02
namespace Go.Proofs.YtmaipaeehalabaaGreat
open Go.RowKit
open KM
attribute [local go_sem ↓] Go.wp_at_zero Go.wp_at_succ

set_option maxRecDepth 100000 in
set_option maxHeartbeats 1000000 in
theorem irange (f t : ByteArray) (w : World) : Calls Tryz.prog 85 #[.agg #[.string f, .string t]] w fun e w' => e = .returned (.bool (rangeB (f, t))) ∧ Below w.heap.size w w' := by
  cases hf : keyB f
  · have K1 : Hid (∀ w, Calls Tryz.prog 84 #[.string f] w fun e w' => e = .returned (.bool false) ∧ w' = w) := fun w => hf ▸ ikey f w
    go_enter Tryz.func85, Tryz.ntmps85
    go_wp2_with (go_at_call 84; refine (K1.out _).mono ?_; rintro e w2 ⟨rfl, rfl⟩)
    go_ret
    exact ⟨ret_bool (by unfold rangeB; rw [hf]; rfl), (belowRefl w).alloc (Nat.le_refl _) _⟩
  · have K1 : Hid (∀ w, Calls Tryz.prog 84 #[.string f] w fun e w' => e = .returned (.bool true) ∧ w' = w) := fun w => hf ▸ ikey f w
    cases ht : keyB t
    · have K2 : Hid (∀ w, Calls Tryz.prog 84 #[.string t] w fun e w' => e = .returned (.bool false) ∧ w' = w) := fun w => ht ▸ ikey t w
      go_enter Tryz.func85, Tryz.ntmps85
      go_wp2_with fail
      refine (K1.out _).mono ?_
      rintro e w2 ⟨rfl, rfl⟩
      go_wp2_with fail
      refine (K2.out _).mono ?_
      rintro e w2 ⟨rfl, rfl⟩
      go_wp2
      go_ret
      exact ⟨ret_bool (by unfold rangeB; rw [hf, ht]; rfl), (belowRefl w).alloc (Nat.le_refl _) _⟩
    · have K2 : Hid (∀ w, Calls Tryz.prog 84 #[.string t] w fun e w' => e = .returned (.bool true) ∧ w' = w) := fun w => ht ▸ ikey t w
      go_enter Tryz.func85, Tryz.ntmps85
      go_wp2_with fail
      refine (K1.out _).mono ?_
      rintro e w2 ⟨rfl, rfl⟩
      go_wp2_with fail
      refine (K2.out _).mono ?_
      rintro e w2 ⟨rfl, rfl⟩
      go_wp2
      go_ret
      exact ⟨ret_bool (by unfold rangeB; rw [hf, ht]; rfl), (belowRefl w).alloc (Nat.le_refl _) _⟩

set_option maxRecDepth 100000 in
set_option maxHeartbeats 1000000 in
theorem srange (f t : ByteArray) (hz : f.size ≤ 1048576) (hz2 : t.size ≤ 1048576) (w : World) : Calls Tryz.prog 62 #[.agg #[.string f, .string t]] w fun e w' => e = .returned (.bool (rangeB (f, t))) ∧ Below w.heap.size w w' := by
  cases hf : keyB f
  · have K1 : Hid (∀ w, Calls Tryz.prog 63 #[.string f] w fun e w' => e = .returned (.bool false) ∧ w' = w) := fun w => hf ▸ skey f hz w
    go_enter Tryz.func62, Tryz.ntmps62
    go_wp2_with (go_at_call 63; refine (K1.out _).mono ?_; rintro e w2 ⟨rfl, rfl⟩)
    go_ret
    exact ⟨ret_bool (by unfold rangeB; rw [hf]; rfl), (belowRefl w).alloc (Nat.le_refl _) _⟩
  · have K1 : Hid (∀ w, Calls Tryz.prog 63 #[.string f] w fun e w' => e = .returned (.bool true) ∧ w' = w) := fun w => hf ▸ skey f hz w
    cases ht : keyB t
    · have K2 : Hid (∀ w, Calls Tryz.prog 63 #[.string t] w fun e w' => e = .returned (.bool false) ∧ w' = w) := fun w => ht ▸ skey t hz2 w
      go_enter Tryz.func62, Tryz.ntmps62
      go_wp2_with fail
      refine (K1.out _).mono ?_
      rintro e w2 ⟨rfl, rfl⟩
      go_wp2_with fail
      refine (K2.out _).mono ?_
      rintro e w2 ⟨rfl, rfl⟩
      go_wp2
      go_ret
      exact ⟨ret_bool (by unfold rangeB; rw [hf, ht]; rfl), (belowRefl w).alloc (Nat.le_refl _) _⟩
    · have K2 : Hid (∀ w, Calls Tryz.prog 63 #[.string t] w fun e w' => e = .returned (.bool true) ∧ w' = w) := fun w => ht ▸ skey t hz2 w
      go_enter Tryz.func62, Tryz.ntmps62
      go_wp2_with fail
      refine (K1.out _).mono ?_
      rintro e w2 ⟨rfl, rfl⟩
      go_wp2_with fail
      refine (K2.out _).mono ?_
      rintro e w2 ⟨rfl, rfl⟩
      go_wp2
      go_ret
      exact ⟨ret_bool (by unfold rangeB; rw [hf, ht]; rfl), (belowRefl w).alloc (Nat.le_refl _) _⟩

set_option maxRecDepth 100000 in
set_option maxHeartbeats 1000000 in
theorem swrite (k v : ByteArray) (g : Bool) (hz : k.size ≤ 1048576) (w : World) : Calls Tryz.prog 83 #[.agg #[.string k, .string v, .bool g]] w fun e w' => e = .returned (.bool (writeB (k, v, g))) ∧ Below w.heap.size w w' := by
  cases hk : keyB k <;> cases g <;> cases he : v.toList.isEmpty <;> by_cases hs : v.size ≤ 12
  · have K1 : Hid (∀ w, Calls Tryz.prog 63 #[.string k] w fun e w' => e = .returned (.bool false) ∧ w' = w) := fun w => hk ▸ skey k hz w
    have HN : Hid (writeB (k, v, false) = false) := by show _ = _; unfold writeB; simp [hk, he, hs]
    have hs' : decide ((v.size : Int) ≤ 12) = true := by simp; omega
    clear hs hk
    go_enter Tryz.func83, Tryz.ntmps83
    go_wp2_with (go_at_call 63; refine (K1.out _).mono ?_; rintro e w2 ⟨rfl, rfl⟩)
    go_ret
    exact ⟨ret_bool HN.out.symm, (belowRefl w).alloc (Nat.le_refl _) _⟩
  · have K1 : Hid (∀ w, Calls Tryz.prog 63 #[.string k] w fun e w' => e = .returned (.bool false) ∧ w' = w) := fun w => hk ▸ skey k hz w
    have HN : Hid (writeB (k, v, false) = false) := by show _ = _; unfold writeB; simp [hk, he, hs]
    have hs' : decide ((v.size : Int) ≤ 12) = false := by simp; omega
    clear hs hk
    go_enter Tryz.func83, Tryz.ntmps83
    go_wp2_with (go_at_call 63; refine (K1.out _).mono ?_; rintro e w2 ⟨rfl, rfl⟩)
    go_ret
    exact ⟨ret_bool HN.out.symm, (belowRefl w).alloc (Nat.le_refl _) _⟩
  · have K1 : Hid (∀ w, Calls Tryz.prog 63 #[.string k] w fun e w' => e = .returned (.bool false) ∧ w' = w) := fun w => hk ▸ skey k hz w
    have HN : Hid (writeB (k, v, false) = false) := by show _ = _; unfold writeB; simp [hk, he, hs]
    have hs' : decide ((v.size : Int) ≤ 12) = true := by simp; omega
    clear hs hk
    go_enter Tryz.func83, Tryz.ntmps83
    go_wp2_with (go_at_call 63; refine (K1.out _).mono ?_; rintro e w2 ⟨rfl, rfl⟩)
    go_ret
    exact ⟨ret_bool HN.out.symm, (belowRefl w).alloc (Nat.le_refl _) _⟩
  · have K1 : Hid (∀ w, Calls Tryz.prog 63 #[.string k] w fun e w' => e = .returned (.bool false) ∧ w' = w) := fun w => hk ▸ skey k hz w
    have HN : Hid (writeB (k, v, false) = false) := by show _ = _; unfold writeB; simp [hk, he, hs]
    have hs' : decide ((v.size : Int) ≤ 12) = false := by simp; omega
    clear hs hk
    go_enter Tryz.func83, Tryz.ntmps83
    go_wp2_with (go_at_call 63; refine (K1.out _).mono ?_; rintro e w2 ⟨rfl, rfl⟩)
    go_ret
    exact ⟨ret_bool HN.out.symm, (belowRefl w).alloc (Nat.le_refl _) _⟩
  · have K1 : Hid (∀ w, Calls Tryz.prog 63 #[.string k] w fun e w' => e = .returned (.bool false) ∧ w' = w) := fun w => hk ▸ skey k hz w
    have HN : Hid (writeB (k, v, true) = false) := by show _ = _; unfold writeB; simp [hk, he, hs]
    have hs' : decide ((v.size : Int) ≤ 12) = true := by simp; omega
    clear hs hk
    go_enter Tryz.func83, Tryz.ntmps83
    go_wp2_with (go_at_call 63; refine (K1.out _).mono ?_; rintro e w2 ⟨rfl, rfl⟩)
    go_ret
    exact ⟨ret_bool HN.out.symm, (belowRefl w).alloc (Nat.le_refl _) _⟩
  · have K1 : Hid (∀ w, Calls Tryz.prog 63 #[.string k] w fun e w' => e = .returned (.bool false) ∧ w' = w) := fun w => hk ▸ skey k hz w
    have HN : Hid (writeB (k, v, true) = false) := by show _ = _; unfold writeB; simp [hk, he, hs]
    have hs' : decide ((v.size : Int) ≤ 12) = false := by simp; omega
    clear hs hk
    go_enter Tryz.func83, Tryz.ntmps83
    go_wp2_with (go_at_call 63; refine (K1.out _).mono ?_; rintro e w2 ⟨rfl, rfl⟩)
    go_ret
    exact ⟨ret_bool HN.out.symm, (belowRefl w).alloc (Nat.le_refl _) _⟩
  · have K1 : Hid (∀ w, Calls Tryz.prog 63 #[.string k] w fun e w' => e = .returned (.bool false) ∧ w' = w) := fun w => hk ▸ skey k hz w
    have HN : Hid (writeB (k, v, true) = false) := by show _ = _; unfold writeB; simp [hk, he, hs]
    have hs' : decide ((v.size : Int) ≤ 12) = true := by simp; omega
    clear hs hk
    go_enter Tryz.func83, Tryz.ntmps83
    go_wp2_with (go_at_call 63; refine (K1.out _).mono ?_; rintro e w2 ⟨rfl, rfl⟩)
    go_ret
    exact ⟨ret_bool HN.out.symm, (belowRefl w).alloc (Nat.le_refl _) _⟩
  · have K1 : Hid (∀ w, Calls Tryz.prog 63 #[.string k] w fun e w' => e = .returned (.bool false) ∧ w' = w) := fun w => hk ▸ skey k hz w
    have HN : Hid (writeB (k, v, true) = false) := by show _ = _; unfold writeB; simp [hk, he, hs]
    have hs' : decide ((v.size : Int) ≤ 12) = false := by simp; omega
    clear hs hk
    go_enter Tryz.func83, Tryz.ntmps83
    go_wp2_with (go_at_call 63; refine (K1.out _).mono ?_; rintro e w2 ⟨rfl, rfl⟩)
    go_ret
    exact ⟨ret_bool HN.out.symm, (belowRefl w).alloc (Nat.le_refl _) _⟩
  · have K1 : Hid (∀ w, Calls Tryz.prog 63 #[.string k] w fun e w' => e = .returned (.bool true) ∧ w' = w) := fun w => hk ▸ skey k hz w
    have HN : Hid (writeB (k, v, false) = true) := by show _ = _; unfold writeB; simp [hk, he, hs]
    have hs' : decide ((v.size : Int) ≤ 12) = true := by simp; omega
    clear hs hk
    go_enter Tryz.func83, Tryz.ntmps83
    go_wp2_with (go_at_call 63; refine (K1.out _).mono ?_; rintro e w2 ⟨rfl, rfl⟩)
    go_ret
    exact ⟨ret_bool HN.out.symm, (belowRefl w).alloc (Nat.le_refl _) _⟩
  · have K1 : Hid (∀ w, Calls Tryz.prog 63 #[.string k] w fun e w' => e = .returned (.bool true) ∧ w' = w) := fun w => hk ▸ skey k hz w
    have HN : Hid (writeB (k, v, false) = false) := by show _ = _; unfold writeB; simp [hk, he, hs]
    have hs' : decide ((v.size : Int) ≤ 12) = false := by simp; omega
    clear hs hk
    go_enter Tryz.func83, Tryz.ntmps83
    go_wp2_with (go_at_call 63; refine (K1.out _).mono ?_; rintro e w2 ⟨rfl, rfl⟩)
    go_ret
    exact ⟨ret_bool HN.out.symm, (belowRefl w).alloc (Nat.le_refl _) _⟩
  · have K1 : Hid (∀ w, Calls Tryz.prog 63 #[.string k] w fun e w' => e = .returned (.bool true) ∧ w' = w) := fun w => hk ▸ skey k hz w
    have HN : Hid (writeB (k, v, false) = true) := by show _ = _; unfold writeB; simp [hk, he, hs]
    have hs' : decide ((v.size : Int) ≤ 12) = true := by simp; omega
    clear hs hk
    go_enter Tryz.func83, Tryz.ntmps83
    go_wp2_with (go_at_call 63; refine (K1.out _).mono ?_; rintro e w2 ⟨rfl, rfl⟩)
    go_ret
    exact ⟨ret_bool HN.out.symm, (belowRefl w).alloc (Nat.le_refl _) _⟩
  · have K1 : Hid (∀ w, Calls Tryz.prog 63 #[.string k] w fun e w' => e = .returned (.bool true) ∧ w' = w) := fun w => hk ▸ skey k hz w
    have HN : Hid (writeB (k, v, false) = false) := by show _ = _; unfold writeB; simp [hk, he, hs]
    have hs' : decide ((v.size : Int) ≤ 12) = false := by simp; omega
    clear hs hk
    go_enter Tryz.func83, Tryz.ntmps83
    go_wp2_with (go_at_call 63; refine (K1.out _).mono ?_; rintro e w2 ⟨rfl, rfl⟩)
    go_ret
    exact ⟨ret_bool HN.out.symm, (belowRefl w).alloc (Nat.le_refl _) _⟩
  · have K1 : Hid (∀ w, Calls Tryz.prog 63 #[.string k] w fun e w' => e = .returned (.bool true) ∧ w' = w) := fun w => hk ▸ skey k hz w
    have HN : Hid (writeB (k, v, true) = false) := by show _ = _; unfold writeB; simp [hk, he, hs]
    have hs' : decide ((v.size : Int) ≤ 12) = true := by simp; omega
    clear hs hk
    go_enter Tryz.func83, Tryz.ntmps83
    go_wp2_with (go_at_call 63; refine (K1.out _).mono ?_; rintro e w2 ⟨rfl, rfl⟩)
    go_ret
    exact ⟨ret_bool HN.out.symm, (belowRefl w).alloc (Nat.le_refl _) _⟩
  · have K1 : Hid (∀ w, Calls Tryz.prog 63 #[.string k] w fun e w' => e = .returned (.bool true) ∧ w' = w) := fun w => hk ▸ skey k hz w
    have HN : Hid (writeB (k, v, true) = false) := by show _ = _; unfold writeB; simp [hk, he, hs]
    have hs' : decide ((v.size : Int) ≤ 12) = false := by simp; omega
    clear hs hk
    go_enter Tryz.func83, Tryz.ntmps83
    go_wp2_with (go_at_call 63; refine (K1.out _).mono ?_; rintro e w2 ⟨rfl, rfl⟩)
    go_ret
    exact ⟨ret_bool HN.out.symm, (belowRefl w).alloc (Nat.le_refl _) _⟩
  · have K1 : Hid (∀ w, Calls Tryz.prog 63 #[.string k] w fun e w' => e = .returned (.bool true) ∧ w' = w) := fun w => hk ▸ skey k hz w
    have HN : Hid (writeB (k, v, true) = true) := by show _ = _; unfold writeB; simp [hk, he, hs]
    have hs' : decide ((v.size : Int) ≤ 12) = true := by simp; omega
    clear hs hk
    go_enter Tryz.func83, Tryz.ntmps83
    go_wp2_with (go_at_call 63; refine (K1.out _).mono ?_; rintro e w2 ⟨rfl, rfl⟩)
    go_ret
    exact ⟨ret_bool HN.out.symm, (belowRefl w).alloc (Nat.le_refl _) _⟩
  · have K1 : Hid (∀ w, Calls Tryz.prog 63 #[.string k] w fun e w' => e = .returned (.bool true) ∧ w' = w) := fun w => hk ▸ skey k hz w
    have HN : Hid (writeB (k, v, true) = false) := by show _ = _; unfold writeB; simp [hk, he, hs]
    have hs' : decide ((v.size : Int) ≤ 12) = false := by simp; omega
    clear hs hk
    go_enter Tryz.func83, Tryz.ntmps83
    go_wp2_with (go_at_call 63; refine (K1.out _).mono ?_; rintro e w2 ⟨rfl, rfl⟩)
    go_ret
    exact ⟨ret_bool HN.out.symm, (belowRefl w).alloc (Nat.le_refl _) _⟩
end Go.Proofs.YtmaipaeehalabaaGreat

namespace Go.Proofs.YtmaipaeehalabaaGreat
open Go.RowKit
open KM
attribute [local go_sem ↓] Go.wp_at_zero Go.wp_at_succ

set_option maxRecDepth 100000 in
set_option maxHeartbeats 2000000 in
theorem istate (t : Tx) (ra wa : Option Addr) (rc wc : Nat) (w : World) : Calls Tryz.prog 68 #[.agg #[.int .i64 t.id, .int .i64 t.st, .int .i64 t.snap, .int .i64 t.cs, .slice ra t.rs.length rc, .slice wa t.ws.length wc, .bool t.out, .string t.nm]] w fun e w' => e = .returned (.bool (stateB t)) ∧ Below w.heap.size w w' := by
  by_cases s1 : t.st = 1
  · have s1' : (t.st == 1) = true := by simp [s1]
    by_cases c0 : t.cs = 0
    · have c0' : (t.cs == 0) = true := by simp [c0]
      cases ho : t.out
      · cases he : t.nm.toList.isEmpty
        · have HN : Hid (stateB t = false) := by show _ = _; unfold stateB; simp [s1, c0, ho, he]
          clear s1 c0
          go_enter Tryz.func68, Tryz.ntmps68
          go_wp2
          go_ret
          exact ⟨ret_bool HN.out.symm, (belowRefl w).alloc (Nat.le_refl _) _⟩
        · have HN : Hid (stateB t = true) := by show _ = _; unfold stateB; simp [s1, c0, ho, he]
          clear s1 c0
          go_enter Tryz.func68, Tryz.ntmps68
          go_wp2
          go_ret
          exact ⟨ret_bool HN.out.symm, (belowRefl w).alloc (Nat.le_refl _) _⟩
      · have HN : Hid (stateB t = false) := by show _ = _; unfold stateB; simp [s1, c0, ho]
        clear s1 c0
        go_enter Tryz.func68, Tryz.ntmps68
        go_wp2
        go_ret
        exact ⟨ret_bool HN.out.symm, (belowRefl w).alloc (Nat.le_refl _) _⟩
    · have c0' : (t.cs == 0) = false := by simp [c0]
      have HN : Hid (stateB t = false) := by show _ = _; unfold stateB; simp [s1, c0]
      clear s1 c0
      go_enter Tryz.func68, Tryz.ntmps68
      go_wp2
      go_ret
      exact ⟨ret_bool HN.out.symm, (belowRefl w).alloc (Nat.le_refl _) _⟩
  have s1' : (t.st == 1) = false := by simp [s1]
  by_cases s2 : t.st = 2
  · have s2' : (t.st == 2) = true := by simp [s2]
    by_cases c0 : t.cs = 0
    · have c0' : (t.cs == 0) = true := by simp [c0]
      cases hk : keyB t.nm
      · have K1 : Hid (∀ w, Calls Tryz.prog 84 #[.string t.nm] w fun e w' => e = .returned (.bool false) ∧ w' = w) := fun w => hk ▸ ikey t.nm w
        have HN : Hid (stateB t = false) := by show _ = _; unfold stateB; simp [s2, c0, hk]
        clear s1 s2 c0 hk
        go_enter Tryz.func68, Tryz.ntmps68
        go_wp2_with (go_at_call 84; refine (K1.out _).mono ?_; rintro e w2 ⟨rfl, rfl⟩)
        go_ret
        exact ⟨ret_bool HN.out.symm, (belowRefl w).alloc (Nat.le_refl _) _⟩
      · have K1 : Hid (∀ w, Calls Tryz.prog 84 #[.string t.nm] w fun e w' => e = .returned (.bool true) ∧ w' = w) := fun w => hk ▸ ikey t.nm w
        have HN : Hid (stateB t = true) := by show _ = _; unfold stateB; simp [s2, c0, hk]
        clear s1 s2 c0 hk
        go_enter Tryz.func68, Tryz.ntmps68
        go_wp2_with (go_at_call 84; refine (K1.out _).mono ?_; rintro e w2 ⟨rfl, rfl⟩)
        go_ret
        exact ⟨ret_bool HN.out.symm, (belowRefl w).alloc (Nat.le_refl _) _⟩
    · have c0' : (t.cs == 0) = false := by simp [c0]
      have HN : Hid (stateB t = false) := by show _ = _; unfold stateB; simp [s2, c0]
      clear s1 s2 c0
      go_enter Tryz.func68, Tryz.ntmps68
      go_wp2
      go_ret
      exact ⟨ret_bool HN.out.symm, (belowRefl w).alloc (Nat.le_refl _) _⟩
  have s2' : (t.st == 2) = false := by simp [s2]
  by_cases s3 : t.st = 3
  · have s3' : (t.st == 3) = true := by simp [s3]
    by_cases c1 : t.snap < t.cs
    · by_cases c2 : t.cs ≤ 9999
      · cases he : t.nm.toList.isEmpty
        · have HN : Hid (stateB t = false) := by show _ = _; unfold stateB; simp [s3, c1, c2, he]
          clear s1 s2 s3
          go_enter Tryz.func68, Tryz.ntmps68
          go_wp2
          go_ret
          exact ⟨ret_bool HN.out.symm, (belowRefl w).alloc (Nat.le_refl _) _⟩
        · have HN : Hid (stateB t = true) := by show _ = _; unfold stateB; simp [s3, c1, c2, he]
          clear s1 s2 s3
          go_enter Tryz.func68, Tryz.ntmps68
          go_wp2
          go_ret
          exact ⟨ret_bool HN.out.symm, (belowRefl w).alloc (Nat.le_refl _) _⟩
      · have HN : Hid (stateB t = false) := by show _ = _; unfold stateB; simp [s3, c2]
        clear s1 s2 s3
        go_enter Tryz.func68, Tryz.ntmps68
        go_wp2
        go_ret
        exact ⟨ret_bool HN.out.symm, (belowRefl w).alloc (Nat.le_refl _) _⟩
    · have HN : Hid (stateB t = false) := by show _ = _; unfold stateB; simp [s3, c1]
      clear s1 s2 s3
      go_enter Tryz.func68, Tryz.ntmps68
      go_wp2
      go_ret
      exact ⟨ret_bool HN.out.symm, (belowRefl w).alloc (Nat.le_refl _) _⟩
  have s3' : (t.st == 3) = false := by simp [s3]
  have HN : Hid (stateB t = false) := by show _ = _; unfold stateB; simp [s1, s2, s3]
  clear s1 s2 s3
  go_enter Tryz.func68, Tryz.ntmps68
  go_wp2
  go_ret
  exact ⟨ret_bool HN.out.symm, (belowRefl w).alloc (Nat.le_refl _) _⟩

def GoodR (rs : List Rg) (k : Nat) : Prop := ∀ j (h : j < rs.length), j < k → rangeB rs[j] = true
theorem goodR_all {rs : List Rg} {k : Nat} (h : GoodR rs k) (hk : rs.length ≤ k) (h8 : rs.length ≤ 8) : readsB rs = true := by
  unfold readsB
  simp only [Bool.and_eq_true, decide_eq_true_eq, List.all_eq_true]
  exact ⟨h8, fun x hx => by obtain ⟨j, hj, rfl⟩ := List.getElem_of_mem hx; exact h j hj (by omega)⟩
theorem goodR_no {rs : List Rg} (k : Nat) (hk : k < rs.length) (h : rangeB rs[k] = false) : readsB rs = false := by
  cases e : readsB rs with
  | false => rfl
  | true =>
    unfold readsB at e
    simp only [Bool.and_eq_true, decide_eq_true_eq, List.all_eq_true] at e
    rw [e.2 _ (List.getElem_mem hk)] at h; cases h
theorem goodR_len {rs : List Rg} (h8 : ¬ rs.length ≤ 8) : readsB rs = false := by unfold readsB; simp [h8]
theorem goodR_more {rs : List Rg} {k : Nat} (hg : GoodR rs k) (hk : k < rs.length) (h : rangeB rs[k] = true) : GoodR rs (k + 1) := fun j hj h2 => by
  by_cases e : j = k
  · subst e; exact h
  · exact hg j hj (by omega)

set_option maxRecDepth 100000 in
set_option maxHeartbeats 2000000 in
theorem ireads (rs : List Rg) (a : Option Addr) (c : Nat) (hn : rs.length ≤ 100000000) (w : World) (hp : GRow encR w a rs) :
    Calls Tryz.prog 69 #[.slice a rs.length c] w fun e w' => e = .returned (.bool (readsB rs)) ∧ Below w.heap.size w w' := by
  have HP : Hid (GRow encR w a rs) := hp
  clear hp
  by_cases h8 : rs.length ≤ 8
  · have h8' : ¬ (8 : Int) < (rs.length : Int) := by omega
    go_enter Tryz.func69, Tryz.ntmps69
    go_wp2
    go_loopw [10] (fun t wr => ∃ k : Nat, k ≤ rs.length ∧ t = .int .i64 k ∧ Hid (GoodR rs k) ∧ Hid (Below w.heap.size w wr)) (fun t _ => rs.length - (intOf t).toNat)
    case atStart => exact ⟨0, Nat.zero_le _, rfl, fun j _ h => by omega, Below.refl _ _⟩
    case round =>
      obtain ⟨k, hk, rfl, HG, HB⟩ := hrel
      by_cases hlt : k < rs.length
      · have hlt' : (k : Int) < (rs.length : Int) := by omega
        have h0 : (0 : Int) ≤ (k : Int) := by omega
        obtain ⟨b, off, rfl, hl, q⟩ := (HP.out.below HB.out) (by omega)
        have r0 := ((rat q) k hlt).1
        have r1 := ((rat q) k hlt).2
        clear q
        cases hv : rangeB rs[k]
        · have K1 : Hid (∀ w, Calls Tryz.prog 85 #[.agg #[.string rs[k].1, .string rs[k].2]] w fun e w' => e = .returned (.bool false) ∧ Below w.heap.size w w') := fun w => hv ▸ irange rs[k].1 rs[k].2 w
          have HN : Hid (readsB rs = false) := goodR_no k hlt hv
          clear hv
          go_wp2_with fail
          refine (K1.out _).mono ?_
          rintro e w2 ⟨rfl, hb2⟩
          have HB2 : Hid (Below w.heap.size w w2) := (HB.out.alloc HB.out.size _).trans (hb2.mono (Nat.le_trans HB.out.size (by simp)))
          clear hb2
          go_wp2
          go_ret
          exact ⟨ret_bool HN.out.symm, HB2.out⟩
        · have K1 : Hid (∀ w, Calls Tryz.prog 85 #[.agg #[.string rs[k].1, .string rs[k].2]] w fun e w' => e = .returned (.bool true) ∧ Below w.heap.size w w') := fun w => hv ▸ irange rs[k].1 rs[k].2 w
          have HG2 : Hid (GoodR rs (k + 1)) := goodR_more HG.out hlt hv
          clear hv
          go_wp2_with fail
          refine (K1.out _).mono ?_
          rintro e w2 ⟨rfl, hb2⟩
          have HB2 : Hid (Below w.heap.size w w2) := (HB.out.alloc HB.out.size _).trans (hb2.mono (Nat.le_trans HB.out.size (by simp)))
          clear hb2
          go_wp2
          go_roundw
          case rel => exact ⟨k + 1, by omega, by go_num, HG2, HB2⟩
          case measure => simp [intOf]; omega
      · have hlt' : ¬ (k : Int) < (rs.length : Int) := by omega
        have HN : Hid (readsB rs = true) := goodR_all HG.out (by omega) h8
        go_wp2
        go_ret
        exact ⟨ret_bool HN.out.symm, HB.out⟩
  · have h8' : (8 : Int) < (rs.length : Int) := by omega
    have HN : Hid (readsB rs = false) := goodR_len h8
    go_enter Tryz.func69, Tryz.ntmps69
    go_wp2
    go_ret
    exact ⟨ret_bool HN.out.symm, belowRefl w⟩
end Go.Proofs.YtmaipaeehalabaaGreat

namespace Go.Proofs.YtmaipaeehalabaaGreat
open Go.RowKit
open KM
attribute [local go_sem ↓] Go.wp_at_zero Go.wp_at_succ

set_option maxRecDepth 100000 in
set_option maxHeartbeats 1000000 in
theorem szw (f t : ByteArray) (g : Bool) (left : Int) (h0 : 0 ≤ left) (hl : left ≤ 1048576) (hf : f.size ≤ maxLen) (ht : t.size ≤ maxLen) (w : World) :
    Calls Tryz.prog 59 #[.agg #[.string f, .string t, .bool g], .int .i64 left] w fun e w' => ∃ r : Int, e = .returned (.int .i64 r) ∧ Room f t left r ∧ Below w.heap.size w w' := by
  unfold maxLen at hf ht
  have e1 : IntKind.i64.wrap (left - (f.size : Int)) = left - f.size := by rw [IntKind.wrap_i64]; omega
  by_cases h1 : left - (f.size : Int) < 0
  · go_enter Tryz.func59, Tryz.ntmps59
    go_wp2
    go_ret
    exact ⟨_, rfl, Or.inl (by omega), (belowRefl w).alloc (Nat.le_refl _) _⟩
  have h1' : ¬ left - (f.size : Int) < 0 := h1
  have e2 : IntKind.i64.wrap (left - (f.size : Int) - (t.size : Int)) = left - f.size - t.size := by rw [IntKind.wrap_i64]; omega
  by_cases h2 : left - (f.size : Int) - (t.size : Int) < 0
  · go_enter Tryz.func59, Tryz.ntmps59
    go_wp2
    go_ret
    exact ⟨_, rfl, Or.inl (by omega), (belowRefl w).alloc (Nat.le_refl _) _⟩
  · have h2' : ¬ left - (f.size : Int) - (t.size : Int) < 0 := h2
    go_enter Tryz.func59, Tryz.ntmps59
    go_wp2
    go_ret
    exact ⟨_, rfl, Or.inr ⟨by omega, by omega, by omega⟩, (belowRefl w).alloc (Nat.le_refl _) _⟩

set_option maxHeartbeats 400000 in
theorem tow (f t : ByteArray) (g : Bool) (w : World) :
    Calls Tryz.prog 67 #[.agg #[.string f, .string t, .bool g]] w fun e w' => e = .returned (.agg #[.string f, .string t, .bool g]) ∧ Below w.heap.size w w' := by
  go_enter Tryz.func67, Tryz.ntmps67
  go_wp2
  exact bodyPost_ret (v := .agg #[.string f, .string t, .bool g]) (by simp [results, Tryz.results67, go_sem]) rfl ⟨rfl, (((belowRefl w).alloc (Nat.le_refl _) _).alloc (by simp) _).alloc (by simp; omega) _⟩

end Go.Proofs.YtmaipaeehalabaaGreat
