/- What KeyOk, InRange, RangeOk and WriteOk return, on both sides. -/
import Derived.Test.YtnefncmkhgkdnaaGreatK1
import Derived.WalkSpells
import Derived.WalkLawsBesides
import Derived.Deep.QuietTactic
import Derived.BigQuiet
import Derived.Deep.RegionHeld3
import Derived.Deep.DrawnRows
namespace Go.Proofs.YtnefncmkhgkdnaaGreat
open Go.RowKit
open KM
attribute [local go_sem ↓] Go.wp_at_zero Go.wp_at_succ

set_option maxRecDepth 100000 in
set_option maxHeartbeats 1000000 in
theorem irange (f t : ByteArray) (w : World) : Calls Tryz.prog 89 #[.agg #[.string f, .string t]] w fun e w' => e = .returned (.bool (rangeB (f, t))) ∧ Below w.heap.size w w' := by
  cases hf : keyB f
  · have K1 : Hid (∀ w, Calls Tryz.prog 76 #[.string f] w fun e w' => e = .returned (.bool false) ∧ w' = w) := fun w => hf ▸ ikey f w
    go_enter Tryz.func89, Tryz.ntmps89
    go_wp2_with (go_at_call 76; refine (K1.out _).mono ?_; rintro e w2 ⟨rfl, rfl⟩)
    go_ret
    exact ⟨ret_bool (by unfold rangeB; rw [hf]; rfl), (belowRefl w).alloc (Nat.le_refl _) _⟩
  · have K1 : Hid (∀ w, Calls Tryz.prog 76 #[.string f] w fun e w' => e = .returned (.bool true) ∧ w' = w) := fun w => hf ▸ ikey f w
    cases ht : keyB t
    · have K2 : Hid (∀ w, Calls Tryz.prog 76 #[.string t] w fun e w' => e = .returned (.bool false) ∧ w' = w) := fun w => ht ▸ ikey t w
      go_enter Tryz.func89, Tryz.ntmps89
      go_wp2_with fail
      refine (K1.out _).mono ?_
      rintro e w2 ⟨rfl, rfl⟩
      go_wp2_with fail
      refine (K2.out _).mono ?_
      rintro e w2 ⟨rfl, rfl⟩
      go_wp2
      go_ret
      exact ⟨ret_bool (by unfold rangeB; rw [hf, ht]; rfl), (belowRefl w).alloc (Nat.le_refl _) _⟩
    · have K2 : Hid (∀ w, Calls Tryz.prog 76 #[.string t] w fun e w' => e = .returned (.bool true) ∧ w' = w) := fun w => ht ▸ ikey t w
      go_enter Tryz.func89, Tryz.ntmps89
      go_wp2_with fail
      refine (K1.out _).mono ?_
      rintro e w2 ⟨rfl, rfl⟩
      go_wp2_with fail
      refine (K2.out _).mono ?_
      rintro e w2 ⟨rfl, rfl⟩
      go_wp2
      go_ret
      exact ⟨ret_bool (by unfold rangeB; rw [hf, ht]; rfl), (belowRefl w).alloc (Nat.le_refl _) _⟩

set_option maxRecDepth 100000 in
set_option maxHeartbeats 1000000 in
theorem srange (f t : ByteArray) (hz : f.size ≤ 1048576) (hz2 : t.size ≤ 1048576) (w : World) : Calls Tryz.prog 28 #[.agg #[.string f, .string t]] w fun e w' => e = .returned (.bool (rangeB (f, t))) ∧ Below w.heap.size w w' := by
  cases hf : keyB f
  · have K1 : Hid (∀ w, Calls Tryz.prog 26 #[.string f] w fun e w' => e = .returned (.bool false) ∧ w' = w) := fun w => hf ▸ skey f hz w
    go_enter Tryz.func28, Tryz.ntmps28
    go_wp2_with (go_at_call 26; refine (K1.out _).mono ?_; rintro e w2 ⟨rfl, rfl⟩)
    go_ret
    exact ⟨ret_bool (by unfold rangeB; rw [hf]; rfl), (belowRefl w).alloc (Nat.le_refl _) _⟩
  · have K1 : Hid (∀ w, Calls Tryz.prog 26 #[.string f] w fun e w' => e = .returned (.bool true) ∧ w' = w) := fun w => hf ▸ skey f hz w
    cases ht : keyB t
    · have K2 : Hid (∀ w, Calls Tryz.prog 26 #[.string t] w fun e w' => e = .returned (.bool false) ∧ w' = w) := fun w => ht ▸ skey t hz2 w
      go_enter Tryz.func28, Tryz.ntmps28
      go_wp2_with fail
      refine (K1.out _).mono ?_
      rintro e w2 ⟨rfl, rfl⟩
      go_wp2_with fail
      refine (K2.out _).mono ?_
      rintro e w2 ⟨rfl, rfl⟩
      go_wp2
      go_ret
      exact ⟨ret_bool (by unfold rangeB; rw [hf, ht]; rfl), (belowRefl w).alloc (Nat.le_refl _) _⟩
    · have K2 : Hid (∀ w, Calls Tryz.prog 26 #[.string t] w fun e w' => e = .returned (.bool true) ∧ w' = w) := fun w => ht ▸ skey t hz2 w
      go_enter Tryz.func28, Tryz.ntmps28
      go_wp2_with fail
      refine (K1.out _).mono ?_
      rintro e w2 ⟨rfl, rfl⟩
      go_wp2_with fail
      refine (K2.out _).mono ?_
      rintro e w2 ⟨rfl, rfl⟩
      go_wp2
      go_ret
      exact ⟨ret_bool (by unfold rangeB; rw [hf, ht]; rfl), (belowRefl w).alloc (Nat.le_refl _) _⟩

set_option maxRecDepth 100000 in
set_option maxHeartbeats 1000000 in
theorem swrite (k v : ByteArray) (g : Bool) (hz : k.size ≤ 1048576) (w : World) : Calls Tryz.prog 49 #[.agg #[.string k, .string v, .bool g]] w fun e w' => e = .returned (.bool (writeB (k, v, g))) ∧ Below w.heap.size w w' := by
  cases hk : keyB k <;> cases g <;> cases he : v.toList.isEmpty <;> by_cases hs : v.size ≤ 12
  · have K1 : Hid (∀ w, Calls Tryz.prog 26 #[.string k] w fun e w' => e = .returned (.bool false) ∧ w' = w) := fun w => hk ▸ skey k hz w
    have HN : Hid (writeB (k, v, false) = false) := by show _ = _; unfold writeB; simp [hk, he, hs]
    have hs' : decide ((v.size : Int) ≤ 12) = true := by simp; omega
    clear hs hk
    go_enter Tryz.func49, Tryz.ntmps49
    go_wp2_with (go_at_call 26; refine (K1.out _).mono ?_; rintro e w2 ⟨rfl, rfl⟩)
    go_ret
    exact ⟨ret_bool HN.out.symm, (belowRefl w).alloc (Nat.le_refl _) _⟩
  · have K1 : Hid (∀ w, Calls Tryz.prog 26 #[.string k] w fun e w' => e = .returned (.bool false) ∧ w' = w) := fun w => hk ▸ skey k hz w
    have HN : Hid (writeB (k, v, false) = false) := by show _ = _; unfold writeB; simp [hk, he, hs]
    have hs' : decide ((v.size : Int) ≤ 12) = false := by simp; omega
    clear hs hk
    go_enter Tryz.func49, Tryz.ntmps49
    go_wp2_with (go_at_call 26; refine (K1.out _).mono ?_; rintro e w2 ⟨rfl, rfl⟩)
    go_ret
    exact ⟨ret_bool HN.out.symm, (belowRefl w).alloc (Nat.le_refl _) _⟩
  · have K1 : Hid (∀ w, Calls Tryz.prog 26 #[.string k] w fun e w' => e = .returned (.bool false) ∧ w' = w) := fun w => hk ▸ skey k hz w
    have HN : Hid (writeB (k, v, false) = false) := by show _ = _; unfold writeB; simp [hk, he, hs]
    have hs' : decide ((v.size : Int) ≤ 12) = true := by simp; omega
    clear hs hk
    go_enter Tryz.func49, Tryz.ntmps49
    go_wp2_with (go_at_call 26; refine (K1.out _).mono ?_; rintro e w2 ⟨rfl, rfl⟩)
    go_ret
    exact ⟨ret_bool HN.out.symm, (belowRefl w).alloc (Nat.le_refl _) _⟩
  · have K1 : Hid (∀ w, Calls Tryz.prog 26 #[.string k] w fun e w' => e = .returned (.bool false) ∧ w' = w) := fun w => hk ▸ skey k hz w
    have HN : Hid (writeB (k, v, false) = false) := by show _ = _; unfold writeB; simp [hk, he, hs]
    have hs' : decide ((v.size : Int) ≤ 12) = false := by simp; omega
    clear hs hk
    go_enter Tryz.func49, Tryz.ntmps49
    go_wp2_with (go_at_call 26; refine (K1.out _).mono ?_; rintro e w2 ⟨rfl, rfl⟩)
    go_ret
    exact ⟨ret_bool HN.out.symm, (belowRefl w).alloc (Nat.le_refl _) _⟩
  · have K1 : Hid (∀ w, Calls Tryz.prog 26 #[.string k] w fun e w' => e = .returned (.bool false) ∧ w' = w) := fun w => hk ▸ skey k hz w
    have HN : Hid (writeB (k, v, true) = false) := by show _ = _; unfold writeB; simp [hk, he, hs]
    have hs' : decide ((v.size : Int) ≤ 12) = true := by simp; omega
    clear hs hk
    go_enter Tryz.func49, Tryz.ntmps49
    go_wp2_with (go_at_call 26; refine (K1.out _).mono ?_; rintro e w2 ⟨rfl, rfl⟩)
    go_ret
    exact ⟨ret_bool HN.out.symm, (belowRefl w).alloc (Nat.le_refl _) _⟩
  · have K1 : Hid (∀ w, Calls Tryz.prog 26 #[.string k] w fun e w' => e = .returned (.bool false) ∧ w' = w) := fun w => hk ▸ skey k hz w
    have HN : Hid (writeB (k, v, true) = false) := by show _ = _; unfold writeB; simp [hk, he, hs]
    have hs' : decide ((v.size : Int) ≤ 12) = false := by simp; omega
    clear hs hk
    go_enter Tryz.func49, Tryz.ntmps49
    go_wp2_with (go_at_call 26; refine (K1.out _).mono ?_; rintro e w2 ⟨rfl, rfl⟩)
    go_ret
    exact ⟨ret_bool HN.out.symm, (belowRefl w).alloc (Nat.le_refl _) _⟩
  · have K1 : Hid (∀ w, Calls Tryz.prog 26 #[.string k] w fun e w' => e = .returned (.bool false) ∧ w' = w) := fun w => hk ▸ skey k hz w
    have HN : Hid (writeB (k, v, true) = false) := by show _ = _; unfold writeB; simp [hk, he, hs]
    have hs' : decide ((v.size : Int) ≤ 12) = true := by simp; omega
    clear hs hk
    go_enter Tryz.func49, Tryz.ntmps49
    go_wp2_with (go_at_call 26; refine (K1.out _).mono ?_; rintro e w2 ⟨rfl, rfl⟩)
    go_ret
    exact ⟨ret_bool HN.out.symm, (belowRefl w).alloc (Nat.le_refl _) _⟩
  · have K1 : Hid (∀ w, Calls Tryz.prog 26 #[.string k] w fun e w' => e = .returned (.bool false) ∧ w' = w) := fun w => hk ▸ skey k hz w
    have HN : Hid (writeB (k, v, true) = false) := by show _ = _; unfold writeB; simp [hk, he, hs]
    have hs' : decide ((v.size : Int) ≤ 12) = false := by simp; omega
    clear hs hk
    go_enter Tryz.func49, Tryz.ntmps49
    go_wp2_with (go_at_call 26; refine (K1.out _).mono ?_; rintro e w2 ⟨rfl, rfl⟩)
    go_ret
    exact ⟨ret_bool HN.out.symm, (belowRefl w).alloc (Nat.le_refl _) _⟩
  · have K1 : Hid (∀ w, Calls Tryz.prog 26 #[.string k] w fun e w' => e = .returned (.bool true) ∧ w' = w) := fun w => hk ▸ skey k hz w
    have HN : Hid (writeB (k, v, false) = true) := by show _ = _; unfold writeB; simp [hk, he, hs]
    have hs' : decide ((v.size : Int) ≤ 12) = true := by simp; omega
    clear hs hk
    go_enter Tryz.func49, Tryz.ntmps49
    go_wp2_with (go_at_call 26; refine (K1.out _).mono ?_; rintro e w2 ⟨rfl, rfl⟩)
    go_ret
    exact ⟨ret_bool HN.out.symm, (belowRefl w).alloc (Nat.le_refl _) _⟩
  · have K1 : Hid (∀ w, Calls Tryz.prog 26 #[.string k] w fun e w' => e = .returned (.bool true) ∧ w' = w) := fun w => hk ▸ skey k hz w
    have HN : Hid (writeB (k, v, false) = false) := by show _ = _; unfold writeB; simp [hk, he, hs]
    have hs' : decide ((v.size : Int) ≤ 12) = false := by simp; omega
    clear hs hk
    go_enter Tryz.func49, Tryz.ntmps49
    go_wp2_with (go_at_call 26; refine (K1.out _).mono ?_; rintro e w2 ⟨rfl, rfl⟩)
    go_ret
    exact ⟨ret_bool HN.out.symm, (belowRefl w).alloc (Nat.le_refl _) _⟩
  · have K1 : Hid (∀ w, Calls Tryz.prog 26 #[.string k] w fun e w' => e = .returned (.bool true) ∧ w' = w) := fun w => hk ▸ skey k hz w
    have HN : Hid (writeB (k, v, false) = true) := by show _ = _; unfold writeB; simp [hk, he, hs]
    have hs' : decide ((v.size : Int) ≤ 12) = true := by simp; omega
    clear hs hk
    go_enter Tryz.func49, Tryz.ntmps49
    go_wp2_with (go_at_call 26; refine (K1.out _).mono ?_; rintro e w2 ⟨rfl, rfl⟩)
    go_ret
    exact ⟨ret_bool HN.out.symm, (belowRefl w).alloc (Nat.le_refl _) _⟩
  · have K1 : Hid (∀ w, Calls Tryz.prog 26 #[.string k] w fun e w' => e = .returned (.bool true) ∧ w' = w) := fun w => hk ▸ skey k hz w
    have HN : Hid (writeB (k, v, false) = false) := by show _ = _; unfold writeB; simp [hk, he, hs]
    have hs' : decide ((v.size : Int) ≤ 12) = false := by simp; omega
    clear hs hk
    go_enter Tryz.func49, Tryz.ntmps49
    go_wp2_with (go_at_call 26; refine (K1.out _).mono ?_; rintro e w2 ⟨rfl, rfl⟩)
    go_ret
    exact ⟨ret_bool HN.out.symm, (belowRefl w).alloc (Nat.le_refl _) _⟩
  · have K1 : Hid (∀ w, Calls Tryz.prog 26 #[.string k] w fun e w' => e = .returned (.bool true) ∧ w' = w) := fun w => hk ▸ skey k hz w
    have HN : Hid (writeB (k, v, true) = false) := by show _ = _; unfold writeB; simp [hk, he, hs]
    have hs' : decide ((v.size : Int) ≤ 12) = true := by simp; omega
    clear hs hk
    go_enter Tryz.func49, Tryz.ntmps49
    go_wp2_with (go_at_call 26; refine (K1.out _).mono ?_; rintro e w2 ⟨rfl, rfl⟩)
    go_ret
    exact ⟨ret_bool HN.out.symm, (belowRefl w).alloc (Nat.le_refl _) _⟩
  · have K1 : Hid (∀ w, Calls Tryz.prog 26 #[.string k] w fun e w' => e = .returned (.bool true) ∧ w' = w) := fun w => hk ▸ skey k hz w
    have HN : Hid (writeB (k, v, true) = false) := by show _ = _; unfold writeB; simp [hk, he, hs]
    have hs' : decide ((v.size : Int) ≤ 12) = false := by simp; omega
    clear hs hk
    go_enter Tryz.func49, Tryz.ntmps49
    go_wp2_with (go_at_call 26; refine (K1.out _).mono ?_; rintro e w2 ⟨rfl, rfl⟩)
    go_ret
    exact ⟨ret_bool HN.out.symm, (belowRefl w).alloc (Nat.le_refl _) _⟩
  · have K1 : Hid (∀ w, Calls Tryz.prog 26 #[.string k] w fun e w' => e = .returned (.bool true) ∧ w' = w) := fun w => hk ▸ skey k hz w
    have HN : Hid (writeB (k, v, true) = true) := by show _ = _; unfold writeB; simp [hk, he, hs]
    have hs' : decide ((v.size : Int) ≤ 12) = true := by simp; omega
    clear hs hk
    go_enter Tryz.func49, Tryz.ntmps49
    go_wp2_with (go_at_call 26; refine (K1.out _).mono ?_; rintro e w2 ⟨rfl, rfl⟩)
    go_ret
    exact ⟨ret_bool HN.out.symm, (belowRefl w).alloc (Nat.le_refl _) _⟩
  · have K1 : Hid (∀ w, Calls Tryz.prog 26 #[.string k] w fun e w' => e = .returned (.bool true) ∧ w' = w) := fun w => hk ▸ skey k hz w
    have HN : Hid (writeB (k, v, true) = false) := by show _ = _; unfold writeB; simp [hk, he, hs]
    have hs' : decide ((v.size : Int) ≤ 12) = false := by simp; omega
    clear hs hk
    go_enter Tryz.func49, Tryz.ntmps49
    go_wp2_with (go_at_call 26; refine (K1.out _).mono ?_; rintro e w2 ⟨rfl, rfl⟩)
    go_ret
    exact ⟨ret_bool HN.out.symm, (belowRefl w).alloc (Nat.le_refl _) _⟩
end Go.Proofs.YtnefncmkhgkdnaaGreat
