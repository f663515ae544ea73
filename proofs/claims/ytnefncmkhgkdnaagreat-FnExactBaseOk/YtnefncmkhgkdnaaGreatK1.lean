/- What KeyOk, InRange, RangeOk and WriteOk return, on both sides. -/
import Derived.Test.YtnefncmkhgkdnaaGreatMath
import Derived.WalkSpells
import Derived.WalkLawsBesides
import Derived.Deep.QuietTactic
import Derived.BigQuiet
import Derived.Deep.RegionHeld3
import Derived.Deep.DrawnRows
namespace Go.Proofs.YtnefncmkhgkdnaaGreat
open Go.RowKit
open KM
attribute [local go_sem ↓] Go.wp_at_zero Go.wp_at_succ

theorem ret_bool {a b : Bool} (h : a = b) : Ending.returned (.bool a) = .returned (.bool b) := by rw [h]
theorem belowRefl (w : World) : Below w.heap.size w w := Below.refl _ _
theorem bcell {W w1 : World} (hb : Below W.heap.size W w1) : (∀ b o, b < W.heap.size → w1.cell? ⟨b, o, none⟩ = W.cell? ⟨b, o, none⟩) ∧ (∀ b o, b < W.heap.size → w1.frozen? ⟨b, o, none⟩ = W.frozen? ⟨b, o, none⟩) :=
  ⟨fun b o h => hb.cell (p := ⟨b, o, none⟩) h, fun b o h => hb.frozen (p := ⟨b, o, none⟩) h⟩
theorem below_drewN {B : Nat} {a w : World} (h : Below B a w) (n : Nat) : Below B a (w.drewN n) := h.trans ⟨rfl, rfl, rfl, Nat.le_refl _, fun _ _ => rfl⟩

set_option maxHeartbeats 400000 in
theorem in57 (x lo hi : Int) (b : Bool) (hb : decide (lo ≤ x ∧ x ≤ hi) = b) (w : World) :
    Calls Tryz.prog 12 #[.int .i64 x, .int .i64 lo, .int .i64 hi] w fun e w' => e = .returned (.bool b) ∧ w' = w := by
  have HB : Hid (decide (lo ≤ x ∧ x ≤ hi) = b) := hb
  clear hb
  by_cases h0 : lo ≤ x
  · by_cases h1 : x ≤ hi
    · go_enter Tryz.func12, Tryz.ntmps12
      go_wp2
      go_ret
      exact ⟨ret_bool (by rw [← HB.out]; simp [h0, h1]), rfl⟩
    · have h1' : decide (x ≤ hi) = false := by simpa using h1
      go_enter Tryz.func12, Tryz.ntmps12
      go_wp2
      go_ret
      exact ⟨ret_bool (by rw [← HB.out]; simp [h1]), rfl⟩
  · have h0' : decide (lo ≤ x) = false := by simpa using h0
    go_enter Tryz.func12, Tryz.ntmps12
    go_wp2
    go_ret
    exact ⟨ret_bool (by rw [← HB.out]; simp; omega), rfl⟩

set_option maxRecDepth 100000 in
set_option maxHeartbeats 1000000 in
theorem ikey (s : ByteArray) (w : World) : Calls Tryz.prog 76 #[.string s] w fun e w' => e = .returned (.bool (keyB s)) ∧ w' = w := by
  by_cases h1 : s.size < 1
  · have h1' : (s.size : Int) < 1 := by omega
    have HN : Hid (keyB s = false) := by show _ = _; unfold keyB; rw [show decide (1 ≤ s.size ∧ s.size ≤ 3) = false by simp; omega]; rfl
    clear h1
    go_enter Tryz.func76, Tryz.ntmps76
    go_wp2
    go_ret
    exact ⟨ret_bool HN.out.symm, rfl⟩
  by_cases h3 : 3 < s.size
  · have h1' : decide ((s.size : Int) < 1) = false := by simp; omega
    have h3' : (3 : Int) < s.size := by omega
    have HN : Hid (keyB s = false) := by show _ = _; unfold keyB; rw [show decide (1 ≤ s.size ∧ s.size ≤ 3) = false by simp; omega]; rfl
    clear h1 h3
    go_enter Tryz.func76, Tryz.ntmps76
    go_wp2
    go_ret
    exact ⟨ret_bool HN.out.symm, rfl⟩
  have h1' : decide ((s.size : Int) < 1) = false := by simp; omega
  have h3' : decide ((3 : Int) < s.size) = false := by simp; omega
  have HS : Hid (decide (1 ≤ s.size ∧ s.size ≤ 3) = true) := by show _ = _; simp; omega
  have h33 : s.size ≤ 3 := by omega
  clear h1 h3
  go_enter Tryz.func76, Tryz.ntmps76
  go_wp2
  go_loop [3] (fun t => ∃ k : Nat, k ≤ s.size ∧ t = .int .i64 k ∧ Hid (lets (s.data.toList.take k) = true)) (fun t => s.size - (intOf t).toNat)
  case atStart => exact ⟨0, Nat.zero_le _, rfl, rfl⟩
  case round =>
    obtain ⟨k, hk, rfl, HP⟩ := hrel
    by_cases hlt : k < s.size
    · have hlt' : (k : Int) < (s.size : Int) := by omega
      have h255 : (s[k].toNat : Int) ≤ 255 := by have := s[k].toNat_lt; omega
      by_cases h1 : s[k].toNat < 97
      · have h1' : (s[k].toNat : Int) < 97 := by omega
        have HN : Hid (lets s.data.toList = false) := lets_fall s k hlt (by omega)
        go_wp2
        go_ret
        exact ⟨ret_bool (by unfold keyB; rw [HN.out, Bool.and_false]), rfl⟩
      by_cases h2 : 122 < s[k].toNat
      · have h1' : decide ((s[k].toNat : Int) < 97) = false := by simp; omega
        have h2' : (122 : Int) < (s[k].toNat : Int) := by omega
        have HN : Hid (lets s.data.toList = false) := lets_fall s k hlt (by omega)
        go_wp2
        go_ret
        exact ⟨ret_bool (by unfold keyB; rw [HN.out, Bool.and_false]), rfl⟩
      · have h1' : decide ((s[k].toNat : Int) < 97) = false := by simp; omega
        have h2' : decide ((122 : Int) < (s[k].toNat : Int)) = false := by simp; omega
        have HP2 : Hid (lets (s.data.toList.take (k + 1)) = true) := lets_more s k hlt HP.out (by omega) (by omega)
        go_wp2
        go_round
        case rel => exact ⟨k + 1, by omega, by go_num, HP2⟩
        case measure => simp [intOf]; omega
    · have hd : ¬ (k : Int) < (s.size : Int) := by omega
      have HT : Hid (lets s.data.toList = true) := lets_whole s k hlt HP.out
      go_wp2
      go_ret
      exact ⟨ret_bool (by unfold keyB; rw [HT.out, HS.out]; rfl), rfl⟩

set_option maxRecDepth 100000 in
set_option maxHeartbeats 1000000 in
theorem skey (s : ByteArray) (hz : s.size ≤ 1048576) (w : World) : Calls Tryz.prog 26 #[.string s] w fun e w' => e = .returned (.bool (keyB s)) ∧ w' = w := by
  go_enter Tryz.func26, Tryz.ntmps26
  go_wp2
  go_loop [3] (fun t => ∃ k : Nat, k ≤ s.size ∧ t = .int .i64 k ∧ Hid (lets (s.data.toList.take k) = true)) (fun t => s.size - (intOf t).toNat)
  case atStart => exact ⟨0, Nat.zero_le _, rfl, rfl⟩
  case round =>
    obtain ⟨k, hk, rfl, HP⟩ := hrel
    by_cases hlt : k < s.size
    · have hlt' : (k : Int) < (s.size : Int) := by omega
      have h255 : (s[k].toNat : Int) ≤ 255 := by have := s[k].toNat_lt; omega
      by_cases h1 : s[k].toNat < 97
      · have h1' : (s[k].toNat : Int) < 97 := by omega
        have HN : Hid (lets s.data.toList = false) := lets_fall s k hlt (by omega)
        go_wp2
        go_ret
        exact ⟨ret_bool (by unfold keyB; rw [HN.out, Bool.and_false]), rfl⟩
      by_cases h2 : 122 < s[k].toNat
      · have h1' : decide ((s[k].toNat : Int) < 97) = false := by simp; omega
        have h2' : (122 : Int) < (s[k].toNat : Int) := by omega
        have HN : Hid (lets s.data.toList = false) := lets_fall s k hlt (by omega)
        go_wp2
        go_ret
        exact ⟨ret_bool (by unfold keyB; rw [HN.out, Bool.and_false]), rfl⟩
      · have h1' : decide ((s[k].toNat : Int) < 97) = false := by simp; omega
        have h2' : decide ((122 : Int) < (s[k].toNat : Int)) = false := by simp; omega
        have HP2 : Hid (lets (s.data.toList.take (k + 1)) = true) := lets_more s k hlt HP.out (by omega) (by omega)
        go_wp2
        go_round
        case rel => exact ⟨k + 1, by omega, by go_num, HP2⟩
        case measure => simp [intOf]; omega
    · have hd : ¬ (k : Int) < (s.size : Int) := by omega
      have HT : Hid (lets s.data.toList = true) := lets_whole s k hlt HP.out
      have HI : Hid (decide ((1 : Int) ≤ (s.size : Int) ∧ (s.size : Int) ≤ 3) = decide (1 ≤ s.size ∧ s.size ≤ 3)) := by show _ = _; rw [decide_eq_decide]; omega
      go_wp2_with (go_at_call 12; refine (in57 _ _ _ _ HI.out _).mono ?_; rintro e w2 ⟨rfl, rfl⟩)
      go_ret
      exact ⟨ret_bool (by unfold keyB; rw [HT.out, Bool.and_true]; simp), rfl⟩

set_option maxRecDepth 100000 in
set_option maxHeartbeats 1000000 in
theorem iwrite (k v : ByteArray) (g : Bool) (w : World) : Calls Tryz.prog 52 #[.agg #[.string k, .string v, .bool g]] w fun e w' => e = .returned (.bool (writeB (k, v, g))) ∧ Below w.heap.size w w' := by
  cases hk : keyB k <;> cases g <;> cases he : v.toList.isEmpty <;> by_cases hs : v.size ≤ 12
  · have K1 : Hid (∀ w, Calls Tryz.prog 76 #[.string k] w fun e w' => e = .returned (.bool false) ∧ w' = w) := fun w => hk ▸ ikey k w
    have HN : Hid (writeB (k, v, false) = false) := by show _ = _; unfold writeB; simp [hk, he, hs]
    have he' : (!v.toList.isEmpty) = true := by rw [he]; rfl
    have hs' : decide ((v.size : Int) ≤ 12) = true := by simp; omega
    clear he hs hk
    go_enter Tryz.func52, Tryz.ntmps52
    go_wp2_with (go_at_call 76; refine (K1.out _).mono ?_; rintro e w2 ⟨rfl, rfl⟩)
    go_ret
    exact ⟨ret_bool HN.out.symm, (belowRefl w).alloc (Nat.le_refl _) _⟩
  · have K1 : Hid (∀ w, Calls Tryz.prog 76 #[.string k] w fun e w' => e = .returned (.bool false) ∧ w' = w) := fun w => hk ▸ ikey k w
    have HN : Hid (writeB (k, v, false) = false) := by show _ = _; unfold writeB; simp [hk, he, hs]
    have he' : (!v.toList.isEmpty) = true := by rw [he]; rfl
    have hs' : decide ((v.size : Int) ≤ 12) = false := by simp; omega
    clear he hs hk
    go_enter Tryz.func52, Tryz.ntmps52
    go_wp2_with (go_at_call 76; refine (K1.out _).mono ?_; rintro e w2 ⟨rfl, rfl⟩)
    go_ret
    exact ⟨ret_bool HN.out.symm, (belowRefl w).alloc (Nat.le_refl _) _⟩
  · have K1 : Hid (∀ w, Calls Tryz.prog 76 #[.string k] w fun e w' => e = .returned (.bool false) ∧ w' = w) := fun w => hk ▸ ikey k w
    have HN : Hid (writeB (k, v, false) = false) := by show _ = _; unfold writeB; simp [hk, he, hs]
    have he' : (!v.toList.isEmpty) = false := by rw [he]; rfl
    have hs' : decide ((v.size : Int) ≤ 12) = true := by simp; omega
    clear he hs hk
    go_enter Tryz.func52, Tryz.ntmps52
    go_wp2_with (go_at_call 76; refine (K1.out _).mono ?_; rintro e w2 ⟨rfl, rfl⟩)
    go_ret
    exact ⟨ret_bool HN.out.symm, (belowRefl w).alloc (Nat.le_refl _) _⟩
  · have K1 : Hid (∀ w, Calls Tryz.prog 76 #[.string k] w fun e w' => e = .returned (.bool false) ∧ w' = w) := fun w => hk ▸ ikey k w
    have HN : Hid (writeB (k, v, false) = false) := by show _ = _; unfold writeB; simp [hk, he, hs]
    have he' : (!v.toList.isEmpty) = false := by rw [he]; rfl
    have hs' : decide ((v.size : Int) ≤ 12) = false := by simp; omega
    clear he hs hk
    go_enter Tryz.func52, Tryz.ntmps52
    go_wp2_with (go_at_call 76; refine (K1.out _).mono ?_; rintro e w2 ⟨rfl, rfl⟩)
    go_ret
    exact ⟨ret_bool HN.out.symm, (belowRefl w).alloc (Nat.le_refl _) _⟩
  · have K1 : Hid (∀ w, Calls Tryz.prog 76 #[.string k] w fun e w' => e = .returned (.bool false) ∧ w' = w) := fun w => hk ▸ ikey k w
    have HN : Hid (writeB (k, v, true) = false) := by show _ = _; unfold writeB; simp [hk, he, hs]
    have he' : (!v.toList.isEmpty) = true := by rw [he]; rfl
    have hs' : decide ((v.size : Int) ≤ 12) = true := by simp; omega
    clear he hs hk
    go_enter Tryz.func52, Tryz.ntmps52
    go_wp2_with (go_at_call 76; refine (K1.out _).mono ?_; rintro e w2 ⟨rfl, rfl⟩)
    go_ret
    exact ⟨ret_bool HN.out.symm, (belowRefl w).alloc (Nat.le_refl _) _⟩
  · have K1 : Hid (∀ w, Calls Tryz.prog 76 #[.string k] w fun e w' => e = .returned (.bool false) ∧ w' = w) := fun w => hk ▸ ikey k w
    have HN : Hid (writeB (k, v, true) = false) := by show _ = _; unfold writeB; simp [hk, he, hs]
    have he' : (!v.toList.isEmpty) = true := by rw [he]; rfl
    have hs' : decide ((v.size : Int) ≤ 12) = false := by simp; omega
    clear he hs hk
    go_enter Tryz.func52, Tryz.ntmps52
    go_wp2_with (go_at_call 76; refine (K1.out _).mono ?_; rintro e w2 ⟨rfl, rfl⟩)
    go_ret
    exact ⟨ret_bool HN.out.symm, (belowRefl w).alloc (Nat.le_refl _) _⟩
  · have K1 : Hid (∀ w, Calls Tryz.prog 76 #[.string k] w fun e w' => e = .returned (.bool false) ∧ w' = w) := fun w => hk ▸ ikey k w
    have HN : Hid (writeB (k, v, true) = false) := by show _ = _; unfold writeB; simp [hk, he, hs]
    have he' : (!v.toList.isEmpty) = false := by rw [he]; rfl
    have hs' : decide ((v.size : Int) ≤ 12) = true := by simp; omega
    clear he hs hk
    go_enter Tryz.func52, Tryz.ntmps52
    go_wp2_with (go_at_call 76; refine (K1.out _).mono ?_; rintro e w2 ⟨rfl, rfl⟩)
    go_ret
    exact ⟨ret_bool HN.out.symm, (belowRefl w).alloc (Nat.le_refl _) _⟩
  · have K1 : Hid (∀ w, Calls Tryz.prog 76 #[.string k] w fun e w' => e = .returned (.bool false) ∧ w' = w) := fun w => hk ▸ ikey k w
    have HN : Hid (writeB (k, v, true) = false) := by show _ = _; unfold writeB; simp [hk, he, hs]
    have he' : (!v.toList.isEmpty) = false := by rw [he]; rfl
    have hs' : decide ((v.size : Int) ≤ 12) = false := by simp; omega
    clear he hs hk
    go_enter Tryz.func52, Tryz.ntmps52
    go_wp2_with (go_at_call 76; refine (K1.out _).mono ?_; rintro e w2 ⟨rfl, rfl⟩)
    go_ret
    exact ⟨ret_bool HN.out.symm, (belowRefl w).alloc (Nat.le_refl _) _⟩
  · have K1 : Hid (∀ w, Calls Tryz.prog 76 #[.string k] w fun e w' => e = .returned (.bool true) ∧ w' = w) := fun w => hk ▸ ikey k w
    have HN : Hid (writeB (k, v, false) = true) := by show _ = _; unfold writeB; simp [hk, he, hs]
    have he' : (!v.toList.isEmpty) = true := by rw [he]; rfl
    have hs' : decide ((v.size : Int) ≤ 12) = true := by simp; omega
    clear he hs hk
    go_enter Tryz.func52, Tryz.ntmps52
    go_wp2_with (go_at_call 76; refine (K1.out _).mono ?_; rintro e w2 ⟨rfl, rfl⟩)
    go_ret
    exact ⟨ret_bool HN.out.symm, (belowRefl w).alloc (Nat.le_refl _) _⟩
  · have K1 : Hid (∀ w, Calls Tryz.prog 76 #[.string k] w fun e w' => e = .returned (.bool true) ∧ w' = w) := fun w => hk ▸ ikey k w
    have HN : Hid (writeB (k, v, false) = false) := by show _ = _; unfold writeB; simp [hk, he, hs]
    have he' : (!v.toList.isEmpty) = true := by rw [he]; rfl
    have hs' : decide ((v.size : Int) ≤ 12) = false := by simp; omega
    clear he hs hk
    go_enter Tryz.func52, Tryz.ntmps52
    go_wp2_with (go_at_call 76; refine (K1.out _).mono ?_; rintro e w2 ⟨rfl, rfl⟩)
    go_ret
    exact ⟨ret_bool HN.out.symm, (belowRefl w).alloc (Nat.le_refl _) _⟩
  · have K1 : Hid (∀ w, Calls Tryz.prog 76 #[.string k] w fun e w' => e = .returned (.bool true) ∧ w' = w) := fun w => hk ▸ ikey k w
    have HN : Hid (writeB (k, v, false) = true) := by show _ = _; unfold writeB; simp [hk, he, hs]
    have he' : (!v.toList.isEmpty) = false := by rw [he]; rfl
    have hs' : decide ((v.size : Int) ≤ 12) = true := by simp; omega
    clear he hs hk
    go_enter Tryz.func52, Tryz.ntmps52
    go_wp2_with (go_at_call 76; refine (K1.out _).mono ?_; rintro e w2 ⟨rfl, rfl⟩)
    go_ret
    exact ⟨ret_bool HN.out.symm, (belowRefl w).alloc (Nat.le_refl _) _⟩
  · have K1 : Hid (∀ w, Calls Tryz.prog 76 #[.string k] w fun e w' => e = .returned (.bool true) ∧ w' = w) := fun w => hk ▸ ikey k w
    have HN : Hid (writeB (k, v, false) = false) := by show _ = _; unfold writeB; simp [hk, he, hs]
    have he' : (!v.toList.isEmpty) = false := by rw [he]; rfl
    have hs' : decide ((v.size : Int) ≤ 12) = false := by simp; omega
    clear he hs hk
    go_enter Tryz.func52, Tryz.ntmps52
    go_wp2_with (go_at_call 76; refine (K1.out _).mono ?_; rintro e w2 ⟨rfl, rfl⟩)
    go_ret
    exact ⟨ret_bool HN.out.symm, (belowRefl w).alloc (Nat.le_refl _) _⟩
  · have K1 : Hid (∀ w, Calls Tryz.prog 76 #[.string k] w fun e w' => e = .returned (.bool true) ∧ w' = w) := fun w => hk ▸ ikey k w
    have HN : Hid (writeB (k, v, true) = false) := by show _ = _; unfold writeB; simp [hk, he, hs]
    have he' : (!v.toList.isEmpty) = true := by rw [he]; rfl
    have hs' : decide ((v.size : Int) ≤ 12) = true := by simp; omega
    clear he hs hk
    go_enter Tryz.func52, Tryz.ntmps52
    go_wp2_with (go_at_call 76; refine (K1.out _).mono ?_; rintro e w2 ⟨rfl, rfl⟩)
    go_ret
    exact ⟨ret_bool HN.out.symm, (belowRefl w).alloc (Nat.le_refl _) _⟩
  · have K1 : Hid (∀ w, Calls Tryz.prog 76 #[.string k] w fun e w' => e = .returned (.bool true) ∧ w' = w) := fun w => hk ▸ ikey k w
    have HN : Hid (writeB (k, v, true) = false) := by show _ = _; unfold writeB; simp [hk, he, hs]
    have he' : (!v.toList.isEmpty) = true := by rw [he]; rfl
    have hs' : decide ((v.size : Int) ≤ 12) = false := by simp; omega
    clear he hs hk
    go_enter Tryz.func52, Tryz.ntmps52
    go_wp2_with (go_at_call 76; refine (K1.out _).mono ?_; rintro e w2 ⟨rfl, rfl⟩)
    go_ret
    exact ⟨ret_bool HN.out.symm, (belowRefl w).alloc (Nat.le_refl _) _⟩
  · have K1 : Hid (∀ w, Calls Tryz.prog 76 #[.string k] w fun e w' => e = .returned (.bool true) ∧ w' = w) := fun w => hk ▸ ikey k w
    have HN : Hid (writeB (k, v, true) = true) := by show _ = _; unfold writeB; simp [hk, he, hs]
    have he' : (!v.toList.isEmpty) = false := by rw [he]; rfl
    have hs' : decide ((v.size : Int) ≤ 12) = true := by simp; omega
    clear he hs hk
    go_enter Tryz.func52, Tryz.ntmps52
    go_wp2_with (go_at_call 76; refine (K1.out _).mono ?_; rintro e w2 ⟨rfl, rfl⟩)
    go_ret
    exact ⟨ret_bool HN.out.symm, (belowRefl w).alloc (Nat.le_refl _) _⟩
  · have K1 : Hid (∀ w, Calls Tryz.prog 76 #[.string k] w fun e w' => e = .returned (.bool true) ∧ w' = w) := fun w => hk ▸ ikey k w
    have HN : Hid (writeB (k, v, true) = false) := by show _ = _; unfold writeB; simp [hk, he, hs]
    have he' : (!v.toList.isEmpty) = false := by rw [he]; rfl
    have hs' : decide ((v.size : Int) ≤ 12) = false := by simp; omega
    clear he hs hk
    go_enter Tryz.func52, Tryz.ntmps52
    go_wp2_with (go_at_call 76; refine (K1.out _).mono ?_; rintro e w2 ⟨rfl, rfl⟩)
    go_ret
    exact ⟨ret_bool HN.out.symm, (belowRefl w).alloc (Nat.le_refl _) _⟩

end Go.Proofs.YtnefncmkhgkdnaaGreat
