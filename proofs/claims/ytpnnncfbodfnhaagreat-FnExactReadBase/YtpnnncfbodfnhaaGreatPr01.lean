/- Keys, ranges and writes: no Go. -/
import Derived.Test.YtpnnncfbodfnhaaGreatProg
import Derived.WalkKit
import Derived.WalkSpells
import Derived.WalkLawsBesides
import Derived.Deep.QuietTactic
import Derived.BigQuiet
import Derived.Deep.RegionHeld3
import Derived.Deep.DrawnRows
import Derived.Deep.AppendLies
import Derived.Shelf.Small.Strs
import Derived.Shelf.Small.Wraps
import Derived.Shelf.LaysM
import Derived.Shelf.Strconv.Clone
namespace Go.Proofs.YtpnnncfbodfnhaaGreat
namespace KM

theorem less_irrefl : ∀ a : List UInt8, Op.bytesLess a a = false
 | [] => rfl
 | x :: a => by simp [Op.bytesLess, less_irrefl a]
theorem less_total : ∀ a b : List UInt8, Op.bytesLess a b = false → a ≠ b → Op.bytesLess b a = true
 | [], [], _, h => absurd rfl h
 | [], _ :: _, h, _ => by simp [Op.bytesLess] at h
 | _ :: _, [], _, _ => by simp [Op.bytesLess]
 | x :: a, y :: b, h, hn => by
  simp only [Op.bytesLess, Bool.or_eq_false_iff, decide_eq_false_iff_not, Bool.or_eq_true, decide_eq_true_eq, Bool.and_eq_true, beq_iff_eq] at h ⊢
  by_cases e : x = y
  ·subst e
   refine Or.inr ⟨rfl, less_total a b ?_ (fun e => hn (by rw [e]))⟩
   simpa using h.2
  ·refine Or.inl ?_
   have h1 := h.1
   rcases Nat.lt_trichotomy x.toNat y.toNat with h2 | h2 | h2
   ·exact absurd (UInt8.lt_iff_toNat_lt.2 h2) h1
   ·exact absurd (UInt8.toNat_inj.1 h2) e
   ·exact UInt8.lt_iff_toNat_lt.2 h2
theorem less_asymm : ∀ a b : List UInt8, Op.bytesLess a b = true → Op.bytesLess b a = false
 | [], [], h => by simp [Op.bytesLess] at h
 | [], _ :: _, _ => by simp [Op.bytesLess]
 | _ :: _, [], h => by simp [Op.bytesLess] at h
 | x :: a, y :: b, h => by
  simp only [Op.bytesLess, Bool.or_eq_true, decide_eq_true_eq, Bool.and_eq_true, beq_iff_eq] at h
  simp only [Op.bytesLess, Bool.or_eq_false_iff, decide_eq_false_iff_not, Bool.and_eq_false_iff, beq_eq_false_iff_ne]
  rcases h with h | ⟨rfl, h⟩
  ·have h' := UInt8.lt_iff_toNat_lt.1 h
   refine ⟨fun h2 => ?_, Or.inl (fun e => ?_)⟩
   ·have := UInt8.lt_iff_toNat_lt.1 h2; omega
   ·subst e; omega
  ·exact ⟨fun h2 => by have := UInt8.lt_iff_toNat_lt.1 h2; omega, Or.inr (less_asymm a b h)⟩

def le (a b : ByteArray) : Bool := Op.bytesLess a.toList b.toList || a.toList == b.toList
def lt (a b : ByteArray) : Bool := Op.bytesLess a.toList b.toList

theorem not_lt (a b : ByteArray) : (!Op.bytesLess a.toList b.toList) = le b a := by
 unfold le
 cases h : Op.bytesLess a.toList b.toList
 ·by_cases e : a.toList = b.toList
  ·simp [e]
  ·simp [less_total _ _ h e]
 ·have h2 := less_asymm _ _ h
  have h3 : (b.toList == a.toList) = false := by
   rw [beq_eq_false_iff_ne]
   intro e
   rw [e, less_irrefl] at h
   cases h
  simp [h2, h3]

def lets (l : List UInt8) : Bool := l.all fun b => decide (97 ≤ b.toNat ∧ b.toNat ≤ 122)
def keyB (s : ByteArray) : Bool := decide (1 ≤ s.size ∧ s.size ≤ 3) && lets s.data.toList

theorem take_snoc (s : ByteArray) (k : Nat) (h : k < s.size) : s.data.toList.take (k + 1) = s.data.toList.take k ++ [s[k]] := by
 have hk : k < s.data.toList.length := by simp only [Array.length_toList]; exact h
 rw [List.take_succ_eq_append_getElem hk]
 simp only [Array.getElem_toList]
 rfl
theorem lets_more (s : ByteArray) (k : Nat) (h : k < s.size) (hp : lets (s.data.toList.take k) = true) (h1 : 97 ≤ s[k].toNat) (h2 : s[k].toNat ≤ 122) : lets (s.data.toList.take (k + 1)) = true := by
 rw [take_snoc s k h]
 simp only [lets, List.all_append, Bool.and_eq_true] at *
 exact ⟨hp, by simp [h1, h2]⟩
theorem lets_fall (s : ByteArray) (k : Nat) (h : k < s.size) (hv : ¬ (97 ≤ s[k].toNat ∧ s[k].toNat ≤ 122)) : lets s.data.toList = false := by
 cases hc : lets s.data.toList with
 | false => rfl
 | true =>
  exfalso
  simp only [lets, List.all_eq_true] at hc
  have := hc s[k] (by rw [show s[k] = s.data[k] from rfl]; simp)
  simp at this
  exact hv this
theorem lets_whole (s : ByteArray) (k : Nat) (h : ¬ k < s.size) (hp : lets (s.data.toList.take k) = true) : lets s.data.toList = true := by
 rw [List.take_of_length_le (by simp only [Array.length_toList]; show s.size ≤ k; omega)] at hp
 exact hp

abbrev Rg := ByteArray × ByteArray
def rangeB (r : Rg) : Bool := keyB r.1 && keyB r.2 && le r.1 r.2
abbrev Wt := ByteArray × ByteArray × Bool
def writeB (x : Wt) : Bool := keyB x.1 && decide (x.2.1.size ≤ 12) && (!x.2.2 || x.2.1.toList.isEmpty)

def writesB (xs : List Wt) : Bool := decide (xs.length ≤ 8) && decide (∀ j (h : j < xs.length), writeB xs[j] = true ∧ ∀ (_ : 0 < j), lt (xs[j - 1]'(by omega)).1 xs[j].1 = true)

end KM
end Go.Proofs.YtpnnncfbodfnhaaGreat

namespace Go.Proofs.YtpnnncfbodfnhaaGreat
open Go.RowKit
open KM
attribute [local go_sem ↓] Go.wp_at_zero Go.wp_at_succ

theorem ret_bool {a b : Bool} (h : a = b) : Ending.returned (.bool a) = .returned (.bool b) := by rw [h]
theorem belowRefl (w : World) : Below w.heap.size w w := Below.refl _ _
theorem below_drewN {B : Nat} {a w : World} (h : Below B a w) (n : Nat) : Below B a (w.drewN n) := h.trans ⟨rfl, rfl, rfl, Nat.le_refl _, fun _ _ => rfl⟩

set_option maxHeartbeats 400000 in
theorem in57 (x lo hi : Int) (b : Bool) (hb : decide (lo ≤ x ∧ x ≤ hi) = b) (w : World) :
  Calls Tryz.prog 25 #[.int .i64 x, .int .i64 lo, .int .i64 hi] w fun e w' => e = .returned (.bool b) ∧ w' = w := by
 have HB : Hid (decide (lo ≤ x ∧ x ≤ hi) = b) := hb
 clear hb
 by_cases h0 : lo ≤ x
 ·by_cases h1 : x ≤ hi
  ·go_enter Tryz.func25, Tryz.ntmps25
   go_wp2
   go_ret
   exact ⟨ret_bool (by rw [← HB.out]; simp [h0, h1]), rfl⟩
  ·have h1' : decide (x ≤ hi) = false := by simpa using h1
   go_enter Tryz.func25, Tryz.ntmps25
   go_wp2
   go_ret
   exact ⟨ret_bool (by rw [← HB.out]; simp [h1]), rfl⟩
 ·have h0' : decide (lo ≤ x) = false := by simpa using h0
  go_enter Tryz.func25, Tryz.ntmps25
  go_wp2
  go_ret
  exact ⟨ret_bool (by rw [← HB.out]; simp; omega), rfl⟩

set_option maxRecDepth 100000 in
set_option maxHeartbeats 1000000 in
theorem ikey (s : ByteArray) (w : World) : Calls Tryz.prog 213 #[.string s] w fun e w' => e = .returned (.bool (keyB s)) ∧ w' = w := by
 by_cases h1 : s.size < 1
 ·have h1' : (s.size : Int) < 1 := by omega
  have HN : Hid (keyB s = false) := by show _ = _; unfold keyB; rw [show decide (1 ≤ s.size ∧ s.size ≤ 3) = false by simp; omega]; rfl
  clear h1
  go_enter Tryz.func213, Tryz.ntmps213
  go_wp2
  go_ret
  exact ⟨ret_bool HN.out.symm, rfl⟩
 by_cases h3 : 3 < s.size
 ·have h1' : decide ((s.size : Int) < 1) = false := by simp; omega
  have h3' : (3 : Int) < s.size := by omega
  have HN : Hid (keyB s = false) := by show _ = _; unfold keyB; rw [show decide (1 ≤ s.size ∧ s.size ≤ 3) = false by simp; omega]; rfl
  clear h1 h3
  go_enter Tryz.func213, Tryz.ntmps213
  go_wp2
  go_ret
  exact ⟨ret_bool HN.out.symm, rfl⟩
 have h1' : decide ((s.size : Int) < 1) = false := by simp; omega
 have h3' : decide ((3 : Int) < s.size) = false := by simp; omega
 have HS : Hid (decide (1 ≤ s.size ∧ s.size ≤ 3) = true) := by show _ = _; simp; omega
 have h33 : s.size ≤ 3 := by omega
 clear h1 h3
 go_enter Tryz.func213, Tryz.ntmps213
 go_wp2
 go_loop [3] (fun t => ∃ k : Nat, k ≤ s.size ∧ t = .int .i64 k ∧ Hid (lets (s.data.toList.take k) = true)) (fun t => s.size - (intOf t).toNat)
 case atStart => exact ⟨0, Nat.zero_le _, rfl, rfl⟩
 case round =>
  obtain ⟨k, hk, rfl, HP⟩ := hrel
  by_cases hlt : k < s.size
  ·have hlt' : (k : Int) < (s.size : Int) := by omega
   have h255 : (s[k].toNat : Int) ≤ 255 := by have := s[k].toNat_lt; omega
   by_cases h1 : s[k].toNat < 97
   ·have h1' : (s[k].toNat : Int) < 97 := by omega
    have HN : Hid (lets s.data.toList = false) := lets_fall s k hlt (by omega)
    go_wp2
    go_ret
    exact ⟨ret_bool (by unfold keyB; rw [HN.out, Bool.and_false]), rfl⟩
   by_cases h2 : 122 < s[k].toNat
   ·have h1' : decide ((s[k].toNat : Int) < 97) = false := by simp; omega
    have h2' : (122 : Int) < (s[k].toNat : Int) := by omega
    have HN : Hid (lets s.data.toList = false) := lets_fall s k hlt (by omega)
    go_wp2
    go_ret
    exact ⟨ret_bool (by unfold keyB; rw [HN.out, Bool.and_false]), rfl⟩
   ·have h1' : decide ((s[k].toNat : Int) < 97) = false := by simp; omega
    have h2' : decide ((122 : Int) < (s[k].toNat : Int)) = false := by simp; omega
    have HP2 : Hid (lets (s.data.toList.take (k + 1)) = true) := lets_more s k hlt HP.out (by omega) (by omega)
    go_wp2
    go_round
    case rel => exact ⟨k + 1, by omega, by go_num, HP2⟩
    case measure => simp [intOf]; omega
  ·have hd : ¬ (k : Int) < (s.size : Int) := by omega
   have HT : Hid (lets s.data.toList = true) := lets_whole s k hlt HP.out
   go_wp2
   go_ret
   exact ⟨ret_bool (by unfold keyB; rw [HT.out, HS.out]; rfl), rfl⟩

set_option maxRecDepth 100000 in
set_option maxHeartbeats 1000000 in
theorem skey (s : ByteArray) (hz : s.size ≤ 1048576) (w : World) : Calls Tryz.prog 28 #[.string s] w fun e w' => e = .returned (.bool (keyB s)) ∧ w' = w := by
 go_enter Tryz.func28, Tryz.ntmps28
 go_wp2
 go_loop [3] (fun t => ∃ k : Nat, k ≤ s.size ∧ t = .int .i64 k ∧ Hid (lets (s.data.toList.take k) = true)) (fun t => s.size - (intOf t).toNat)
 case atStart => exact ⟨0, Nat.zero_le _, rfl, rfl⟩
 case round =>
  obtain ⟨k, hk, rfl, HP⟩ := hrel
  by_cases hlt : k < s.size
  ·have hlt' : (k : Int) < (s.size : Int) := by omega
   have h255 : (s[k].toNat : Int) ≤ 255 := by have := s[k].toNat_lt; omega
   by_cases h1 : s[k].toNat < 97
   ·have h1' : (s[k].toNat : Int) < 97 := by omega
    have HN : Hid (lets s.data.toList = false) := lets_fall s k hlt (by omega)
    go_wp2
    go_ret
    exact ⟨ret_bool (by unfold keyB; rw [HN.out, Bool.and_false]), rfl⟩
   by_cases h2 : 122 < s[k].toNat
   ·have h1' : decide ((s[k].toNat : Int) < 97) = false := by simp; omega
    have h2' : (122 : Int) < (s[k].toNat : Int) := by omega
    have HN : Hid (lets s.data.toList = false) := lets_fall s k hlt (by omega)
    go_wp2
    go_ret
    exact ⟨ret_bool (by unfold keyB; rw [HN.out, Bool.and_false]), rfl⟩
   ·have h1' : decide ((s[k].toNat : Int) < 97) = false := by simp; omega
    have h2' : decide ((122 : Int) < (s[k].toNat : Int)) = false := by simp; omega
    have HP2 : Hid (lets (s.data.toList.take (k + 1)) = true) := lets_more s k hlt HP.out (by omega) (by omega)
    go_wp2
    go_round
    case rel => exact ⟨k + 1, by omega, by go_num, HP2⟩
    case measure => simp [intOf]; omega
  ·have hd : ¬ (k : Int) < (s.size : Int) := by omega
   have HT : Hid (lets s.data.toList = true) := lets_whole s k hlt HP.out
   have HI : Hid (decide ((1 : Int) ≤ (s.size : Int) ∧ (s.size : Int) ≤ 3) = decide (1 ≤ s.size ∧ s.size ≤ 3)) := by show _ = _; rw [decide_eq_decide]; omega
   go_wp2_with (go_at_call 25; refine (in57 _ _ _ _ HI.out _).mono ?_; rintro e w2 ⟨rfl, rfl⟩)
   go_ret
   exact ⟨ret_bool (by unfold keyB; rw [HT.out, Bool.and_true]; simp), rfl⟩

set_option maxRecDepth 100000 in
set_option maxHeartbeats 1000000 in
theorem iwrite (k v : ByteArray) (g : Bool) (w : World) : Calls Tryz.prog 172 #[.agg #[.string k, .string v, .bool g]] w fun e w' => e = .returned (.bool (writeB (k, v, g))) ∧ Below w.heap.size w w' := by
 cases hk : keyB k <;> cases g <;> cases he : v.toList.isEmpty <;> by_cases hs : v.size ≤ 12
 ·have K1 : Hid (∀ w, Calls Tryz.prog 213 #[.string k] w fun e w' => e = .returned (.bool false) ∧ w' = w) := fun w => hk ▸ ikey k w
  have HN : Hid (writeB (k, v, false) = false) := by show _ = _; unfold writeB; simp [hk, he, hs]
  have he' : (!v.toList.isEmpty) = true := by rw [he]; rfl
  have hs' : decide ((v.size : Int) ≤ 12) = true := by simp; omega
  clear he hs hk
  go_enter Tryz.func172, Tryz.ntmps172
  go_wp2_with (go_at_call 213; refine (K1.out _).mono ?_; rintro e w2 ⟨rfl, rfl⟩)
  go_ret
  exact ⟨ret_bool HN.out.symm, (belowRefl w).alloc (Nat.le_refl _) _⟩
 ·have K1 : Hid (∀ w, Calls Tryz.prog 213 #[.string k] w fun e w' => e = .returned (.bool false) ∧ w' = w) := fun w => hk ▸ ikey k w
  have HN : Hid (writeB (k, v, false) = false) := by show _ = _; unfold writeB; simp [hk, he, hs]
  have he' : (!v.toList.isEmpty) = true := by rw [he]; rfl
  have hs' : decide ((v.size : Int) ≤ 12) = false := by simp; omega
  clear he hs hk
  go_enter Tryz.func172, Tryz.ntmps172
  go_wp2_with (go_at_call 213; refine (K1.out _).mono ?_; rintro e w2 ⟨rfl, rfl⟩)
  go_ret
  exact ⟨ret_bool HN.out.symm, (belowRefl w).alloc (Nat.le_refl _) _⟩
 ·have K1 : Hid (∀ w, Calls Tryz.prog 213 #[.string k] w fun e w' => e = .returned (.bool false) ∧ w' = w) := fun w => hk ▸ ikey k w
  have HN : Hid (writeB (k, v, false) = false) := by show _ = _; unfold writeB; simp [hk, he, hs]
  have he' : (!v.toList.isEmpty) = false := by rw [he]; rfl
  have hs' : decide ((v.size : Int) ≤ 12) = true := by simp; omega
  clear he hs hk
  go_enter Tryz.func172, Tryz.ntmps172
  go_wp2_with (go_at_call 213; refine (K1.out _).mono ?_; rintro e w2 ⟨rfl, rfl⟩)
  go_ret
  exact ⟨ret_bool HN.out.symm, (belowRefl w).alloc (Nat.le_refl _) _⟩
 ·have K1 : Hid (∀ w, Calls Tryz.prog 213 #[.string k] w fun e w' => e = .returned (.bool false) ∧ w' = w) := fun w => hk ▸ ikey k w
  have HN : Hid (writeB (k, v, false) = false) := by show _ = _; unfold writeB; simp [hk, he, hs]
  have he' : (!v.toList.isEmpty) = false := by rw [he]; rfl
  have hs' : decide ((v.size : Int) ≤ 12) = false := by simp; omega
  clear he hs hk
  go_enter Tryz.func172, Tryz.ntmps172
  go_wp2_with (go_at_call 213; refine (K1.out _).mono ?_; rintro e w2 ⟨rfl, rfl⟩)
  go_ret
  exact ⟨ret_bool HN.out.symm, (belowRefl w).alloc (Nat.le_refl _) _⟩
 ·have K1 : Hid (∀ w, Calls Tryz.prog 213 #[.string k] w fun e w' => e = .returned (.bool false) ∧ w' = w) := fun w => hk ▸ ikey k w
  have HN : Hid (writeB (k, v, true) = false) := by show _ = _; unfold writeB; simp [hk, he, hs]
  have he' : (!v.toList.isEmpty) = true := by rw [he]; rfl
  have hs' : decide ((v.size : Int) ≤ 12) = true := by simp; omega
  clear he hs hk
  go_enter Tryz.func172, Tryz.ntmps172
  go_wp2_with (go_at_call 213; refine (K1.out _).mono ?_; rintro e w2 ⟨rfl, rfl⟩)
  go_ret
  exact ⟨ret_bool HN.out.symm, (belowRefl w).alloc (Nat.le_refl _) _⟩
 ·have K1 : Hid (∀ w, Calls Tryz.prog 213 #[.string k] w fun e w' => e = .returned (.bool false) ∧ w' = w) := fun w => hk ▸ ikey k w
  have HN : Hid (writeB (k, v, true) = false) := by show _ = _; unfold writeB; simp [hk, he, hs]
  have he' : (!v.toList.isEmpty) = true := by rw [he]; rfl
  have hs' : decide ((v.size : Int) ≤ 12) = false := by simp; omega
  clear he hs hk
  go_enter Tryz.func172, Tryz.ntmps172
  go_wp2_with (go_at_call 213; refine (K1.out _).mono ?_; rintro e w2 ⟨rfl, rfl⟩)
  go_ret
  exact ⟨ret_bool HN.out.symm, (belowRefl w).alloc (Nat.le_refl _) _⟩
 ·have K1 : Hid (∀ w, Calls Tryz.prog 213 #[.string k] w fun e w' => e = .returned (.bool false) ∧ w' = w) := fun w => hk ▸ ikey k w
  have HN : Hid (writeB (k, v, true) = false) := by show _ = _; unfold writeB; simp [hk, he, hs]
  have he' : (!v.toList.isEmpty) = false := by rw [he]; rfl
  have hs' : decide ((v.size : Int) ≤ 12) = true := by simp; omega
  clear he hs hk
  go_enter Tryz.func172, Tryz.ntmps172
  go_wp2_with (go_at_call 213; refine (K1.out _).mono ?_; rintro e w2 ⟨rfl, rfl⟩)
  go_ret
  exact ⟨ret_bool HN.out.symm, (belowRefl w).alloc (Nat.le_refl _) _⟩
 ·have K1 : Hid (∀ w, Calls Tryz.prog 213 #[.string k] w fun e w' => e = .returned (.bool false) ∧ w' = w) := fun w => hk ▸ ikey k w
  have HN : Hid (writeB (k, v, true) = false) := by show _ = _; unfold writeB; simp [hk, he, hs]
  have he' : (!v.toList.isEmpty) = false := by rw [he]; rfl
  have hs' : decide ((v.size : Int) ≤ 12) = false := by simp; omega
  clear he hs hk
  go_enter Tryz.func172, Tryz.ntmps172
  go_wp2_with (go_at_call 213; refine (K1.out _).mono ?_; rintro e w2 ⟨rfl, rfl⟩)
  go_ret
  exact ⟨ret_bool HN.out.symm, (belowRefl w).alloc (Nat.le_refl _) _⟩
 ·have K1 : Hid (∀ w, Calls Tryz.prog 213 #[.string k] w fun e w' => e = .returned (.bool true) ∧ w' = w) := fun w => hk ▸ ikey k w
  have HN : Hid (writeB (k, v, false) = true) := by show _ = _; unfold writeB; simp [hk, he, hs]
  have he' : (!v.toList.isEmpty) = true := by rw [he]; rfl
  have hs' : decide ((v.size : Int) ≤ 12) = true := by simp; omega
  clear he hs hk
  go_enter Tryz.func172, Tryz.ntmps172
  go_wp2_with (go_at_call 213; refine (K1.out _).mono ?_; rintro e w2 ⟨rfl, rfl⟩)
  go_ret
  exact ⟨ret_bool HN.out.symm, (belowRefl w).alloc (Nat.le_refl _) _⟩
 ·have K1 : Hid (∀ w, Calls Tryz.prog 213 #[.string k] w fun e w' => e = .returned (.bool true) ∧ w' = w) := fun w => hk ▸ ikey k w
  have HN : Hid (writeB (k, v, false) = false) := by show _ = _; unfold writeB; simp [hk, he, hs]
  have he' : (!v.toList.isEmpty) = true := by rw [he]; rfl
  have hs' : decide ((v.size : Int) ≤ 12) = false := by simp; omega
  clear he hs hk
  go_enter Tryz.func172, Tryz.ntmps172
  go_wp2_with (go_at_call 213; refine (K1.out _).mono ?_; rintro e w2 ⟨rfl, rfl⟩)
  go_ret
  exact ⟨ret_bool HN.out.symm, (belowRefl w).alloc (Nat.le_refl _) _⟩
 ·have K1 : Hid (∀ w, Calls Tryz.prog 213 #[.string k] w fun e w' => e = .returned (.bool true) ∧ w' = w) := fun w => hk ▸ ikey k w
  have HN : Hid (writeB (k, v, false) = true) := by show _ = _; unfold writeB; simp [hk, he, hs]
  have he' : (!v.toList.isEmpty) = false := by rw [he]; rfl
  have hs' : decide ((v.size : Int) ≤ 12) = true := by simp; omega
  clear he hs hk
  go_enter Tryz.func172, Tryz.ntmps172
  go_wp2_with (go_at_call 213; refine (K1.out _).mono ?_; rintro e w2 ⟨rfl, rfl⟩)
  go_ret
  exact ⟨ret_bool HN.out.symm, (belowRefl w).alloc (Nat.le_refl _) _⟩
 ·have K1 : Hid (∀ w, Calls Tryz.prog 213 #[.string k] w fun e w' => e = .returned (.bool true) ∧ w' = w) := fun w => hk ▸ ikey k w
  have HN : Hid (writeB (k, v, false) = false) := by show _ = _; unfold writeB; simp [hk, he, hs]
  have he' : (!v.toList.isEmpty) = false := by rw [he]; rfl
  have hs' : decide ((v.size : Int) ≤ 12) = false := by simp; omega
  clear he hs hk
  go_enter Tryz.func172, Tryz.ntmps172
  go_wp2_with (go_at_call 213; refine (K1.out _).mono ?_; rintro e w2 ⟨rfl, rfl⟩)
  go_ret
  exact ⟨ret_bool HN.out.symm, (belowRefl w).alloc (Nat.le_refl _) _⟩
 ·have K1 : Hid (∀ w, Calls Tryz.prog 213 #[.string k] w fun e w' => e = .returned (.bool true) ∧ w' = w) := fun w => hk ▸ ikey k w
  have HN : Hid (writeB (k, v, true) = false) := by show _ = _; unfold writeB; simp [hk, he, hs]
  have he' : (!v.toList.isEmpty) = true := by rw [he]; rfl
  have hs' : decide ((v.size : Int) ≤ 12) = true := by simp; omega
  clear he hs hk
  go_enter Tryz.func172, Tryz.ntmps172
  go_wp2_with (go_at_call 213; refine (K1.out _).mono ?_; rintro e w2 ⟨rfl, rfl⟩)
  go_ret
  exact ⟨ret_bool HN.out.symm, (belowRefl w).alloc (Nat.le_refl _) _⟩
 ·have K1 : Hid (∀ w, Calls Tryz.prog 213 #[.string k] w fun e w' => e = .returned (.bool true) ∧ w' = w) := fun w => hk ▸ ikey k w
  have HN : Hid (writeB (k, v, true) = false) := by show _ = _; unfold writeB; simp [hk, he, hs]
  have he' : (!v.toList.isEmpty) = true := by rw [he]; rfl
  have hs' : decide ((v.size : Int) ≤ 12) = false := by simp; omega
  clear he hs hk
  go_enter Tryz.func172, Tryz.ntmps172
  go_wp2_with (go_at_call 213; refine (K1.out _).mono ?_; rintro e w2 ⟨rfl, rfl⟩)
  go_ret
  exact ⟨ret_bool HN.out.symm, (belowRefl w).alloc (Nat.le_refl _) _⟩
 ·have K1 : Hid (∀ w, Calls Tryz.prog 213 #[.string k] w fun e w' => e = .returned (.bool true) ∧ w' = w) := fun w => hk ▸ ikey k w
  have HN : Hid (writeB (k, v, true) = true) := by show _ = _; unfold writeB; simp [hk, he, hs]
  have he' : (!v.toList.isEmpty) = false := by rw [he]; rfl
  have hs' : decide ((v.size : Int) ≤ 12) = true := by simp; omega
  clear he hs hk
  go_enter Tryz.func172, Tryz.ntmps172
  go_wp2_with (go_at_call 213; refine (K1.out _).mono ?_; rintro e w2 ⟨rfl, rfl⟩)
  go_ret
  exact ⟨ret_bool HN.out.symm, (belowRefl w).alloc (Nat.le_refl _) _⟩
 ·have K1 : Hid (∀ w, Calls Tryz.prog 213 #[.string k] w fun e w' => e = .returned (.bool true) ∧ w' = w) := fun w => hk ▸ ikey k w
  have HN : Hid (writeB (k, v, true) = false) := by show _ = _; unfold writeB; simp [hk, he, hs]
  have he' : (!v.toList.isEmpty) = false := by rw [he]; rfl
  have hs' : decide ((v.size : Int) ≤ 12) = false := by simp; omega
  clear he hs hk
  go_enter Tryz.func172, Tryz.ntmps172
  go_wp2_with (go_at_call 213; refine (K1.out _).mono ?_; rintro e w2 ⟨rfl, rfl⟩)
  go_ret
  exact ⟨ret_bool HN.out.symm, (belowRefl w).alloc (Nat.le_refl _) _⟩

end Go.Proofs.YtpnnncfbodfnhaaGreat

namespace Go.Proofs.YtpnnncfbodfnhaaGreat
open Go.RowKit
open KM
attribute [local go_sem ↓] Go.wp_at_zero Go.wp_at_succ

theorem bne_self' (b : Bool) : (b != b) = false := by cases b <;> rfl

structure Box (w : World) (b : Nat) (cs : List Value) : Prop where
 lt : b < w.heap.size
 at' : ∀ j, j < cs.length → w.cell? ⟨b, j, none⟩ = cs[j]?
theorem Box.below {w w' : World} {b : Nat} {cs : List Value} (h : Box w b cs) (hb : Below w.heap.size w w') : Box w' b cs :=
 ⟨Nat.lt_of_lt_of_le h.lt hb.size, fun j hj => (hb.cell (p := ⟨b, j, none⟩) h.lt).trans (h.at' j hj)⟩
theorem Box.new (w : World) (cs : List Value) (T : Nat) : Box (w.alloc (.cells cs.toArray T)) w.heap.size cs :=
 ⟨by simp, fun j hj => (World.cell?_alloc_mark w _ T (0, 0) j).trans (by simp)⟩
theorem Box.c0 {w : World} {b : Nat} {x : Value} {r : List Value} (h : Box w b (x :: r)) : w.cell? ⟨b, 0, none⟩ = some x := h.at' 0 (by simp)
theorem Box.c1 {w : World} {b : Nat} {x y : Value} {r : List Value} (h : Box w b (x :: y :: r)) : w.cell? ⟨b, 1, none⟩ = some y := h.at' 1 (by simp)
theorem Box.c2 {w : World} {b : Nat} {x y z : Value} {r : List Value} (h : Box w b (x :: y :: z :: r)) : w.cell? ⟨b, 2, none⟩ = some z := h.at' 2 (by simp)

theorem Box.c3 {w : World} {b : Nat} {x y z u : Value} {r : List Value} (h : Box w b (x :: y :: z :: u :: r)) : w.cell? ⟨b, 3, none⟩ = some u := h.at' 3 (by simp)

end Go.Proofs.YtpnnncfbodfnhaaGreat

namespace Go.Proofs.YtpnnncfbodfnhaaGreat
open Go.RowKit

structure Enc (α : Type) where
 enc : α → List Value
 size : Nat
 pos : 0 < size
 len : ∀ x, (enc x).length = size
namespace Enc
variable {α : Type} (E : Enc α)
def cells (xs : List α) : List Value := xs.flatMap E.enc
theorem cells_len : ∀ xs : List α, (E.cells xs).length = xs.length * E.size
 | [] => by simp [cells]
 | x :: xs => by
  have := cells_len xs
  simp only [cells, List.flatMap_cons, List.length_append, List.length_cons, E.len] at this ⊢
  rw [this, Nat.succ_mul]; omega
theorem cells_app (a b : List α) : E.cells (a ++ b) = E.cells a ++ E.cells b := by simp [cells]
theorem cells_at : ∀ (xs : List α) (j : Nat) (h : j < xs.length) (i : Nat), i < E.size → (E.cells xs)[j * E.size + i]? = (E.enc xs[j])[i]?
 | x :: xs, 0, _, i, hi => by
  simp only [cells, List.flatMap_cons, Nat.zero_mul, Nat.zero_add, List.getElem_cons_zero]
  rw [List.getElem?_append_left (by rw [E.len]; exact hi)]
 | x :: xs, j + 1, h, i, hi => by
  have ih := cells_at xs j (by simpa using h) i hi
  simp only [cells, List.flatMap_cons, List.getElem_cons_succ]
  rw [List.getElem?_append_right (by rw [E.len, Nat.succ_mul]; omega), E.len, show (j + 1) * E.size + i - E.size = j * E.size + i by rw [Nat.succ_mul]; omega]
  exact ih
end Enc

section
variable {α : Type} (E : Enc α)
def GRow (w : World) (a : Option Addr) (xs : List α) : Prop :=
 0 < xs.length → ∃ b off, a = some ⟨b, off, none⟩ ∧ b < w.heap.size ∧ ∀ j (hj : j < xs.length) i, i < E.size → w.cell? ⟨b, off + j * E.size + i, none⟩ = (E.enc xs[j])[i]?
def GOwn (e : TypeId) (w : World) (base : Nat) (v : Value) (xs : List α) : Prop := w.ownsRow base e E.size v xs.length (E.cells xs)
end

section
variable {α : Type} {E : Enc α} {e : TypeId}
theorem GRow.below {w w' : World} {a : Option Addr} {xs : List α} (h : GRow E w a xs) (hb : Below w.heap.size w w') : GRow E w' a xs := fun h0 => by
 obtain ⟨b, off, rfl, hlt, hc⟩ := h h0
 exact ⟨b, off, rfl, Nat.lt_of_lt_of_le hlt hb.size, fun j hj i hi => (hb.cell (p := ⟨b, off + j * E.size + i, none⟩) hlt).trans (hc j hj i hi)⟩
theorem GRow.nil (w : World) (a : Option Addr) : GRow E w a [] := fun h => by simp at h
theorem GRow.drew {w : World} {a : Option Addr} {xs : List α} (h : GRow E w a xs) : GRow E w.drew a xs := h

theorem ownsBelow {w w' : World} {base e size n : Nat} {v : Value} {xs : List Value} (h : w.ownsRow base e size v n xs) (hb : Below w.heap.size w w') : w'.ownsRow base e size v n xs := by
 obtain ⟨h1, h2⟩ := h
 refine ⟨h1, ?_⟩
 rcases h2 with h2 | ⟨g, cap, cur, hv, hg, hh, r⟩
 ·exact Or.inl h2
 ·refine Or.inr ⟨g, cap, cur, hv, hg, ?_, r⟩
  have hlt : g < w.heap.size := by
   by_cases hz : g < w.heap.size
   ·exact hz
   ·rw [Array.getElem?_eq_none (by omega)] at hh
    cases hh
  rw [hb.block g hlt]; exact hh
theorem ownsMono {w : World} {base base' e size n : Nat} {v : Value} {xs : List Value} (h : w.ownsRow base e size v n xs) (hb : base' ≤ base) : w.ownsRow base' e size v n xs := by
 refine ⟨h.1, ?_⟩
 rcases h.2 with h1 | ⟨g, cap, cur, h1, h2, h3⟩
 ·exact Or.inl h1
 ·exact Or.inr ⟨g, cap, cur, h1, Nat.le_trans hb h2, h3⟩
theorem GOwn.below {w w' : World} {base : Nat} {v : Value} {l : List α} (h : GOwn E e w base v l) (hb : Below w.heap.size w w') : GOwn E e w' base v l := ownsBelow h hb
theorem GOwn.mono {w : World} {base base' : Nat} {v : Value} {l : List α} (h : GOwn E e w base v l) (hb : base' ≤ base) : GOwn E e w base' v l := ownsMono h hb
theorem GOwn.nil (w : World) (base : Nat) : GOwn E e w base (.slice none 0 0) [] := World.ownsRow_nil _ _ _ _
theorem GOwn.empty (w : World) (base : Nat) (hb : base ≤ w.heap.size) : GOwn E e (w.alloc (.cells #[] e)) base (.slice (some ⟨w.heap.size, 0, none⟩) 0 0) [] :=
 World.ownsRow_lit (size := E.size) w #[] 0 hb (by unfold maxLen; omega) (by simp)
theorem GOwn.alloc {w : World} {base : Nat} {v : Value} {l : List α} (h : GOwn E e w base v l) (o : Obj) : GOwn E e (w.alloc o) base v l := World.ownsRow.alloc h o
theorem GOwn.set {w : World} {base : Nat} {v : Value} {l : List α} (h : GOwn E e w base v l) {a : Addr} (ha : a.block < base) (u : Value) : GOwn E e (w.setCell a u) base v l := ownsRow_setCell_below h ha u
theorem GOwn.drew {w : World} {base : Nat} {v : Value} {l : List α} (h : GOwn E e w base v l) : GOwn E e w.drew base v l := h

theorem GOwn.row {w : World} {base : Nat} {v : Value} {l : List α} (h : GOwn E e w base v l) : ∃ ao cap, v = .slice ao l.length cap ∧ GRow E w ao l := by
 have h0 := h
 rcases h.2 with ⟨rfl, h1⟩ | ⟨g, cap, cur, rfl, hg, hh, hnc, hcp, hcs, htake⟩
 ·exact ⟨none, 0, by rw [h1], fun h => by omega⟩
 ·refine ⟨_, cap, rfl, fun _ => ⟨g, 0, rfl, (World.ownsRow.lt h0 g rfl).2, fun j hj i hi => ?_⟩⟩
  have hlt : j * E.size + i < l.length * E.size := by
   have h1 : (j + 1) * E.size ≤ l.length * E.size := Nat.mul_le_mul_right _ hj
   rw [Nat.succ_mul] at h1; omega
  rw [Nat.zero_add, World.ownsRow.cellAt h0 (j * E.size + i) hlt]
  exact E.cells_at l j hj i hi
theorem GOwn.grow {w : World} {base : Nat} {a : Option Addr} {c : Nat} {l : List α} (h : GOwn E e w base (.slice a l.length c) l) : GRow E w a l := by
 obtain ⟨ao, cap, hv, hr⟩ := h.row
 cases hv
 exact hr

end

theorem wpAppG {ops : Array Oper} {rest : List Oper} {o : Oper} {a : Act} {Q : Exit → Act → World → Prop} (T e size bytes : Nat) (z : Value) (hT : Tryz.prog.underlying T = some (.slice e))
  (hinfo : (Tryz.prog.info? e).map (fun i => (i.zero, i.size, i.bytes)) = some (some z, size, bytes)) (hzs : z.cells.size = size) (hsz : 0 < size) (hby : bytes ≤ 64)
  (hgd : o.guard = none) (s x : Operand) (ho : o.op = .call { callee := .builtin .append, args := #[s, x], argTypes := #[T, T] })
  {W : World} {base g n : Nat} {v : Value} {xs : List Value} (news : List Value)
  (hs : a.eval s = v) (hown : W.ownsRow base e size v n xs) (hx : a.eval x = .slice (some ⟨g, 0, none⟩) 1 1) (hblk : W.heap[g]? = some (.cells news.toArray e (0, 0)))
  (hl : news.length = size) (h1 : ∀ u ∈ news, u.oneCell' = true) (hlen : n ≤ 100000000) (hB : base ≤ W.heap.size)
  (h : ∀ g' cap w', w'.ownsRow base e size (.slice (some ⟨g', 0, none⟩) (n + 1) cap) (n + 1) (xs ++ news) → Below base W w' → wpList Tryz.prog ops Q rest (a.put o.dst (.slice (some ⟨g', 0, none⟩) (n + 1) cap)) w') :
  wpList Tryz.prog ops Q (o :: rest) a W := by
 obtain ⟨i0, hi, hz0, hz1, hz2⟩ := info_parts hinfo
 refine wpList_append_lies _ hgd s x T ho base e i0 z size bytes hT hi hz0 hz1 hz2 hzs hsz v n xs hs hown ⟨g, 0, none⟩ 1 1 news hx (by omega) ?_ h1 (by omega) (by unfold maxLen; omega) ?_ hB _ rfl ?_
 ·intro j u hj
  rw [Addr.add_lit, Nat.zero_add, World.cell?, hblk]
  simpa using hj
 ·calc (n + 1) * bytes ≤ 100000001 * 64 := Nat.mul_le_mul (by omega) hby
   _ ≤ _ := by omega
 ·intro g' cap w' h1 h2 _ _
  exact h g' cap w' h1 ((Below.refl _ _).grown h2 hB (fun j hj => (World.ownsRow.lt hown j hj).1))
end Go.Proofs.YtpnnncfbodfnhaaGreat

namespace Go.Proofs.YtpnnncfbodfnhaaGreat
open Go.RowKit
open KM

def encR : Enc Rg := ⟨fun r => [.string r.1, .string r.2], 2, by decide, fun _ => rfl⟩
def encW : Enc Wt := ⟨fun x => [.string x.1, .string x.2.1, .bool x.2.2], 3, by decide, fun _ => rfl⟩

theorem Tryz.info9 : (Tryz.prog.info? 9).map (fun i => (i.zero, i.size, i.bytes)) = some (some (.string ByteArray.empty), 1, 16) := by kernel_rfl
theorem Tryz.info115 : (Tryz.prog.info? 115).map (fun i => (i.zero, i.size, i.bytes)) = some (some (.agg #[.string ByteArray.empty, .string ByteArray.empty]), 2, 32) := by kernel_rfl
theorem Tryz.info181 : (Tryz.prog.info? 181).map (fun i => (i.zero, i.size, i.bytes)) = some (some (.agg #[.string ByteArray.empty, .string ByteArray.empty, .bool false]), 3, 40) := by kernel_rfl

theorem rat {w : World} {b off : Nat} {xs : List Rg} (hc : ∀ j (hj : j < xs.length) i, i < encR.size → w.cell? ⟨b, off + j * encR.size + i, none⟩ = (encR.enc xs[j])[i]?) (j : Nat) (hj : j < xs.length) :
  w.cell? ⟨b, off + j * 2, none⟩ = some (.string xs[j].1) ∧ w.cell? ⟨b, off + j * 2 + 1, none⟩ = some (.string xs[j].2) := ⟨by simpa [encR] using hc j hj 0 (by decide), by simpa [encR] using hc j hj 1 (by decide)⟩
theorem wat {w : World} {b off : Nat} {xs : List Wt} (hc : ∀ j (hj : j < xs.length) i, i < encW.size → w.cell? ⟨b, off + j * encW.size + i, none⟩ = (encW.enc xs[j])[i]?) (j : Nat) (hj : j < xs.length) :
  w.cell? ⟨b, off + j * 3, none⟩ = some (.string xs[j].1) ∧ w.cell? ⟨b, off + j * 3 + 1, none⟩ = some (.string xs[j].2.1) ∧ w.cell? ⟨b, off + j * 3 + 2, none⟩ = some (.bool xs[j].2.2) := ⟨by simpa [encW] using hc j hj 0 (by decide), by simpa [encW] using hc j hj 1 (by decide), by simpa [encW] using hc j hj 2 (by decide)⟩

abbrev Vr := ByteArray × ByteArray × Bool × Int
def encV : Enc Vr := ⟨fun x => [.string x.1, .string x.2.1, .bool x.2.2.1, .int .i64 x.2.2.2], 4, by decide, fun _ => rfl⟩
def encS : Enc ByteArray := ⟨fun x => [.string x], 1, by decide, fun _ => rfl⟩
def encI : Enc Int := ⟨fun x => [.int .i64 x], 1, by decide, fun _ => rfl⟩
theorem Tryz.info76 : (Tryz.prog.info? 76).map (fun i => (i.zero, i.size, i.bytes)) = some (some (.agg #[.string ByteArray.empty, .string ByteArray.empty, .bool false, .int .i64 0]), 4, 48) := by kernel_rfl
theorem Tryz.info3 : (Tryz.prog.info? 3).map (fun i => (i.zero, i.size, i.bytes)) = some (some (.int .i64 0), 1, 8) := by kernel_rfl
theorem vat {w : World} {b off : Nat} {xs : List Vr} (hc : ∀ j (hj : j < xs.length) i, i < encV.size → w.cell? ⟨b, off + j * encV.size + i, none⟩ = (encV.enc xs[j])[i]?) (j : Nat) (hj : j < xs.length) :
  w.cell? ⟨b, off + j * 4, none⟩ = some (.string xs[j].1) ∧ w.cell? ⟨b, off + j * 4 + 1, none⟩ = some (.string xs[j].2.1) ∧ w.cell? ⟨b, off + j * 4 + 2, none⟩ = some (.bool xs[j].2.2.1) ∧ w.cell? ⟨b, off + j * 4 + 3, none⟩ = some (.int .i64 xs[j].2.2.2) := ⟨by simpa [encV] using hc j hj 0 (by decide), by simpa [encV] using hc j hj 1 (by decide), by simpa [encV] using hc j hj 2 (by decide), by simpa [encV] using hc j hj 3 (by decide)⟩
theorem sat {w : World} {b off : Nat} {xs : List ByteArray} (hc : ∀ j (hj : j < xs.length) i, i < encS.size → w.cell? ⟨b, off + j * encS.size + i, none⟩ = (encS.enc xs[j])[i]?) (j : Nat) (hj : j < xs.length) :
  w.cell? ⟨b, off + j, none⟩ = some (.string xs[j]) := by simpa [encS] using hc j hj 0 (by decide)
theorem iat {w : World} {b off : Nat} {xs : List Int} (hc : ∀ j (hj : j < xs.length) i, i < encI.size → w.cell? ⟨b, off + j * encI.size + i, none⟩ = (encI.enc xs[j])[i]?) (j : Nat) (hj : j < xs.length) :
  w.cell? ⟨b, off + j, none⟩ = some (.int .i64 xs[j]) := by simpa [encI] using hc j hj 0 (by decide)
end Go.Proofs.YtpnnncfbodfnhaaGreat

namespace Go.Proofs.YtpnnncfbodfnhaaGreat
open Go.RowKit
open KM
attribute [local go_sem ↓] Go.wp_at_zero Go.wp_at_succ

def VFit (xs : List Vr) : Prop := ∀ x ∈ xs, x.1.size ≤ 1048576 ∧ x.2.1.size ≤ 1048576

set_option maxHeartbeats 400000 in
theorem eqv (x0 : ByteArray) (x1 : ByteArray) (x2 : Bool) (x3 : Int) (w : World) :
  Calls Tryz.prog 88 #[.agg #[.string x0, .string x1, .bool x2, .int .i64 x3], .agg #[.string x0, .string x1, .bool x2, .int .i64 x3]] w fun e w' => e = .returned (.bool true) ∧ Below w.heap.size w w' := by
 have hbn2 := bne_self' x2
 go_enter Tryz.func88, Tryz.ntmps88
 go_wp2
 go_ret
 exact ⟨rfl, ((belowRefl w).alloc (Nat.le_refl _) _).alloc (by simp) _⟩

set_option maxRecDepth 100000 in
set_option maxHeartbeats 1000000 in
theorem eqSV (a1 a2 : Option Addr) (c1 c2 : Nat) (xs : List Vr) (hn : xs.length ≤ 100000000) (w : World) (h1 : GRow encV w a1 xs) (h2 : GRow encV w a2 xs) :
  Calls Tryz.prog 45 #[.slice a1 xs.length c1, .slice a2 xs.length c2] w fun e w' => e = .returned (.bool true) ∧ Below w.heap.size w w' := by
 have H1 : Hid (GRow encV w a1 xs) := h1
 have H2 : Hid (GRow encV w a2 xs) := h2
 clear h1 h2
 go_enter Tryz.func45, Tryz.ntmps45
 go_wp2
 go_loopw [5] (fun t wr => ∃ k : Nat, k ≤ xs.length ∧ t = .int .i64 k ∧ Hid (Below w.heap.size w wr)) (fun t _ => xs.length - (intOf t).toNat)
 case atStart => exact ⟨0, Nat.zero_le _, rfl, Below.refl _ _⟩
 case round =>
  obtain ⟨k, hk, rfl, HB⟩ := hrel
  by_cases hlt : k < xs.length
  ·have hlt' : (k : Int) < (xs.length : Int) := by omega
   have h0 : (0 : Int) ≤ (k : Int) := by omega
   obtain ⟨b1, off1, rfl, hl1, q1⟩ := (H1.out.below HB.out) (by omega)
   obtain ⟨b2, off2, rfl, hl2, q2⟩ := (H2.out.below HB.out) (by omega)
   have r10 := ((vat q1) k hlt).1
   have r11 := ((vat q1) k hlt).2.1
   have r12 := ((vat q1) k hlt).2.2.1
   have r13 := ((vat q1) k hlt).2.2.2
   have r20 := ((vat q2) k hlt).1
   have r21 := ((vat q2) k hlt).2.1
   have r22 := ((vat q2) k hlt).2.2.1
   have r23 := ((vat q2) k hlt).2.2.2
   clear q1 q2
   go_wp2
   go_region_held3 (fun w' => w'.cell? ⟨b1, off1 + k * 4, none⟩ = some (.string xs[k].1) ∧ w'.cell? ⟨b1, off1 + k * 4 + 1, none⟩ = some (.string xs[k].2.1) ∧ w'.cell? ⟨b1, off1 + k * 4 + 2, none⟩ = some (.bool xs[k].2.2.1) ∧ w'.cell? ⟨b1, off1 + k * 4 + 3, none⟩ = some (.int .i64 xs[k].2.2.2) ∧ w'.cell? ⟨b2, off2 + k * 4, none⟩ = some (.string xs[k].1) ∧ w'.cell? ⟨b2, off2 + k * 4 + 1, none⟩ = some (.string xs[k].2.1) ∧ w'.cell? ⟨b2, off2 + k * 4 + 2, none⟩ = some (.bool xs[k].2.2.1) ∧ w'.cell? ⟨b2, off2 + k * 4 + 3, none⟩ = some (.int .i64 xs[k].2.2.2)) (first | go_keep | exact ⟨(hbm.cell (p := ⟨b1, off1 + k * 4, none⟩) hl1).trans r10, (hbm.cell (p := ⟨b1, off1 + k * 4 + 1, none⟩) hl1).trans r11, (hbm.cell (p := ⟨b1, off1 + k * 4 + 2, none⟩) hl1).trans r12, (hbm.cell (p := ⟨b1, off1 + k * 4 + 3, none⟩) hl1).trans r13, (hbm.cell (p := ⟨b2, off2 + k * 4, none⟩) hl2).trans r20, (hbm.cell (p := ⟨b2, off2 + k * 4 + 1, none⟩) hl2).trans r21, (hbm.cell (p := ⟨b2, off2 + k * 4 + 2, none⟩) hl2).trans r22, (hbm.cell (p := ⟨b2, off2 + k * 4 + 3, none⟩) hl2).trans r23⟩) ((go_at_call 88; refine (eqv _ _ _ _ _).mono ?_; rintro e w2 ⟨rfl, hbm⟩))
   all_goals
    go_wp2
    go_roundw
    case rel => exact ⟨k + 1, by omega, by go_num, (HB.out.drew).trans (hbm.mono HB.out.size)⟩
    case measure => simp [intOf]; omega
  ·have hd : ¬ (k : Int) < (xs.length : Int) := by omega
   go_wp2
   go_ret
   exact ⟨rfl, HB.out⟩

end Go.Proofs.YtpnnncfbodfnhaaGreat

namespace Go.Proofs
open Go.Shelf
open Go.RowKit in
def Tryz.lays106_ren : Go.Shelf.Ren := ⟨fun | 106 => 174 | 213 => 214 | 265 => 233 | n => n, fun | 9 => 9 | 3 => 3 | n => n, fun | n => n⟩
theorem Tryz.lays106 : Go.Proofs.Lays.n106 Tryz.prog Tryz.lays106_ren := {
 mixed := by kernel_rfl
 f106 := Tryz.func174.trans (congrArg some (by kernel_rfl))
 f213 := Tryz.func214.trans (congrArg some (by kernel_rfl))
 f265 := Tryz.func233.trans (congrArg some (by kernel_rfl))
 t3 := Tryz.underlying3
 a3 := Tryz.isAgg3
 z3 := Tryz.sizeOf3
 v3 := Tryz.zeroValue3
 t9 := Tryz.underlying9
 a9 := Tryz.isAgg9
 z9 := Tryz.sizeOf9
 v9 := Tryz.zeroValue9 }
open Go.RowKit in
theorem Tryz.strings_Compare (a b : ByteArray) (w : World) :
  Calls Tryz.prog 174 #[.string a, .string b] w fun e w' => e = .returned (.int .i64 (Lib.compareBytes a.data.toList b.data.toList)) ∧ w' = w := Any.strings_Compare Tryz.lays106 a b w
open Go.RowKit in
def Tryz.lays122_ren : Go.Shelf.Ren := ⟨fun | 122 => 175 | 215 => 215 | n => n, fun | 3 => 3 | 4 => 4 | n => n, fun | n => n⟩
theorem Tryz.lays122 : Go.Proofs.Lays.n122 Tryz.prog Tryz.lays122_ren := {
 mixed := by kernel_rfl
 f122 := Tryz.func175.trans (congrArg some (by kernel_rfl))
 f215 := Tryz.func215.trans (congrArg some (by kernel_rfl))
 t3 := Tryz.underlying3
 a3 := Tryz.isAgg3
 z3 := Tryz.sizeOf3
 v3 := Tryz.zeroValue3
 t4 := Tryz.underlying4
 a4 := Tryz.isAgg4
 z4 := Tryz.sizeOf4
 v4 := Tryz.zeroValue4 }
open Go.RowKit in
theorem Tryz.cmp_Compare_int (x y : Int) (w : World) :
  Calls Tryz.prog 175 #[.int .i64 x, .int .i64 y] w fun e w' => e = .returned (.int .i64 (Lib.compareInt x y)) ∧ w' = w := Any.cmp_Compare_int Tryz.lays122 x y w
end Go.Proofs
namespace Go.Proofs
open Go.Shelf
def Tryz.laysM316_ren : Go.Shelf.Ren := ⟨fun | 316 => 197 | n => n, fun | 9 => 9 | 3 => 3 | 4 => 4 | 37 => 83 | 0 => 0 | 127 => 143 | 5 => 5 | n => n, fun | n => n⟩
theorem Tryz.laysM316 : Go.Proofs.LaysM.n316 Tryz.prog Tryz.laysM316_ren := {
 mixed := by kernel_rfl
 f316 := Tryz.func197.trans (congrArg some (by kernel_rfl))
 t0 := Tryz.underlying0
 a0 := Tryz.isAgg0
 z0 := Tryz.sizeOf0
 v0 := Tryz.zeroValue0
 t3 := Tryz.underlying3
 a3 := Tryz.isAgg3
 z3 := Tryz.sizeOf3
 v3 := Tryz.zeroValue3
 t4 := Tryz.underlying4
 a4 := Tryz.isAgg4
 z4 := Tryz.sizeOf4
 v4 := Tryz.zeroValue4
 t9 := Tryz.underlying9
 a9 := Tryz.isAgg9
 z9 := Tryz.sizeOf9
 v9 := Tryz.zeroValue9
 t37 := Tryz.underlying83
 a37 := Tryz.isAgg83
 z37 := Tryz.sizeOf83
 v37 := Tryz.zeroValue83
 t127 := Tryz.underlying143
 a127 := Tryz.isAgg143
 z127 := Tryz.sizeOf143
 v127 := Tryz.zeroValue143
 t5 := Tryz.underlying5
 a5 := Tryz.isAgg5
 z5 := Tryz.sizeOf5
 v5 := Tryz.zeroValue5
 i0 := by kernel_rfl
 i3 := by kernel_rfl
 i4 := by kernel_rfl
 i5 := by kernel_rfl
 i9 := by kernel_rfl
 i37 := by kernel_rfl
 i127 := by kernel_rfl }
open Go.RowKit in
theorem Tryz.stringslite_Clone (s : ByteArray) (w : World) (hlim : s.size ≤ 281474976710656) :
  Calls Tryz.prog 197 #[.string s] w fun e w' => e = .returned (.string s) ∧ Below w.heap.size w w' := Any.stringslite_Clone Tryz.laysM316 s w hlim
end Go.Proofs
