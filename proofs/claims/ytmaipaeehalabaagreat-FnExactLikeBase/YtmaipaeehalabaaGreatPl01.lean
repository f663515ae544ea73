/- One operation of a region taken first: a short form of the library's law. -/
import Derived.Deep.RegionHeld3
import Derived.Test.YtmaipaeehalabaaGreatProg
import Derived.WalkKit
import Derived.WalkSpells
import Derived.WalkLawsBesides
import Derived.Deep.QuietTactic
import Derived.BigQuiet
import Derived.Deep.DrawnRows
namespace Go.Proofs.YtmaipaeehalabaaGreat
theorem tk {P : Program} {ops : Array Oper} {Q : Exit → Act → World → Prop} {md : Region.Mode} {S : World → Prop} (i : Nat) {oi : Oper} (v : Value) {fuel : Nat} {listed : Array Bool} {a : Act} {w : World} (hi : ops[i]? = some oi) (hy : YieldsIf P ops S oi v a) (h : wpAnyH P md ops Q S fuel (listed.setIfInBounds i true) (a.put oi.dst v) w) (hb : (Region.noSelect ops && (Region.free md ops listed i && (Region.ready md ops listed).contains i)) = true := by kernel_rfl) (hQ : ∀ (c : List PanicEntry) (a : Act) (w : World), Q (Exit.panic c) (a.put oi.dst v) w → Q (Exit.panic c) a w := by exact fun _ _ _ h => h) (hS : S w := by assumption) : wpAnyH P md ops Q S (fuel + 1) listed a w := by
  rw [Bool.and_eq_true, Bool.and_eq_true] at hb
  exact wpAnyH_take hi hb.1 hb.2.1 hb.2.2 hQ hy hS h
theorem tA {α : Type _} {xs : List α} {i : Nat} (h : i < xs.toArray.size) : xs.toArray[i] = xs[i]'(by simpa using h) := List.getElem_toArray h
theorem tB {α : Type _} (a : α) (bs : List α) (h : 0 < (a :: bs).length) : (a :: bs)[0] = a := List.getElem_cons_zero a bs h
theorem tC {α : Type _} (a : α) (bs : List α) (i : Nat) (h : i + 1 < (a :: bs).length) : (a :: bs)[i + 1] = bs[i]'(by simpa using h) := List.getElem_cons_succ a bs i h
theorem tD {α : Type _} (l : List α) (i : Nat) (a : α) : l.toArray.setIfInBounds i a = (l.set i a).toArray := List.setIfInBounds_toArray l i a
theorem tE {α : Type _} {x : α} {xs : List α} {a : α} : (x :: xs).set 0 a = a :: xs := List.set_cons_zero
theorem tF {α : Type _} {x : α} {xs : List α} {i : Nat} {a : α} : (x :: xs).set (i + 1) a = x :: xs.set i a := List.set_cons_succ

end Go.Proofs.YtmaipaeehalabaaGreat

namespace Go.Proofs.YtmaipaeehalabaaGreat
namespace KM

theorem less_irrefl : ∀ a : List UInt8, Op.bytesLess a a = false
  | [] => rfl
  | x :: a => by simp [Op.bytesLess, less_irrefl a]
theorem less_total : ∀ a b : List UInt8, Op.bytesLess a b = false → a ≠ b → Op.bytesLess b a = true
  | [], [], _, h => absurd rfl h
  | [], _ :: _, h, _ => by simp [Op.bytesLess] at h
  | _ :: _, [], _, _ => by simp [Op.bytesLess]
  | x :: a, y :: b, h, hn => by
    simp only [Op.bytesLess, Bool.or_eq_false_iff, decide_eq_false_iff_not, Bool.or_eq_true, decide_eq_true_eq, Bool.and_eq_true, beq_iff_eq] at h ⊢
    by_cases e : x = y
    · subst e
      refine Or.inr ⟨rfl, less_total a b ?_ (fun e => hn (by rw [e]))⟩
      simpa using h.2
    · refine Or.inl ?_
      have h1 := h.1
      rcases Nat.lt_trichotomy x.toNat y.toNat with h2 | h2 | h2
      · exact absurd (UInt8.lt_iff_toNat_lt.2 h2) h1
      · exact absurd (UInt8.toNat_inj.1 h2) e
      · exact UInt8.lt_iff_toNat_lt.2 h2
theorem less_asymm : ∀ a b : List UInt8, Op.bytesLess a b = true → Op.bytesLess b a = false
  | [], [], h => by simp [Op.bytesLess] at h
  | [], _ :: _, _ => by simp [Op.bytesLess]
  | _ :: _, [], h => by simp [Op.bytesLess] at h
  | x :: a, y :: b, h => by
    simp only [Op.bytesLess, Bool.or_eq_true, decide_eq_true_eq, Bool.and_eq_true, beq_iff_eq] at h
    simp only [Op.bytesLess, Bool.or_eq_false_iff, decide_eq_false_iff_not, Bool.and_eq_false_iff, beq_eq_false_iff_ne]
    rcases h with h | ⟨rfl, h⟩
    · have h' := UInt8.lt_iff_toNat_lt.1 h
      refine ⟨fun h2 => ?_, Or.inl (fun e => ?_)⟩
      · have := UInt8.lt_iff_toNat_lt.1 h2; omega
      · subst e; omega
    · exact ⟨fun h2 => by have := UInt8.lt_iff_toNat_lt.1 h2; omega, Or.inr (less_asymm a b h)⟩

def le (a b : ByteArray) : Bool := Op.bytesLess a.toList b.toList || a.toList == b.toList
def lt (a b : ByteArray) : Bool := Op.bytesLess a.toList b.toList

theorem not_lt (a b : ByteArray) : (!Op.bytesLess a.toList b.toList) = le b a := by
  unfold le
  cases h : Op.bytesLess a.toList b.toList
  · by_cases e : a.toList = b.toList
    · simp [e]
    · simp [less_total _ _ h e]
  · have h2 := less_asymm _ _ h
    have h3 : (b.toList == a.toList) = false := by
      rw [beq_eq_false_iff_ne]
      intro e
      rw [e, less_irrefl] at h
      cases h
    simp [h2, h3]

def lets (l : List UInt8) : Bool := l.all fun b => decide (97 ≤ b.toNat ∧ b.toNat ≤ 122)
def keyB (s : ByteArray) : Bool := decide (1 ≤ s.size ∧ s.size ≤ 3) && lets s.data.toList

theorem take_snoc (s : ByteArray) (k : Nat) (h : k < s.size) : s.data.toList.take (k + 1) = s.data.toList.take k ++ [s[k]] := by
  have hk : k < s.data.toList.length := by simp only [Array.length_toList]; exact h
  rw [List.take_succ_eq_append_getElem hk]
  simp only [Array.getElem_toList]
  rfl
theorem lets_more (s : ByteArray) (k : Nat) (h : k < s.size) (hp : lets (s.data.toList.take k) = true) (h1 : 97 ≤ s[k].toNat) (h2 : s[k].toNat ≤ 122) : lets (s.data.toList.take (k + 1)) = true := by
  rw [take_snoc s k h]
  simp only [lets, List.all_append, Bool.and_eq_true] at *
  exact ⟨hp, by simp [h1, h2]⟩
theorem lets_fall (s : ByteArray) (k : Nat) (h : k < s.size) (hv : ¬ (97 ≤ s[k].toNat ∧ s[k].toNat ≤ 122)) : lets s.data.toList = false := by
  cases hc : lets s.data.toList with
  | false => rfl
  | true =>
    exfalso
    simp only [lets, List.all_eq_true] at hc
    have := hc s[k] (by rw [show s[k] = s.data[k] from rfl]; simp)
    simp at this
    exact hv this
theorem lets_whole (s : ByteArray) (k : Nat) (h : ¬ k < s.size) (hp : lets (s.data.toList.take k) = true) : lets s.data.toList = true := by
  rw [List.take_of_length_le (by simp only [Array.length_toList]; show s.size ≤ k; omega)] at hp
  exact hp

abbrev Rg := ByteArray × ByteArray
def rangeB (r : Rg) : Bool := keyB r.1 && keyB r.2 && le r.1 r.2
def inB (r : Rg) (k : ByteArray) : Bool := le r.1 k && le k r.2

abbrev Wt := ByteArray × ByteArray × Bool
def writeB (x : Wt) : Bool := keyB x.1 && decide (x.2.1.size ≤ 12) && (!x.2.2 || x.2.1.toList.isEmpty)

def writesB (xs : List Wt) : Bool := decide (xs.length ≤ 8) && decide (∀ j (h : j < xs.length), writeB xs[j] = true ∧ ∀ (_ : 0 < j), lt (xs[j - 1]'(by omega)).1 xs[j].1 = true)

end KM
end Go.Proofs.YtmaipaeehalabaaGreat

namespace Go.Proofs.YtmaipaeehalabaaGreat
open Go.RowKit
open KM
attribute [local go_sem ↓] Go.wp_at_zero Go.wp_at_succ

theorem ret_bool {a b : Bool} (h : a = b) : Ending.returned (.bool a) = .returned (.bool b) := by rw [h]
theorem belowRefl (w : World) : Below w.heap.size w w := Below.refl _ _
set_option maxHeartbeats 400000 in
theorem in57 (x lo hi : Int) (b : Bool) (hb : decide (lo ≤ x ∧ x ≤ hi) = b) (w : World) :
    Calls Tryz.prog 60 #[.int .i64 x, .int .i64 lo, .int .i64 hi] w fun e w' => e = .returned (.bool b) ∧ w' = w := by
  have HB : Hid (decide (lo ≤ x ∧ x ≤ hi) = b) := hb
  clear hb
  by_cases h0 : lo ≤ x
  · by_cases h1 : x ≤ hi
    · go_enter Tryz.func60, Tryz.ntmps60
      go_wp2
      go_ret
      exact ⟨ret_bool (by rw [← HB.out]; simp [h0, h1]), rfl⟩
    · have h1' : decide (x ≤ hi) = false := by simpa using h1
      go_enter Tryz.func60, Tryz.ntmps60
      go_wp2
      go_ret
      exact ⟨ret_bool (by rw [← HB.out]; simp [h1]), rfl⟩
  · have h0' : decide (lo ≤ x) = false := by simpa using h0
    go_enter Tryz.func60, Tryz.ntmps60
    go_wp2
    go_ret
    exact ⟨ret_bool (by rw [← HB.out]; simp; omega), rfl⟩

set_option maxRecDepth 100000 in
set_option maxHeartbeats 1000000 in
theorem ikey (s : ByteArray) (w : World) : Calls Tryz.prog 84 #[.string s] w fun e w' => e = .returned (.bool (keyB s)) ∧ w' = w := by
  by_cases h1 : s.size < 1
  · have h1' : (s.size : Int) < 1 := by omega
    have HN : Hid (keyB s = false) := by show _ = _; unfold keyB; rw [show decide (1 ≤ s.size ∧ s.size ≤ 3) = false by simp; omega]; rfl
    clear h1
    go_enter Tryz.func84, Tryz.ntmps84
    go_wp2
    go_ret
    exact ⟨ret_bool HN.out.symm, rfl⟩
  by_cases h3 : 3 < s.size
  · have h1' : decide ((s.size : Int) < 1) = false := by simp; omega
    have h3' : (3 : Int) < s.size := by omega
    have HN : Hid (keyB s = false) := by show _ = _; unfold keyB; rw [show decide (1 ≤ s.size ∧ s.size ≤ 3) = false by simp; omega]; rfl
    clear h1 h3
    go_enter Tryz.func84, Tryz.ntmps84
    go_wp2
    go_ret
    exact ⟨ret_bool HN.out.symm, rfl⟩
  have h1' : decide ((s.size : Int) < 1) = false := by simp; omega
  have h3' : decide ((3 : Int) < s.size) = false := by simp; omega
  have HS : Hid (decide (1 ≤ s.size ∧ s.size ≤ 3) = true) := by show _ = _; simp; omega
  have h33 : s.size ≤ 3 := by omega
  clear h1 h3
  go_enter Tryz.func84, Tryz.ntmps84
  go_wp2
  go_loop [3] (fun t => ∃ k : Nat, k ≤ s.size ∧ t = .int .i64 k ∧ Hid (lets (s.data.toList.take k) = true)) (fun t => s.size - (intOf t).toNat)
  case atStart => exact ⟨0, Nat.zero_le _, rfl, rfl⟩
  case round =>
    obtain ⟨k, hk, rfl, HP⟩ := hrel
    by_cases hlt : k < s.size
    · have hlt' : (k : Int) < (s.size : Int) := by omega
      have h255 : (s[k].toNat : Int) ≤ 255 := by have := s[k].toNat_lt; omega
      by_cases h1 : s[k].toNat < 97
      · have h1' : (s[k].toNat : Int) < 97 := by omega
        have HN : Hid (lets s.data.toList = false) := lets_fall s k hlt (by omega)
        go_wp2
        go_ret
        exact ⟨ret_bool (by unfold keyB; rw [HN.out, Bool.and_false]), rfl⟩
      by_cases h2 : 122 < s[k].toNat
      · have h1' : decide ((s[k].toNat : Int) < 97) = false := by simp; omega
        have h2' : (122 : Int) < (s[k].toNat : Int) := by omega
        have HN : Hid (lets s.data.toList = false) := lets_fall s k hlt (by omega)
        go_wp2
        go_ret
        exact ⟨ret_bool (by unfold keyB; rw [HN.out, Bool.and_false]), rfl⟩
      · have h1' : decide ((s[k].toNat : Int) < 97) = false := by simp; omega
        have h2' : decide ((122 : Int) < (s[k].toNat : Int)) = false := by simp; omega
        have HP2 : Hid (lets (s.data.toList.take (k + 1)) = true) := lets_more s k hlt HP.out (by omega) (by omega)
        go_wp2
        go_round
        case rel => exact ⟨k + 1, by omega, by go_num, HP2⟩
        case measure => simp [intOf]; omega
    · have hd : ¬ (k : Int) < (s.size : Int) := by omega
      have HT : Hid (lets s.data.toList = true) := lets_whole s k hlt HP.out
      go_wp2
      go_ret
      exact ⟨ret_bool (by unfold keyB; rw [HT.out, HS.out]; rfl), rfl⟩

set_option maxRecDepth 100000 in
set_option maxHeartbeats 1000000 in
theorem skey (s : ByteArray) (hz : s.size ≤ 1048576) (w : World) : Calls Tryz.prog 63 #[.string s] w fun e w' => e = .returned (.bool (keyB s)) ∧ w' = w := by
  go_enter Tryz.func63, Tryz.ntmps63
  go_wp2
  go_loop [3] (fun t => ∃ k : Nat, k ≤ s.size ∧ t = .int .i64 k ∧ Hid (lets (s.data.toList.take k) = true)) (fun t => s.size - (intOf t).toNat)
  case atStart => exact ⟨0, Nat.zero_le _, rfl, rfl⟩
  case round =>
    obtain ⟨k, hk, rfl, HP⟩ := hrel
    by_cases hlt : k < s.size
    · have hlt' : (k : Int) < (s.size : Int) := by omega
      have h255 : (s[k].toNat : Int) ≤ 255 := by have := s[k].toNat_lt; omega
      by_cases h1 : s[k].toNat < 97
      · have h1' : (s[k].toNat : Int) < 97 := by omega
        have HN : Hid (lets s.data.toList = false) := lets_fall s k hlt (by omega)
        go_wp2
        go_ret
        exact ⟨ret_bool (by unfold keyB; rw [HN.out, Bool.and_false]), rfl⟩
      by_cases h2 : 122 < s[k].toNat
      · have h1' : decide ((s[k].toNat : Int) < 97) = false := by simp; omega
        have h2' : (122 : Int) < (s[k].toNat : Int) := by omega
        have HN : Hid (lets s.data.toList = false) := lets_fall s k hlt (by omega)
        go_wp2
        go_ret
        exact ⟨ret_bool (by unfold keyB; rw [HN.out, Bool.and_false]), rfl⟩
      · have h1' : decide ((s[k].toNat : Int) < 97) = false := by simp; omega
        have h2' : decide ((122 : Int) < (s[k].toNat : Int)) = false := by simp; omega
        have HP2 : Hid (lets (s.data.toList.take (k + 1)) = true) := lets_more s k hlt HP.out (by omega) (by omega)
        go_wp2
        go_round
        case rel => exact ⟨k + 1, by omega, by go_num, HP2⟩
        case measure => simp [intOf]; omega
    · have hd : ¬ (k : Int) < (s.size : Int) := by omega
      have HT : Hid (lets s.data.toList = true) := lets_whole s k hlt HP.out
      have HI : Hid (decide ((1 : Int) ≤ (s.size : Int) ∧ (s.size : Int) ≤ 3) = decide (1 ≤ s.size ∧ s.size ≤ 3)) := by show _ = _; rw [decide_eq_decide]; omega
      go_wp2_with (go_at_call 60; refine (in57 _ _ _ _ HI.out _).mono ?_; rintro e w2 ⟨rfl, rfl⟩)
      go_ret
      exact ⟨ret_bool (by unfold keyB; rw [HT.out, Bool.and_true]; simp), rfl⟩

set_option maxRecDepth 100000 in
set_option maxHeartbeats 1000000 in
theorem iwrite (k v : ByteArray) (g : Bool) (w : World) : Calls Tryz.prog 86 #[.agg #[.string k, .string v, .bool g]] w fun e w' => e = .returned (.bool (writeB (k, v, g))) ∧ Below w.heap.size w w' := by
  cases hk : keyB k <;> cases g <;> cases he : v.toList.isEmpty <;> by_cases hs : v.size ≤ 12
  · have K1 : Hid (∀ w, Calls Tryz.prog 84 #[.string k] w fun e w' => e = .returned (.bool false) ∧ w' = w) := fun w => hk ▸ ikey k w
    have HN : Hid (writeB (k, v, false) = false) := by show _ = _; unfold writeB; simp [hk, he, hs]
    have he' : (!v.toList.isEmpty) = true := by rw [he]; rfl
    have hs' : decide ((v.size : Int) ≤ 12) = true := by simp; omega
    clear he hs hk
    go_enter Tryz.func86, Tryz.ntmps86
    go_wp2_with (go_at_call 84; refine (K1.out _).mono ?_; rintro e w2 ⟨rfl, rfl⟩)
    go_ret
    exact ⟨ret_bool HN.out.symm, (belowRefl w).alloc (Nat.le_refl _) _⟩
  · have K1 : Hid (∀ w, Calls Tryz.prog 84 #[.string k] w fun e w' => e = .returned (.bool false) ∧ w' = w) := fun w => hk ▸ ikey k w
    have HN : Hid (writeB (k, v, false) = false) := by show _ = _; unfold writeB; simp [hk, he, hs]
    have he' : (!v.toList.isEmpty) = true := by rw [he]; rfl
    have hs' : decide ((v.size : Int) ≤ 12) = false := by simp; omega
    clear he hs hk
    go_enter Tryz.func86, Tryz.ntmps86
    go_wp2_with (go_at_call 84; refine (K1.out _).mono ?_; rintro e w2 ⟨rfl, rfl⟩)
    go_ret
    exact ⟨ret_bool HN.out.symm, (belowRefl w).alloc (Nat.le_refl _) _⟩
  · have K1 : Hid (∀ w, Calls Tryz.prog 84 #[.string k] w fun e w' => e = .returned (.bool false) ∧ w' = w) := fun w => hk ▸ ikey k w
    have HN : Hid (writeB (k, v, false) = false) := by show _ = _; unfold writeB; simp [hk, he, hs]
    have he' : (!v.toList.isEmpty) = false := by rw [he]; rfl
    have hs' : decide ((v.size : Int) ≤ 12) = true := by simp; omega
    clear he hs hk
    go_enter Tryz.func86, Tryz.ntmps86
    go_wp2_with (go_at_call 84; refine (K1.out _).mono ?_; rintro e w2 ⟨rfl, rfl⟩)
    go_ret
    exact ⟨ret_bool HN.out.symm, (belowRefl w).alloc (Nat.le_refl _) _⟩
  · have K1 : Hid (∀ w, Calls Tryz.prog 84 #[.string k] w fun e w' => e = .returned (.bool false) ∧ w' = w) := fun w => hk ▸ ikey k w
    have HN : Hid (writeB (k, v, false) = false) := by show _ = _; unfold writeB; simp [hk, he, hs]
    have he' : (!v.toList.isEmpty) = false := by rw [he]; rfl
    have hs' : decide ((v.size : Int) ≤ 12) = false := by simp; omega
    clear he hs hk
    go_enter Tryz.func86, Tryz.ntmps86
    go_wp2_with (go_at_call 84; refine (K1.out _).mono ?_; rintro e w2 ⟨rfl, rfl⟩)
    go_ret
    exact ⟨ret_bool HN.out.symm, (belowRefl w).alloc (Nat.le_refl _) _⟩
  · have K1 : Hid (∀ w, Calls Tryz.prog 84 #[.string k] w fun e w' => e = .returned (.bool false) ∧ w' = w) := fun w => hk ▸ ikey k w
    have HN : Hid (writeB (k, v, true) = false) := by show _ = _; unfold writeB; simp [hk, he, hs]
    have he' : (!v.toList.isEmpty) = true := by rw [he]; rfl
    have hs' : decide ((v.size : Int) ≤ 12) = true := by simp; omega
    clear he hs hk
    go_enter Tryz.func86, Tryz.ntmps86
    go_wp2_with (go_at_call 84; refine (K1.out _).mono ?_; rintro e w2 ⟨rfl, rfl⟩)
    go_ret
    exact ⟨ret_bool HN.out.symm, (belowRefl w).alloc (Nat.le_refl _) _⟩
  · have K1 : Hid (∀ w, Calls Tryz.prog 84 #[.string k] w fun e w' => e = .returned (.bool false) ∧ w' = w) := fun w => hk ▸ ikey k w
    have HN : Hid (writeB (k, v, true) = false) := by show _ = _; unfold writeB; simp [hk, he, hs]
    have he' : (!v.toList.isEmpty) = true := by rw [he]; rfl
    have hs' : decide ((v.size : Int) ≤ 12) = false := by simp; omega
    clear he hs hk
    go_enter Tryz.func86, Tryz.ntmps86
    go_wp2_with (go_at_call 84; refine (K1.out _).mono ?_; rintro e w2 ⟨rfl, rfl⟩)
    go_ret
    exact ⟨ret_bool HN.out.symm, (belowRefl w).alloc (Nat.le_refl _) _⟩
  · have K1 : Hid (∀ w, Calls Tryz.prog 84 #[.string k] w fun e w' => e = .returned (.bool false) ∧ w' = w) := fun w => hk ▸ ikey k w
    have HN : Hid (writeB (k, v, true) = false) := by show _ = _; unfold writeB; simp [hk, he, hs]
    have he' : (!v.toList.isEmpty) = false := by rw [he]; rfl
    have hs' : decide ((v.size : Int) ≤ 12) = true := by simp; omega
    clear he hs hk
    go_enter Tryz.func86, Tryz.ntmps86
    go_wp2_with (go_at_call 84; refine (K1.out _).mono ?_; rintro e w2 ⟨rfl, rfl⟩)
    go_ret
    exact ⟨ret_bool HN.out.symm, (belowRefl w).alloc (Nat.le_refl _) _⟩
  · have K1 : Hid (∀ w, Calls Tryz.prog 84 #[.string k] w fun e w' => e = .returned (.bool false) ∧ w' = w) := fun w => hk ▸ ikey k w
    have HN : Hid (writeB (k, v, true) = false) := by show _ = _; unfold writeB; simp [hk, he, hs]
    have he' : (!v.toList.isEmpty) = false := by rw [he]; rfl
    have hs' : decide ((v.size : Int) ≤ 12) = false := by simp; omega
    clear he hs hk
    go_enter Tryz.func86, Tryz.ntmps86
    go_wp2_with (go_at_call 84; refine (K1.out _).mono ?_; rintro e w2 ⟨rfl, rfl⟩)
    go_ret
    exact ⟨ret_bool HN.out.symm, (belowRefl w).alloc (Nat.le_refl _) _⟩
  · have K1 : Hid (∀ w, Calls Tryz.prog 84 #[.string k] w fun e w' => e = .returned (.bool true) ∧ w' = w) := fun w => hk ▸ ikey k w
    have HN : Hid (writeB (k, v, false) = true) := by show _ = _; unfold writeB; simp [hk, he, hs]
    have he' : (!v.toList.isEmpty) = true := by rw [he]; rfl
    have hs' : decide ((v.size : Int) ≤ 12) = true := by simp; omega
    clear he hs hk
    go_enter Tryz.func86, Tryz.ntmps86
    go_wp2_with (go_at_call 84; refine (K1.out _).mono ?_; rintro e w2 ⟨rfl, rfl⟩)
    go_ret
    exact ⟨ret_bool HN.out.symm, (belowRefl w).alloc (Nat.le_refl _) _⟩
  · have K1 : Hid (∀ w, Calls Tryz.prog 84 #[.string k] w fun e w' => e = .returned (.bool true) ∧ w' = w) := fun w => hk ▸ ikey k w
    have HN : Hid (writeB (k, v, false) = false) := by show _ = _; unfold writeB; simp [hk, he, hs]
    have he' : (!v.toList.isEmpty) = true := by rw [he]; rfl
    have hs' : decide ((v.size : Int) ≤ 12) = false := by simp; omega
    clear he hs hk
    go_enter Tryz.func86, Tryz.ntmps86
    go_wp2_with (go_at_call 84; refine (K1.out _).mono ?_; rintro e w2 ⟨rfl, rfl⟩)
    go_ret
    exact ⟨ret_bool HN.out.symm, (belowRefl w).alloc (Nat.le_refl _) _⟩
  · have K1 : Hid (∀ w, Calls Tryz.prog 84 #[.string k] w fun e w' => e = .returned (.bool true) ∧ w' = w) := fun w => hk ▸ ikey k w
    have HN : Hid (writeB (k, v, false) = true) := by show _ = _; unfold writeB; simp [hk, he, hs]
    have he' : (!v.toList.isEmpty) = false := by rw [he]; rfl
    have hs' : decide ((v.size : Int) ≤ 12) = true := by simp; omega
    clear he hs hk
    go_enter Tryz.func86, Tryz.ntmps86
    go_wp2_with (go_at_call 84; refine (K1.out _).mono ?_; rintro e w2 ⟨rfl, rfl⟩)
    go_ret
    exact ⟨ret_bool HN.out.symm, (belowRefl w).alloc (Nat.le_refl _) _⟩
  · have K1 : Hid (∀ w, Calls Tryz.prog 84 #[.string k] w fun e w' => e = .returned (.bool true) ∧ w' = w) := fun w => hk ▸ ikey k w
    have HN : Hid (writeB (k, v, false) = false) := by show _ = _; unfold writeB; simp [hk, he, hs]
    have he' : (!v.toList.isEmpty) = false := by rw [he]; rfl
    have hs' : decide ((v.size : Int) ≤ 12) = false := by simp; omega
    clear he hs hk
    go_enter Tryz.func86, Tryz.ntmps86
    go_wp2_with (go_at_call 84; refine (K1.out _).mono ?_; rintro e w2 ⟨rfl, rfl⟩)
    go_ret
    exact ⟨ret_bool HN.out.symm, (belowRefl w).alloc (Nat.le_refl _) _⟩
  · have K1 : Hid (∀ w, Calls Tryz.prog 84 #[.string k] w fun e w' => e = .returned (.bool true) ∧ w' = w) := fun w => hk ▸ ikey k w
    have HN : Hid (writeB (k, v, true) = false) := by show _ = _; unfold writeB; simp [hk, he, hs]
    have he' : (!v.toList.isEmpty) = true := by rw [he]; rfl
    have hs' : decide ((v.size : Int) ≤ 12) = true := by simp; omega
    clear he hs hk
    go_enter Tryz.func86, Tryz.ntmps86
    go_wp2_with (go_at_call 84; refine (K1.out _).mono ?_; rintro e w2 ⟨rfl, rfl⟩)
    go_ret
    exact ⟨ret_bool HN.out.symm, (belowRefl w).alloc (Nat.le_refl _) _⟩
  · have K1 : Hid (∀ w, Calls Tryz.prog 84 #[.string k] w fun e w' => e = .returned (.bool true) ∧ w' = w) := fun w => hk ▸ ikey k w
    have HN : Hid (writeB (k, v, true) = false) := by show _ = _; unfold writeB; simp [hk, he, hs]
    have he' : (!v.toList.isEmpty) = true := by rw [he]; rfl
    have hs' : decide ((v.size : Int) ≤ 12) = false := by simp; omega
    clear he hs hk
    go_enter Tryz.func86, Tryz.ntmps86
    go_wp2_with (go_at_call 84; refine (K1.out _).mono ?_; rintro e w2 ⟨rfl, rfl⟩)
    go_ret
    exact ⟨ret_bool HN.out.symm, (belowRefl w).alloc (Nat.le_refl _) _⟩
  · have K1 : Hid (∀ w, Calls Tryz.prog 84 #[.string k] w fun e w' => e = .returned (.bool true) ∧ w' = w) := fun w => hk ▸ ikey k w
    have HN : Hid (writeB (k, v, true) = true) := by show _ = _; unfold writeB; simp [hk, he, hs]
    have he' : (!v.toList.isEmpty) = false := by rw [he]; rfl
    have hs' : decide ((v.size : Int) ≤ 12) = true := by simp; omega
    clear he hs hk
    go_enter Tryz.func86, Tryz.ntmps86
    go_wp2_with (go_at_call 84; refine (K1.out _).mono ?_; rintro e w2 ⟨rfl, rfl⟩)
    go_ret
    exact ⟨ret_bool HN.out.symm, (belowRefl w).alloc (Nat.le_refl _) _⟩
  · have K1 : Hid (∀ w, Calls Tryz.prog 84 #[.string k] w fun e w' => e = .returned (.bool true) ∧ w' = w) := fun w => hk ▸ ikey k w
    have HN : Hid (writeB (k, v, true) = false) := by show _ = _; unfold writeB; simp [hk, he, hs]
    have he' : (!v.toList.isEmpty) = false := by rw [he]; rfl
    have hs' : decide ((v.size : Int) ≤ 12) = false := by simp; omega
    clear he hs hk
    go_enter Tryz.func86, Tryz.ntmps86
    go_wp2_with (go_at_call 84; refine (K1.out _).mono ?_; rintro e w2 ⟨rfl, rfl⟩)
    go_ret
    exact ⟨ret_bool HN.out.symm, (belowRefl w).alloc (Nat.le_refl _) _⟩

end Go.Proofs.YtmaipaeehalabaaGreat
