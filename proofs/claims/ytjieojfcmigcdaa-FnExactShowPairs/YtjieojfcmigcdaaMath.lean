/- Keys, ranges and writes: no Go. -/
import Derived.Test.YtjieojfcmigcdaaProg
import Derived.WalkKit
namespace Go.Proofs.Ytjieojfcmigcdaa
namespace KM

theorem less_irrefl : ∀ a : List UInt8, Op.bytesLess a a = false
  | [] => rfl
  | x :: a => by simp [Op.bytesLess, less_irrefl a]
theorem less_total : ∀ a b : List UInt8, Op.bytesLess a b = false → a ≠ b → Op.bytesLess b a = true
  | [], [], _, h => absurd rfl h
  | [], _ :: _, h, _ => by simp [Op.bytesLess] at h
  | _ :: _, [], _, _ => by simp [Op.bytesLess]
  | x :: a, y :: b, h, hn => by
    simp only [Op.bytesLess, Bool.or_eq_false_iff, decide_eq_false_iff_not, Bool.or_eq_true, decide_eq_true_eq, Bool.and_eq_true, beq_iff_eq] at h ⊢
    by_cases e : x = y
    · subst e
      refine Or.inr ⟨rfl, less_total a b ?_ (fun e => hn (by rw [e]))⟩
      simpa using h.2
    · refine Or.inl ?_
      have h1 := h.1
      rcases Nat.lt_trichotomy x.toNat y.toNat with h2 | h2 | h2
      · exact absurd (UInt8.lt_iff_toNat_lt.2 h2) h1
      · exact absurd (UInt8.toNat_inj.1 h2) e
      · exact UInt8.lt_iff_toNat_lt.2 h2
theorem less_asymm : ∀ a b : List UInt8, Op.bytesLess a b = true → Op.bytesLess b a = false
  | [], [], h => by simp [Op.bytesLess] at h
  | [], _ :: _, _ => by simp [Op.bytesLess]
  | _ :: _, [], h => by simp [Op.bytesLess] at h
  | x :: a, y :: b, h => by
    simp only [Op.bytesLess, Bool.or_eq_true, decide_eq_true_eq, Bool.and_eq_true, beq_iff_eq] at h
    simp only [Op.bytesLess, Bool.or_eq_false_iff, decide_eq_false_iff_not, Bool.and_eq_false_iff, beq_eq_false_iff_ne]
    rcases h with h | ⟨rfl, h⟩
    · have h' := UInt8.lt_iff_toNat_lt.1 h
      refine ⟨fun h2 => ?_, Or.inl (fun e => ?_)⟩
      · have := UInt8.lt_iff_toNat_lt.1 h2; omega
      · subst e; omega
    · exact ⟨fun h2 => by have := UInt8.lt_iff_toNat_lt.1 h2; omega, Or.inr (less_asymm a b h)⟩

/-- a ≤ b as texts -/
def le (a b : ByteArray) : Bool := Op.bytesLess a.toList b.toList || a.toList == b.toList
/-- a < b as texts -/
def lt (a b : ByteArray) : Bool := Op.bytesLess a.toList b.toList

theorem le_eq (a b : ByteArray) : (Op.bytesLess a.toList b.toList || a.toList == b.toList) = le a b := rfl
theorem not_lt (a b : ByteArray) : (!Op.bytesLess a.toList b.toList) = le b a := by
  unfold le
  cases h : Op.bytesLess a.toList b.toList
  · by_cases e : a.toList = b.toList
    · simp [e]
    · simp [less_total _ _ h e]
  · have h2 := less_asymm _ _ h
    have h3 : (b.toList == a.toList) = false := by
      rw [beq_eq_false_iff_ne]
      intro e
      rw [e, less_irrefl] at h
      cases h
    simp [h2, h3]

/-- a right key: 1 to 3 letters -/
def lets (l : List UInt8) : Bool := l.all fun b => decide (97 ≤ b.toNat ∧ b.toNat ≤ 122)
def keyB (s : ByteArray) : Bool := decide (1 ≤ s.size ∧ s.size ≤ 3) && lets s.data.toList

theorem take_snoc (s : ByteArray) (k : Nat) (h : k < s.size) : s.data.toList.take (k + 1) = s.data.toList.take k ++ [s[k]] := by
  have hk : k < s.data.toList.length := by simp only [Array.length_toList]; exact h
  rw [List.take_succ_eq_append_getElem hk]
  simp only [Array.getElem_toList]
  rfl
theorem lets_more (s : ByteArray) (k : Nat) (h : k < s.size) (hp : lets (s.data.toList.take k) = true) (h1 : 97 ≤ s[k].toNat) (h2 : s[k].toNat ≤ 122) : lets (s.data.toList.take (k + 1)) = true := by
  rw [take_snoc s k h]
  simp only [lets, List.all_append, Bool.and_eq_true] at *
  exact ⟨hp, by simp [h1, h2]⟩
theorem lets_fall (s : ByteArray) (k : Nat) (h : k < s.size) (hv : ¬ (97 ≤ s[k].toNat ∧ s[k].toNat ≤ 122)) : lets s.data.toList = false := by
  cases hc : lets s.data.toList with
  | false => rfl
  | true =>
    exfalso
    simp only [lets, List.all_eq_true] at hc
    have := hc s[k] (by rw [show s[k] = s.data[k] from rfl]; simp)
    simp at this
    exact hv this
theorem lets_whole (s : ByteArray) (k : Nat) (h : ¬ k < s.size) (hp : lets (s.data.toList.take k) = true) : lets s.data.toList = true := by
  rw [List.take_of_length_le (by simp only [Array.length_toList]; show s.size ≤ k; omega)] at hp
  exact hp

/-- a range: from, to -/
abbrev Rg := ByteArray × ByteArray
def rangeB (r : Rg) : Bool := keyB r.1 && keyB r.2 && le r.1 r.2
def inB (r : Rg) (k : ByteArray) : Bool := le r.1 k && le k r.2

/-- a write: key, value, gone -/
abbrev Wt := ByteArray × ByteArray × Bool
def writeB (x : Wt) : Bool := keyB x.1 && decide (x.2.1.size ≤ 12) && (!x.2.2 || x.2.1.toList.isEmpty)


/-- at most 8, right, ascending -/
def writesB (xs : List Wt) : Bool := decide (xs.length ≤ 8) && decide (∀ j (h : j < xs.length), writeB xs[j] = true ∧ ∀ (_ : 0 < j), lt (xs[j - 1]'(by omega)).1 xs[j].1 = true)

def touchB (rs : List Rg) (ws : List Wt) : Bool := rs.any fun r => ws.any fun x => inB r x.1
def meetB (xs ys : List Wt) : Bool := xs.any fun x => ys.any fun y => decide (x.1 = y.1)
end KM
end Go.Proofs.Ytjieojfcmigcdaa
