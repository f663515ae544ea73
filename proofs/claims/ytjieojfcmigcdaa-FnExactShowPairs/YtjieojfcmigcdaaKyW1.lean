/- What WritesOk returns, on both sides. -/
import Derived.Test.YtjieojfcmigcdaaFit
import Derived.Test.YtjieojfcmigcdaaK2
import Derived.Test.YtjieojfcmigcdaaK1
import Derived.WalkSpells
import Derived.WalkLawsBesides
import Derived.Deep.QuietTactic
import Derived.BigQuiet
import Derived.Deep.RegionHeld3
import Derived.Deep.DrawnRows
import Derived.Test.YtjieojfcmigcdaaBx
import Derived.Deep.RegionHeld
namespace Go.Proofs.Ytjieojfcmigcdaa
open Go.RowKit
open KM
attribute [local go_sem ↓] Go.wp_at_zero Go.wp_at_succ

/-- the first k are right, ascending -/
def Good (xs : List Wt) (k : Nat) : Prop := ∀ j (h : j < xs.length), j < k → writeB xs[j] = true ∧ ∀ (_ : 0 < j), lt (xs[j - 1]'(by omega)).1 xs[j].1 = true
theorem good_all {xs : List Wt} {k : Nat} (h : Good xs k) (hk : xs.length ≤ k) (h8 : xs.length ≤ 8) : writesB xs = true := by
  unfold writesB
  simp only [Bool.and_eq_true, decide_eq_true_eq]
  exact ⟨h8, fun j hj => h j hj (by omega)⟩
theorem good_len {xs : List Wt} (h8 : ¬ xs.length ≤ 8) : writesB xs = false := by
  unfold writesB
  rw [decide_eq_false h8]; rfl
theorem good_whole {xs : List Wt} {k : Nat} (h : Good xs k) (hk : xs.length ≤ k) : decide (xs.length ≤ 8) = writesB xs := by
  by_cases h8 : xs.length ≤ 8
  · rw [good_all h hk h8, decide_eq_true h8]
  · rw [good_len h8, decide_eq_false h8]
theorem good_no {xs : List Wt} (k : Nat) (hk : k < xs.length) (h : ¬ (writeB xs[k] = true ∧ ∀ (_ : 0 < k), lt (xs[k - 1]'(by omega)).1 xs[k].1 = true)) : writesB xs = false := by
  cases hw : writesB xs
  · rfl
  · unfold writesB at hw
    simp only [Bool.and_eq_true, decide_eq_true_eq] at hw
    exact absurd (hw.2 k hk) h
theorem good_more {xs : List Wt} {k : Nat} (hg : Good xs k) (hk : k < xs.length) (h : writeB xs[k] = true ∧ ∀ (_ : 0 < k), lt (xs[k - 1]'(by omega)).1 xs[k].1 = true) : Good xs (k + 1) := fun j hj h2 => by
  by_cases e : j = k
  · subst e; exact h
  · exact hg j hj (by omega)

end Go.Proofs.Ytjieojfcmigcdaa
