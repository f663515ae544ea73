/- What impl.stateOk and readsOk return. -/
import Derived.Test.YtnneodofajhbcaaTxM
import Derived.Test.YtnneodofajhbcaaK1
import Derived.WalkSpells
import Derived.WalkLawsBesides
import Derived.Deep.QuietTactic
import Derived.BigQuiet
import Derived.Deep.RegionHeld3
import Derived.Deep.DrawnRows
namespace Go.Proofs.Ytnneodofajhbcaa
open Go.RowKit
open KM
attribute [local go_sem ↓] Go.wp_at_zero Go.wp_at_succ

/-- the first k reads are right -/
def GoodR (rs : List Rg) (k : Nat) : Prop := ∀ j (h : j < rs.length), j < k → rangeB rs[j] = true
theorem goodR_all {rs : List Rg} {k : Nat} (h : GoodR rs k) (hk : rs.length ≤ k) (h8 : rs.length ≤ 8) : readsB rs = true := by
  unfold readsB
  simp only [Bool.and_eq_true, decide_eq_true_eq, List.all_eq_true]
  exact ⟨h8, fun x hx => by obtain ⟨j, hj, rfl⟩ := List.getElem_of_mem hx; exact h j hj (by omega)⟩
theorem goodR_no {rs : List Rg} (k : Nat) (hk : k < rs.length) (h : rangeB rs[k] = false) : readsB rs = false := by
  cases e : readsB rs with
  | false => rfl
  | true =>
    unfold readsB at e
    simp only [Bool.and_eq_true, decide_eq_true_eq, List.all_eq_true] at e
    rw [e.2 _ (List.getElem_mem hk)] at h; cases h
theorem goodR_len {rs : List Rg} (h8 : ¬ rs.length ≤ 8) : readsB rs = false := by unfold readsB; simp [h8]
theorem goodR_more {rs : List Rg} {k : Nat} (hg : GoodR rs k) (hk : k < rs.length) (h : rangeB rs[k] = true) : GoodR rs (k + 1) := fun j hj h2 => by
  by_cases e : j = k
  · subst e; exact h
  · exact hg j hj (by omega)

end Go.Proofs.Ytnneodofajhbcaa
