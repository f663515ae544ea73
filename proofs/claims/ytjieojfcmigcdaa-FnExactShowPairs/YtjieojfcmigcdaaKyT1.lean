/- What Touches returns, on both sides. -/
import Derived.Test.YtjieojfcmigcdaaKyW1
namespace Go.Proofs.Ytjieojfcmigcdaa
open Go.RowKit
open KM
attribute [local go_sem ↓] Go.wp_at_zero Go.wp_at_succ

/-- none of the first k ranges holds a key -/
def NoT (rs : List Rg) (ws : List Wt) (k : Nat) : Prop := ∀ j (hj : j < rs.length), j < k → ∀ i (hi : i < ws.length), inB rs[j] ws[i].1 = false
/-- none of the first k keys is in r -/
def NoI (r : Rg) (ws : List Wt) (k : Nat) : Prop := ∀ i (hi : i < ws.length), i < k → inB r ws[i].1 = false
theorem touch_yes {rs : List Rg} {ws : List Wt} (k m : Nat) (hk : k < rs.length) (hm : m < ws.length) (h : inB rs[k] ws[m].1 = true) : touchB rs ws = true := by
  unfold touchB
  rw [List.any_eq_true]
  exact ⟨rs[k], List.getElem_mem hk, by rw [List.any_eq_true]; exact ⟨ws[m], List.getElem_mem hm, h⟩⟩
theorem touch_no {rs : List Rg} {ws : List Wt} {k : Nat} (h : NoT rs ws k) (hk : rs.length ≤ k) : touchB rs ws = false := by
  unfold touchB
  rw [List.any_eq_false]
  intro r hr
  obtain ⟨j, hj, rfl⟩ := List.getElem_of_mem hr
  rw [Bool.not_eq_true, List.any_eq_false]
  intro x hx
  obtain ⟨i, hi, rfl⟩ := List.getElem_of_mem hx
  rw [h j hj (by omega) i hi]
  simp
theorem not_more {rs : List Rg} {ws : List Wt} {k m : Nat} (h : NoT rs ws k) (hk : k < rs.length) (h2 : NoI rs[k] ws m) (hm : ws.length ≤ m) : NoT rs ws (k + 1) := fun j hj hjk i hi => by
  by_cases e : j = k
  · subst e; exact h2 i hi (by omega)
  · exact h j hj (by omega) i hi
theorem noi_more {r : Rg} {ws : List Wt} {m : Nat} (h : NoI r ws m) (hm : m < ws.length) (h2 : inB r ws[m].1 = false) : NoI r ws (m + 1) := fun i hi him => by
  by_cases e : i = m
  · subst e; exact h2
  · exact h i hi (by omega)

end Go.Proofs.Ytjieojfcmigcdaa
