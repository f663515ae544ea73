/- Who is ahead of whom: the specification of Blocked, OutOf and InOf. -/
import Derived.Test.YtnneodofajhbcaaNbN3
import Derived.Deep.Cut
namespace Go.Proofs.Ytnneodofajhbcaa
open Go.RowKit
open KM
attribute [local go_sem ↓] Go.wp_at_zero Go.wp_at_succ

theorem meet_comm (xs ys : List Wt) : meetB xs ys = meetB ys xs := by
  have h : ∀ (a b : List Wt), meetB a b = true → meetB b a = true := fun a b h => by
    simp only [meetB, List.any_eq_true, decide_eq_true_eq] at h ⊢
    obtain ⟨x, hx, y, hy, e⟩ := h
    exact ⟨y, hy, x, hx, e.symm⟩
  cases h1 : meetB xs ys <;> cases h2 : meetB ys xs
  · rfl
  · rw [h _ _ h2] at h1; cases h1
  · rw [h _ _ h1] at h2; cases h2
  · rfl
theorem any_yes (P : Tx → Bool) (xs : List Ta) (k : Nat) (hk : k < xs.length) (h : P xs[k].t = true) : (txs xs).any P = true :=
  List.any_eq_true.2 ⟨_, List.mem_map.2 ⟨_, List.getElem_mem hk, rfl⟩, h⟩
/-- none of the first k -/
def NoneOf (P : Tx → Bool) (xs : List Ta) (k : Nat) : Prop := ∀ j (hj : j < xs.length), j < k → P xs[j].t = false
theorem none_more {P : Tx → Bool} {xs : List Ta} {k : Nat} (h : NoneOf P xs k) (hk : k < xs.length) (h2 : P xs[k].t = false) : NoneOf P xs (k + 1) := fun j hj hjk => by
  by_cases e : j = k
  · subst e; exact h2
  · exact h j hj (by omega)
theorem any_none {P : Tx → Bool} {xs : List Ta} {k : Nat} (h : NoneOf P xs k) (hk : xs.length ≤ k) : (txs xs).any P = false := by
  rw [List.any_eq_false]
  intro x hx
  obtain ⟨y, hy, rfl⟩ := List.mem_map.1 hx
  obtain ⟨j, hj, rfl⟩ := List.getElem_of_mem hy
  simp [h j hj (by omega)]
def blockedB (t : Tx) (l : List Tx) : Bool := l.any (blkB t)
def readyB (x : Tx) : Bool := decide (x.st = 2)
def doneB (x : Tx) : Bool := decide (x.st = 3)
def outQ (t x : Tx) : Bool := doneB x && ahB t x
def inQ (t x : Tx) : Bool := (readyB x || doneB x) && ahB x t
def outB (t : Tx) (l : List Tx) : Bool := l.any (outQ t)
def intoB (t : Tx) (l : List Tx) : Bool := l.any (inQ t)

end Go.Proofs.Ytnneodofajhbcaa
