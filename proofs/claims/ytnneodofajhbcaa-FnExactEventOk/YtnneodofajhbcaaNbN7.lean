/- A way over a list for each question of a chain: leads. -/
import Derived.Test.YtnneodofajhbcaaNbN4
import Derived.Deep.RegionHeld3
namespace Go.Proofs.Ytnneodofajhbcaa
open Go.RowKit
open KM
attribute [local go_sem ↓] Go.wp_at_zero Go.wp_at_succ

/-- questions in their cells -/
def encF : Enc Nat := ⟨fun q => [.func (.func q) #[] #[]], 1, by decide, fun _ => rfl⟩
/-- a way over one of l for each question -/
def leadB : List (Tx → Tx → Bool) → Tx → List Tx → Bool
  | [], _, _ => true
  | Q :: Qs, t, l => l.any fun x => Q t x && leadB Qs x l
/-- the function q asks Q of two, and can be entered -/
structure AskE (q : Nat) (Q : Tx → Tx → Bool) : Prop where
  en : ∀ (args : Array Value) (w : World), (callFunc q args).run Try.prog w = .ok (.enter q args) w
  ask : Asks q Q
/-- each function asks its question -/
def AskAll : List Nat → List (Tx → Tx → Bool) → Prop
  | [], [] => True
  | q :: qs, Q :: Qs => AskE q Q ∧ AskAll qs Qs
  | _, _ => False
theorem grow_tail {w : World} {b o : Nat} {q : Nat} {qs : List Nat} (h : GRow encF w (some ⟨b, o, none⟩) (q :: qs)) : GRow encF w (some ⟨b, o + 1, none⟩) qs := fun h0 => by
  obtain ⟨b', o', e, hl, hc⟩ := h (by simp)
  cases e
  refine ⟨b, o + 1, rfl, hl, fun j hj i hi => ?_⟩
  have := hc (j + 1) (by simpa using hj) i hi
  simp only [encF] at this ⊢
  rw [show o + 1 + j * 1 + i = o + (j + 1) * 1 + i by omega]
  exact this

theorem lead1 (Q : Tx → Tx → Bool) (l : List Tx) (t : Tx) : leadB [Q] t l = l.any (Q t) := by simp [leadB]

end Go.Proofs.Ytnneodofajhbcaa
