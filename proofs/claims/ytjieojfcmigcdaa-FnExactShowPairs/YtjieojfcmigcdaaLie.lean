/- Rows whose block is known to lie between two. -/
import Derived.Test.YtjieojfcmigcdaaH1
namespace Go.Proofs.Ytjieojfcmigcdaa
open Go.RowKit
open KM
attribute [local go_sem ↓] Go.wp_at_zero Go.wp_at_succ

/-- the slice v owns the elements xs, its block lies in lo .. hi -/
structure Lies {α : Type} (E : Enc α) (e : TypeId) (w : World) (lo hi : Nat) (v : Value) (xs : List α) : Prop where
  own : GOwn E e w lo v xs
  up : ∀ g, v.ownBlock = some g → g < hi
section
variable {α : Type} {E : Enc α} {e : TypeId}
theorem Lies.of {w : World} {lo : Nat} {v : Value} {xs : List α} (h : GOwn E e w lo v xs) : Lies E e w lo w.heap.size v xs := ⟨h, fun g hg => (World.ownsRow.lt h g hg).2⟩
theorem Lies.below {w w' : World} {lo hi : Nat} {v : Value} {xs : List α} (h : Lies E e w lo hi v xs) (hb : Below w.heap.size w w') : Lies E e w' lo hi v xs := ⟨h.own.below hb, h.up⟩
theorem Lies.marked {w w' : World} {lo hi : Nat} {v u : Value} {xs : List α} (h : Lies E e w lo hi v xs) (hg : w.grownBy w' u.ownBlock) (hne : ∀ g, u.ownBlock = some g → g < lo ∨ hi ≤ g) : Lies E e w' lo hi v xs := by
  refine ⟨?_, h.up⟩
  obtain ⟨h1, h2⟩ := h.own
  refine ⟨h1, ?_⟩
  rcases h2 with h2 | ⟨g, cap, cur, hv, hg', hh, r⟩
  · exact Or.inl h2
  · refine Or.inr ⟨g, cap, cur, hv, hg', ?_, r⟩
    have hlt : g < w.heap.size := (Array.getElem?_eq_some_iff.1 hh).1
    have hup := h.up g (by rw [hv]; rfl)
    rw [hg.block g hlt (fun e => by have := hne g e.symm; omega)]
    exact hh
theorem Lies.lo {w : World} {lo hi : Nat} {v : Value} {xs : List α} (h : Lies E e w lo hi v xs) : ∀ g, v.ownBlock = some g → lo ≤ g ∧ g < hi := fun g hg => ⟨(World.ownsRow.lt h.own g hg).1, h.up g hg⟩
end
theorem grown_low {w w' : World} {row : Option Nat} {base : Nat} (h : w.grownBy w' row) (hr : ∀ g, row = some g → base ≤ g) (hb : base ≤ w.heap.size) : Below base w w' :=
  ⟨h.os, h.tape, h.output, h.size, fun j hj => h.block j (by omega) (fun e => by have := hr j e.symm; omega)⟩
theorem bx_marked {w w' : World} {b : Nat} {cs : List Value} {row : Option Nat} (h : Bx w b cs) (hg : w.grownBy w' row) (hr : row ≠ some b) : Bx w' b cs := by
  have hb := hg.block b h.lt (fun e => hr e.symm)
  refine ⟨Nat.lt_of_lt_of_le h.lt hg.size, fun j hj => (World.cell?_of_block (w := w) (a := ⟨b, j, none⟩) hb).trans (h.at' j hj), fun j => ?_⟩
  have := h.fz j
  unfold World.frozen? at this ⊢
  simp only at this ⊢
  rw [hb]; exact this
theorem ne_self_int (x : Int) : (x != x) = false := by simp

end Go.Proofs.Ytjieojfcmigcdaa
