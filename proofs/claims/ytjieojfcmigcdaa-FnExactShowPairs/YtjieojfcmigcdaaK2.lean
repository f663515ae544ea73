/- The laws FnExactKeyOk, RangeOk, InRange and WriteOk, walked. -/
import Derived.Test.YtjieojfcmigcdaaK1
namespace Go.Proofs.Ytjieojfcmigcdaa
open Go.RowKit
open KM
attribute [local go_sem ↓] Go.wp_at_zero Go.wp_at_succ

theorem bne_self' (b : Bool) : (b != b) = false := by cases b <;> rfl

/-- what szRange, szWrite leave: a number below 0, or the two texts fit -/
def Room (a b : ByteArray) (left r : Int) : Prop := r < 0 ∨ (0 ≤ r ∧ r ≤ left ∧ (a.size : Int) + b.size + r = left)

/-- block b bears the cells cs -/
structure Box (w : World) (b : Nat) (cs : List Value) : Prop where
  lt : b < w.heap.size
  at' : ∀ j, j < cs.length → w.cell? ⟨b, j, none⟩ = cs[j]?
theorem Box.below {w w' : World} {b : Nat} {cs : List Value} (h : Box w b cs) (hb : Below w.heap.size w w') : Box w' b cs :=
  ⟨Nat.lt_of_lt_of_le h.lt hb.size, fun j hj => (hb.cell (p := ⟨b, j, none⟩) h.lt).trans (h.at' j hj)⟩
theorem Box.new (w : World) (cs : List Value) (T : Nat) : Box (w.alloc (.cells cs.toArray T)) w.heap.size cs :=
  ⟨by simp, fun j hj => (World.cell?_alloc_mark w _ T (0, 0) j).trans (by simp)⟩
theorem Box.c0 {w : World} {b : Nat} {x : Value} {r : List Value} (h : Box w b (x :: r)) : w.cell? ⟨b, 0, none⟩ = some x := h.at' 0 (by simp)
theorem Box.c1 {w : World} {b : Nat} {x y : Value} {r : List Value} (h : Box w b (x :: y :: r)) : w.cell? ⟨b, 1, none⟩ = some y := h.at' 1 (by simp)
theorem Box.c2 {w : World} {b : Nat} {x y z : Value} {r : List Value} (h : Box w b (x :: y :: z :: r)) : w.cell? ⟨b, 2, none⟩ = some z := h.at' 2 (by simp)


theorem Box.c3 {w : World} {b : Nat} {x y z u : Value} {r : List Value} (h : Box w b (x :: y :: z :: u :: r)) : w.cell? ⟨b, 3, none⟩ = some u := h.at' 3 (by simp)

end Go.Proofs.Ytjieojfcmigcdaa
