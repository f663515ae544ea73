/- Keys and ranges that are drawn. -/
import Derived.Test.YtjieojfcmigcdaaDr
namespace Go.Proofs.Ytjieojfcmigcdaa
open Go.RowKit
open KM
attribute [local go_sem ↓] Go.wp_at_zero Go.wp_at_succ

/-- the keys that are drawn -/
def keyL : List ByteArray := [⟨#[97]⟩, ⟨#[98]⟩, ⟨#[99]⟩, ⟨#[100]⟩, ⟨#[97, 98]⟩]
/-- a right key, short -/
def KeyD (s : ByteArray) : Prop := keyB s = true ∧ s.size ≤ 3
theorem keyL_ok : ∀ s ∈ keyL, KeyD s := by
  intro s hs
  simp only [keyL, List.mem_cons, List.not_mem_nil, or_false] at hs
  rcases hs with rfl | rfl | rfl | rfl | rfl <;> exact ⟨by decide, by decide⟩

/-- a right range -/
def RgD (r : Rg) : Prop := KeyD r.1 ∧ KeyD r.2 ∧ le r.1 r.2 = true
theorem le_refl' (s : ByteArray) : le s s = true := by unfold le; simp
theorem le_of_not_lt {x y : ByteArray} (h : Op.bytesLess x.toList y.toList = false) : le y x = true := by rw [← not_lt, h]; rfl
theorem le_of_lt {x y : ByteArray} (h : Op.bytesLess x.toList y.toList = true) : le x y = true := by unfold le; rw [h]; rfl

end Go.Proofs.Ytjieojfcmigcdaa
