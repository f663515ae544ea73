/- What KeyOk, InRange, RangeOk and WriteOk return, on both sides. -/
import Derived.Test.YtbajpnbodhhmjaaMath
import Derived.WalkSpells
import Derived.WalkLawsBesides
import Derived.Deep.QuietTactic
import Derived.BigQuiet
import Derived.Deep.RegionHeld3
import Derived.Deep.DrawnRows
namespace Go.Proofs.Ytbajpnbodhhmjaa
open Go.RowKit
open KM
attribute [local go_sem ↓] Go.wp_at_zero Go.wp_at_succ

theorem ret_bool {a b : Bool} (h : a = b) : Ending.returned (.bool a) = .returned (.bool b) := by rw [h]
theorem belowRefl (w : World) : Below w.heap.size w w := Below.refl _ _
theorem bcell {W w1 : World} (hb : Below W.heap.size W w1) : (∀ b o, b < W.heap.size → w1.cell? ⟨b, o, none⟩ = W.cell? ⟨b, o, none⟩) ∧ (∀ b o, b < W.heap.size → w1.frozen? ⟨b, o, none⟩ = W.frozen? ⟨b, o, none⟩) :=
  ⟨fun b o h => hb.cell (p := ⟨b, o, none⟩) h, fun b o h => hb.frozen (p := ⟨b, o, none⟩) h⟩
theorem below_drewN {B : Nat} {a w : World} (h : Below B a w) (n : Nat) : Below B a (w.drewN n) := h.trans ⟨rfl, rfl, rfl, Nat.le_refl _, fun _ _ => rfl⟩

set_option maxRecDepth 100000 in
set_option maxHeartbeats 1000000 in
theorem iin (f t k : ByteArray) (w : World) : Calls Try.prog 28 #[.agg #[.string f, .string t], .string k] w fun e w' => e = .returned (.bool (inB (f, t) k)) ∧ Below w.heap.size w w' := by
  cases h : le f k
  · have h' : (Op.bytesLess f.toList k.toList || f.toList == k.toList) = false := h
    go_enter Try.func28, Try.ntmps28
    go_wp2
    go_ret
    exact ⟨ret_bool (by unfold inB; rw [h]; rfl), (belowRefl w).alloc (Nat.le_refl _) _⟩
  · have h' : (Op.bytesLess f.toList k.toList || f.toList == k.toList) = true := h
    go_enter Try.func28, Try.ntmps28
    go_wp2
    go_ret
    exact ⟨ret_bool (by unfold inB; rw [h]; rfl), (belowRefl w).alloc (Nat.le_refl _) _⟩

set_option maxRecDepth 100000 in
set_option maxHeartbeats 1000000 in
theorem sin (f t k : ByteArray) (w : World) : Calls Try.prog 43 #[.agg #[.string f, .string t], .string k] w fun e w' => e = .returned (.bool (inB (f, t) k)) ∧ Below w.heap.size w w' := by
  cases h : le f k
  · have h' : (!Op.bytesLess k.toList f.toList) = false := (not_lt k f).trans h
    go_enter Try.func43, Try.ntmps43
    go_wp2
    go_ret
    exact ⟨ret_bool (by unfold inB; rw [h]; rfl), (belowRefl w).alloc (Nat.le_refl _) _⟩
  · have h' : (!Op.bytesLess k.toList f.toList) = true := (not_lt k f).trans h
    go_enter Try.func43, Try.ntmps43
    go_wp2
    go_ret
    exact ⟨ret_bool (by unfold inB; rw [h]; rfl), (belowRefl w).alloc (Nat.le_refl _) _⟩

end Go.Proofs.Ytbajpnbodhhmjaa
