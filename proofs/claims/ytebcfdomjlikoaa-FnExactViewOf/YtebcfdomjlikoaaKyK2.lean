/- The laws FnExactKeyOk, RangeOk, InRange and WriteOk, walked. -/
import Derived.Test.YtebcfdomjlikoaaK2
import Derived.Test.YtebcfdomjlikoaaK1
import Derived.WalkSpells
import Derived.WalkLawsBesides
import Derived.Deep.QuietTactic
import Derived.BigQuiet
import Derived.Deep.RegionHeld3
import Derived.Deep.DrawnRows
namespace Go.Proofs.Ytebcfdomjlikoaa
open Go.RowKit
open KM
attribute [local go_sem ↓] Go.wp_at_zero Go.wp_at_succ

set_option maxRecDepth 100000 in
set_option maxHeartbeats 1000000 in
theorem szw (f t : ByteArray) (g : Bool) (left : Int) (h0 : 0 ≤ left) (hl : left ≤ 1048576) (hf : f.size ≤ maxLen) (ht : t.size ≤ maxLen) (w : World) :
    Calls Try.prog 54 #[.agg #[.string f, .string t, .bool g], .int .i64 left] w fun e w' => ∃ r : Int, e = .returned (.int .i64 r) ∧ Room f t left r ∧ Below w.heap.size w w' := by
  unfold maxLen at hf ht
  have e1 : IntKind.i64.wrap (left - (f.size : Int)) = left - f.size := by rw [IntKind.wrap_i64]; omega
  by_cases h1 : left - (f.size : Int) < 0
  · go_enter Try.func54, Try.ntmps54
    go_wp2
    go_ret
    exact ⟨_, rfl, Or.inl (by omega), (belowRefl w).alloc (Nat.le_refl _) _⟩
  have h1' : ¬ left - (f.size : Int) < 0 := h1
  have e2 : IntKind.i64.wrap (left - (f.size : Int) - (t.size : Int)) = left - f.size - t.size := by rw [IntKind.wrap_i64]; omega
  by_cases h2 : left - (f.size : Int) - (t.size : Int) < 0
  · go_enter Try.func54, Try.ntmps54
    go_wp2
    go_ret
    exact ⟨_, rfl, Or.inl (by omega), (belowRefl w).alloc (Nat.le_refl _) _⟩
  · have h2' : ¬ left - (f.size : Int) - (t.size : Int) < 0 := h2
    go_enter Try.func54, Try.ntmps54
    go_wp2
    go_ret
    exact ⟨_, rfl, Or.inr ⟨by omega, by omega, by omega⟩, (belowRefl w).alloc (Nat.le_refl _) _⟩

set_option maxHeartbeats 400000 in
theorem tow (f t : ByteArray) (g : Bool) (w : World) :
    Calls Try.prog 55 #[.agg #[.string f, .string t, .bool g]] w fun e w' => e = .returned (.agg #[.string f, .string t, .bool g]) ∧ Below w.heap.size w w' := by
  go_enter Try.func55, Try.ntmps55
  go_wp2
  exact bodyPost_ret (v := .agg #[.string f, .string t, .bool g]) (by simp [results, Try.results55, go_sem]) rfl ⟨rfl, (((belowRefl w).alloc (Nat.le_refl _) _).alloc (by simp) _).alloc (by simp; omega) _⟩

end Go.Proofs.Ytebcfdomjlikoaa
