/- All keys; lists of pairs held against each other. -/
import Derived.Test.YtblfljmcbpodbaaH4
namespace Go.Proofs.Ytblfljmcbpodbaa
open Go.RowKit
open KM
open VM
attribute [local go_sem ↓] Go.wp_at_zero Go.wp_at_succ

/-- the range of all keys -/
def allR : Rg := (⟨#[97]⟩, ⟨#[122, 122, 122]⟩)

theorem eqA (a b c d : ByteArray) (w : World) : (Op.equalIn 10000 41 (.agg #[.string a, .string b]) (.agg #[.string c, .string d])).run Try.prog w = .ok (decide (a = c) && decide (b = d)) w := by
  have u9 := Try.underlying9
  have a9 := Try.isAgg9
  have z9 := Try.sizeOf9
  have hS : Try.prog.underlying 41 = some (.struct (Try.prog.fieldsOf 41)) := by kernel_rfl
  have hp : Try.prog.stoodInHeld 41 = false := by kernel_rfl
  rw [show (10000 : Nat) = 9999 + 1 from rfl, run_equalIn_agg w 9999 41 _ _ hS hp]
  simp only [Program.fieldsOf, Try.underlying41]
  go_simp
  have i1 : a.toList = c.toList ↔ a = c := ⟨toList_inj, fun e => by rw [e]⟩
  have i2 : b.toList = d.toList ↔ b = d := ⟨toList_inj, fun e => by rw [e]⟩
  by_cases h1 : a = c <;> by_cases h2 : b = d <;> simp [h1, h2, i1, i2]
theorem neA (a b c d : ByteArray) (w : World) : (binOp .neq 41 (.agg #[.string a, .string b]) (.agg #[.string c, .string d])).run Try.prog w = .ok (.bool (!(decide (a = c) && decide (b = d)))) w := by
  rw [run_neq_struct, eqA]
  rfl

end Go.Proofs.Ytblfljmcbpodbaa
