/- The marks of rows of versions. -/
import Derived.Test.YtjieojfcmigcdaaVMk
namespace Go.Proofs.Ytjieojfcmigcdaa
open Go.RowKit
open KM
attribute [local go_sem ↓] Go.wp_at_zero Go.wp_at_succ
theorem ret_int {a b : Int} (h : a = b) : Ending.returned (.int .i64 a) = .returned (.int .i64 b) := by rw [h]

/-- the flag of a mark -/
def goneQ (q : Nat) : Bool := ((q : Int) + 1 + 1) % 3 == 0
theorem goneQ_eq (q : Nat) : (((q : Int) + 1 + 1) % 3 == 0) = goneQ q := rfl

/-- the marks of a row -/
def mkV (k n : Nat) : List Vr := (List.range n).map fun j => (mkB (k + 4 * j), mkB ((k + 4 * j) + 1), goneQ (k + 4 * j), (((k + 4 * j) : Nat) : Int) + 1 + 1 + 1)
theorem mkV_len (k n : Nat) : (mkV k n).length = n := by simp [mkV]
theorem mkV_at (k n j : Nat) (h : j < n) : (mkV k n)[j]'(by rw [mkV_len]; exact h) = (mkB (k + 4 * j), mkB ((k + 4 * j) + 1), goneQ (k + 4 * j), (((k + 4 * j) : Nat) : Int) + 1 + 1 + 1) := by simp [mkV]

end Go.Proofs.Ytjieojfcmigcdaa
