/- The marks of rows of ranges and of writes. -/
import Derived.Test.YtjieojfcmigcdaaVMv
import Derived.Test.YtjieojfcmigcdaaLie
import Derived.Test.YtjieojfcmigcdaaE5
namespace Go.Proofs.Ytjieojfcmigcdaa
open Go.RowKit
open KM
attribute [local go_sem ↓] Go.wp_at_zero Go.wp_at_succ


/-- the marks of a row -/
def mkR (k n : Nat) : List Rg := (List.range n).map fun j => (mkB (k + 2 * j), mkB ((k + 2 * j) + 1))
theorem mkR_len (k n : Nat) : (mkR k n).length = n := by simp [mkR]
theorem mkR_at (k n j : Nat) (h : j < n) : (mkR k n)[j]'(by rw [mkR_len]; exact h) = (mkB (k + 2 * j), mkB ((k + 2 * j) + 1)) := by simp [mkR]

/-- the marks of a row -/
def mkW (k n : Nat) : List Wt := (List.range n).map fun j => (mkB (k + 3 * j), mkB ((k + 3 * j) + 1), goneQ (k + 3 * j))
theorem mkW_len (k n : Nat) : (mkW k n).length = n := by simp [mkW]
theorem mkW_at (k n j : Nat) (h : j < n) : (mkW k n)[j]'(by rw [mkW_len]; exact h) = (mkB (k + 3 * j), mkB ((k + 3 * j) + 1), goneQ (k + 3 * j)) := by simp [mkW]

end Go.Proofs.Ytjieojfcmigcdaa
