/- How versions are compared, and which are right. -/
import Derived.Test.YtnneodofajhbcaaR1
import Derived.Test.YtnneodofajhbcaaShelf
import Derived.Deep.RegionHeld
namespace Go.Proofs.Ytnneodofajhbcaa
open Go.RowKit
open KM
attribute [local go_sem ↓] Go.wp_at_zero Go.wp_at_succ

theorem undrew {w w' : World} (h : Below w.drew.heap.size w.drew w') : Below w.heap.size w w' := (belowRefl w).drew.trans h
theorem ret_int {a b : Int} (h : a = b) : Ending.returned (.int .i64 a) = .returned (.int .i64 b) := by rw [h]
def orI (x y : Int) : Int := if x = 0 then y else x

/-- how two versions compare -/
def cmpV (a b : Vr) : Int := orI (Lib.compareBytes a.1.data.toList b.1.data.toList) (Lib.compareInt a.2.2.2 b.2.2.2)

end Go.Proofs.Ytnneodofajhbcaa
