/- What the listed package-level table gives, cell by cell; and that the door's own heap meets the rows' condition. -/
import Derived.Test.YtojjoekomeamcaaDoorRows
import Derived.Test.YtojjoekomeamcaaDoorK1
import Derived.ProofKit
import Derived.LaidMore
import Derived.Stop.Joined
import Derived.Lib.LaidTab
import Derived.Stop.LaidErr
namespace Go.Proofs.YtojjoekomeamcaaDoor
open Go.ChangeShapes Go.WideShapes Go.ChangeAt Go.RowKit

/-- the rows' list -/
def laid1 : List (String × DataW Unit) := [("loop.example/g00327/impl.halfByteSums", Rows.laid_loop_example_g00327_impl_halfByteSums)]

theorem ownD : ownKnob Tryd.prog.godebug = none := by kernel_rfl
theorem laidOutD : laidOutB Tryd.prog = true := by kernel_rfl

set_option maxRecDepth 100000 in
/-- The door's own heap meets the condition. -/
theorem door_met (os : Os) (args : Array Value) : laidMetH Tryd.prog laid1 ((World.doorLaid Tryd.prog 400 os).forCall (fun _ _ => 0) ⟨#[], args, []⟩).memory :=
  laidMetH_of_parts3 (fuel := 8) (laidMet_of_run' 8 (by kernel_rfl) (by kernel_rfl)) (by kernel_rfl) (by kernel_rfl)

theorem half_tab : (Rows.laid_loop_example_g00327_impl_halfByteSums : DataW Unit) = Lib.tabData .u32 tabZ := by kernel_rfl

theorem tHalf : (Tryd.prog.globals[0]?).map (·.type) = some 49 := by kernel_rfl
theorem c29 : Tryd.prog.cellsOf 29 = 1 := by kernel_rfl
theorem c49 : Tryd.prog.cellsOf 49 = 16 := by kernel_rfl

set_option maxRecDepth 100000 in
theorem tab_of_laid {W : World} (h : laidMetH Tryd.prog laid1 W) : Tab W := by
  rw [MakeChecks.laidMetH_plain _ _ _ (by kernel_rfl)] at h
  have h2 : laidMet Tryd.prog (("loop.example/g00327/impl.halfByteSums", Lib.tabData .u32 tabZ) :: []) W := by
    rw [← half_tab]
    exact h
  exact Lib.tabIs_of_head gTab tHalf Tryd.underlying49 Tryd.underlying29 c29 c49 h2
end Go.Proofs.YtojjoekomeamcaaDoor
