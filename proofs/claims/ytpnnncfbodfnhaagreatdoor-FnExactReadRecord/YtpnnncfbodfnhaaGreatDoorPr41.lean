/- What the listed package-level table gives, cell by cell; and that the door's own heap meets the rows' condition. -/
import Derived.Test.YtpnnncfbodfnhaaGreatDoorRows
import Derived.Test.YtpnnncfbodfnhaaGreatDoorPr33
import Derived.ProofKit
import Derived.LaidMore
import Derived.Stop.Joined
import Derived.Lib.LaidTab
import Derived.Stop.LaidErr
namespace Go.Proofs.YtpnnncfbodfnhaaGreatDoor
open Go.ChangeShapes Go.WideShapes Go.ChangeAt Go.RowKit

def laid1 : List (String × DataW Unit) := [("loop.example/g00327/impl.halfByteSums", Rows.laid_loop_example_g00327_impl_halfByteSums)]

theorem ownD : ownKnob Tryz.prog.godebug = none := by kernel_rfl
theorem laidOutD : laidOutB Tryz.prog = true := by kernel_rfl

set_option maxRecDepth 100000 in
theorem door_met (os : Os) (args : Array Value) : laidMetH Tryz.prog laid1 ((World.doorLaid Tryz.prog 400 os).forCall (fun _ _ => 0) ⟨#[], args, []⟩).memory :=
 laidMetH_of_parts3 (fuel := 8) (laidMet_of_run' 8 (by kernel_rfl) (by kernel_rfl)) (by kernel_rfl) (by kernel_rfl)

theorem half_tab : (Rows.laid_loop_example_g00327_impl_halfByteSums : DataW Unit) = Lib.tabData .u32 tabZ := by kernel_rfl

theorem tHalf : (Tryz.prog.globals[0]?).map (·.type) = some 197 := by kernel_rfl
theorem c29 : Tryz.prog.cellsOf 102 = 1 := by kernel_rfl
theorem c49 : Tryz.prog.cellsOf 197 = 16 := by kernel_rfl

set_option maxRecDepth 100000 in
theorem tab_of_laid {W : World} (h : laidMetH Tryz.prog laid1 W) : Tab W := by
 rw [MakeChecks.laidMetH_plain _ _ _ (by kernel_rfl)] at h
 have h2 : laidMet Tryz.prog (("loop.example/g00327/impl.halfByteSums", Lib.tabData .u32 tabZ) :: []) W := by
  rw [← half_tab]
  exact h
 exact Lib.tabIs_of_head gTab tHalf Tryz.underlying197 Tryz.underlying102 c29 c49 h2
end Go.Proofs.YtpnnncfbodfnhaaGreatDoor
