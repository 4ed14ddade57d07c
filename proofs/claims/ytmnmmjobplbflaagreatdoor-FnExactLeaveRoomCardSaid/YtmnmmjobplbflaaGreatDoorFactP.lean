import Derived.Test.YtmnmmjobplbflaaGreatDoorRows
import Derived.Test.YtmnmmjobplbflaaGreatDoorCards
import Derived.JoinedOf
import Derived.WalkKit
namespace Go.Proofs.YtmnmmjobplbflaaGreatDoor
set_option linter.unusedVariables false
open Go Go.Proofs Go.RowKit
theorem pf_laid : (laidOutB Tryz.prog) = true := by kernel_rfl
theorem pf_mapsRowed : (mapsRowed Tryz.prog) = true := by kernel_rfl
theorem pf_st2 : ((Tryz.prog.stops == [])) = true := by kernel_rfl
theorem pf_kn2 : ((Tryz.prog.stopKnobs == [])) = true := by kernel_rfl
theorem pf_heard : (Tryz.prog.stopsHeard) = true := by kernel_rfl
theorem pf_may : (Tryz.prog.mayEnter) = true := by kernel_rfl
theorem pf_pk : (Rows.fnExactLeaveRoomRow.plainKeys == Tryz.prog.plainKeys) = true := by kernel_rfl
theorem pf_lifted : (Rows.fnExactLeaveRoomRow.lifted == Tryz.prog.liftsFinal) = true := by kernel_rfl
theorem pf_make : (Tryz.prog.make == some Rows.fnExactLeaveRoomRow.make) = true := by kernel_rfl
theorem pf_main : Tryz.prog.mainIs = some (Rows.fnExactLeaveRoomCard.stood.harness.1, Rows.fnExactLeaveRoomCard.stood.harness.2.toList) := by kernel_rfl
theorem pf_looks : true = Tryz.prog.looks [] := by kernel_rfl
theorem band {a b : Bool} (h : a = true) (k : b = true) : (a && b) = true := by rw [h, k]; rfl
end Go.Proofs.YtmnmmjobplbflaaGreatDoor
