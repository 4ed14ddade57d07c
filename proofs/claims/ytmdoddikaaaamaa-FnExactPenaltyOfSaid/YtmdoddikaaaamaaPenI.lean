import Derived.Test.YtmdoddikaaaamaaChecked
import Derived.WalkKit
import Derived.ProofKit
import Derived.OpenShut
import Derived.ShutString
import Derived.ChangeOld
import Derived.Below
import Derived.Lib.Hide
import Derived.Test.YtmdoddikaaaamaaBase
namespace Go.Proofs.Ytmdoddikaaaamaa
open Go.ChangeShapes Go.WideShapes Go.ChangeAt Go.RowKit
open Go.ChangeMaps (open_string shut_string)
set_option linter.unusedVariables false
set_option maxRecDepth 100000
def penZ (p : Int) : Int := if p < 3 then 0 else if p < 6 then 10 else if p < 12 then 100 else 1000
theorem impl_PenaltyOf_any (p : Int) (w : World) : Calls Try.prog 28 #[.int .i64 p] w fun e w' => e = .returned (.int .i64 (penZ p)) ∧ w = w' := by
  by_cases h0 : p < 3
  · have d0 : decide (p < 3) = true := decide_eq_true h0
    have E : penZ p = 0 := by unfold penZ; split <;> (try split) <;> (try split) <;> omega
    have HE := Lib.hid E; clear E
    go_enter Try.func28, Try.ntmps28
    go_wp2
    go_ret
    exact ⟨ret_int HE.out.symm, rfl⟩
  · have d0 : decide (p < 3) = false := decide_eq_false h0
    by_cases h1 : p < 6
    · have d1 : decide (p < 6) = true := decide_eq_true h1
      have E : penZ p = 10 := by unfold penZ; split <;> (try split) <;> (try split) <;> omega
      have HE := Lib.hid E; clear E
      go_enter Try.func28, Try.ntmps28
      go_wp2
      go_ret
      exact ⟨ret_int HE.out.symm, rfl⟩
    · have d1 : decide (p < 6) = false := decide_eq_false h1
      by_cases h2 : p < 12
      · have d2 : decide (p < 12) = true := decide_eq_true h2
        have E : penZ p = 100 := by unfold penZ; split <;> (try split) <;> (try split) <;> omega
        have HE := Lib.hid E; clear E
        go_enter Try.func28, Try.ntmps28
        go_wp2
        go_ret
        exact ⟨ret_int HE.out.symm, rfl⟩
      · have d2 : decide (p < 12) = false := decide_eq_false h2
        have E : penZ p = 1000 := by unfold penZ; split <;> (try split) <;> (try split) <;> omega
        have HE := Lib.hid E; clear E
        go_enter Try.func28, Try.ntmps28
        go_wp2
        go_ret
        exact ⟨ret_int HE.out.symm, rfl⟩
theorem spec_PenaltyOf_any (p : Int) (w : World) : Calls Try.prog 27 #[.int .i64 p] w fun e w' => e = .returned (.int .i64 (penZ p)) ∧ w = w' := by
  by_cases h0 : p < 3
  · have d0 : decide (p < 3) = true := decide_eq_true h0
    have E : penZ p = 0 := by unfold penZ; split <;> (try split) <;> (try split) <;> omega
    have HE := Lib.hid E; clear E
    go_enter Try.func27, Try.ntmps27
    go_wp2
    go_ret
    exact ⟨ret_int HE.out.symm, rfl⟩
  · have d0 : decide (p < 3) = false := decide_eq_false h0
    by_cases h1 : p < 6
    · have d1 : decide (p < 6) = true := decide_eq_true h1
      have E : penZ p = 10 := by unfold penZ; split <;> (try split) <;> (try split) <;> omega
      have HE := Lib.hid E; clear E
      go_enter Try.func27, Try.ntmps27
      go_wp2
      go_ret
      exact ⟨ret_int HE.out.symm, rfl⟩
    · have d1 : decide (p < 6) = false := decide_eq_false h1
      by_cases h2 : p < 12
      · have d2 : decide (p < 12) = true := decide_eq_true h2
        have E : penZ p = 100 := by unfold penZ; split <;> (try split) <;> (try split) <;> omega
        have HE := Lib.hid E; clear E
        go_enter Try.func27, Try.ntmps27
        go_wp2
        go_ret
        exact ⟨ret_int HE.out.symm, rfl⟩
      · have d2 : decide (p < 12) = false := decide_eq_false h2
        have E : penZ p = 1000 := by unfold penZ; split <;> (try split) <;> (try split) <;> omega
        have HE := Lib.hid E; clear E
        go_enter Try.func27, Try.ntmps27
        go_wp2
        go_ret
        exact ⟨ret_int HE.out.symm, rfl⟩
end Go.Proofs.Ytmdoddikaaaamaa
