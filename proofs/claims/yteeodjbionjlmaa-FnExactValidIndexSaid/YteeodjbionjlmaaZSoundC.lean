import Derived.Test.YteeodjbionjlmaaChecked
import Derived.WalkKit
import Derived.ProofKit
import Derived.OpenShut
import Derived.ShutString
import Derived.ChangeOld
import Derived.Below
import Derived.Lib.Hide
import Derived.Test.YteeodjbionjlmaaZMayC
import Derived.Test.YteeodjbionjlmaaJd
import Derived.Test.YteeodjbionjlmaaZIsMembersC
namespace Go.Proofs.Yteeodjbionjlmaa
open Go.ChangeShapes Go.WideShapes Go.ChangeAt Go.RowKit
open Go.ChangeMaps (open_string shut_string)
set_option linter.unusedVariables false
set_option maxRecDepth 100000
theorem isTick_b (n : Int) (b : Bool) (w : World) (h : tickB n = b) : Calls Try.prog 86 #[.int .i64 n] w fun e w' => e = .returned (.bool b) ∧ w = w' := by
  by_cases h0 : n < 0
  · obtain rfl : b = false := by rw [← h]; simp [tickB]; omega
    clear h
    go_enter Try.func86, Try.ntmps86
    go_wp2
    go_ret
    exact ⟨rfl, rfl⟩
  · have h0' : 0 ≤ n := by omega
    have e : decide (n ≤ 1000000) = b := by rw [← h]; simp [tickB, h0']
    have E := Lib.hid e
    clear h h0 e
    go_enter Try.func86, Try.ntmps86
    go_wp2
    go_ret
    exact ⟨ret_bool E.out, rfl⟩
theorem isMember_b (n : Int) (b : Bool) (w : World) (h : idB n = b) : Calls Try.prog 137 #[.int .i64 n] w fun e w' => e = .returned (.bool b) ∧ w = w' := by
  by_cases hh : 1 ≤ n ∧ n ≤ 1000
  · obtain rfl : b = true := by rw [← h]; simpa [idB] using hh
    exact isMember_yes n w hh
  · obtain rfl : b = false := by rw [← h]; simpa [idB] using hh
    exact isMember_no n w hh
end Go.Proofs.Yteeodjbionjlmaa
