import Derived.Test.YtmnmmjobplbflaaChecked
import Derived.WalkKit
import Derived.ProofKit
import Derived.OpenShut
import Derived.ShutString
import Derived.ChangeOld
import Derived.Below
import Derived.Lib.Hide
import Derived.Test.YtmnmmjobplbflaaZMayC
import Derived.Test.YtmnmmjobplbflaaJd
import Derived.Test.YtmnmmjobplbflaaZIsMembersC
namespace Go.Proofs.Ytmnmmjobplbflaa
open Go.ChangeShapes Go.WideShapes Go.ChangeAt Go.RowKit
open Go.ChangeMaps (open_string shut_string)
set_option linter.unusedVariables false
set_option maxRecDepth 100000
theorem isMember_b (n : Int) (b : Bool) (w : World) (h : idB n = b) : Calls Try.prog 49 #[.int .i64 n] w fun e w' => e = .returned (.bool b) ∧ w = w' := by
  by_cases hh : 1 ≤ n ∧ n ≤ 1000
  · obtain rfl : b = true := by rw [← h]; simpa [idB] using hh
    exact isMember_yes n w hh
  · obtain rfl : b = false := by rw [← h]; simpa [idB] using hh
    exact isMember_no n w hh
end Go.Proofs.Ytmnmmjobplbflaa
