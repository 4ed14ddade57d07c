import Derived.Test.YtmdoddikaaaamabChecked
import Derived.WalkKit
import Derived.ProofKit
import Derived.OpenShut
import Derived.ShutString
import Derived.ChangeOld
import Derived.Below
import Derived.Lib.Hide
import Derived.Deep.QuietTactic
import Derived.BigQuiet
import Derived.BigGuardPart
import Derived.Lib.MinMax
import Derived.Test.YtmdoddikaaaamabZBktV
import Derived.Test.YtmdoddikaaaamabZMembersC
namespace Go.Proofs.Ytmdoddikaaaamab
open Go.ChangeShapes Go.WideShapes Go.ChangeAt Go.RowKit
open Go.ChangeMaps (open_string shut_string)
set_option linter.unusedVariables false
set_option maxRecDepth 100000
theorem div_small (x y : Int) (hx : 0 ≤ x ∧ x ≤ 1000000) (hy : 1 ≤ y) : 0 ≤ x / y ∧ x / y ≤ 1000000 := by
  have := Go.IntWalk.tdiv_le x y hx.1 hy
  omega
end Go.Proofs.Ytmdoddikaaaamab
