import Derived.Test.YteeodjbionjlmaaChecked
import Derived.WalkKit
import Derived.ProofKit
import Derived.OpenShut
import Derived.ShutString
import Derived.ChangeOld
import Derived.Below
import Derived.Lib.Hide
import Derived.StillTailTactics
import Derived.Test.YteeodjbionjlmaaToM
namespace Go.Proofs.Yteeodjbionjlmaa
open Go.ChangeShapes Go.WideShapes Go.ChangeAt Go.RowKit
open Go.ChangeMaps (open_string shut_string)
set_option linter.unusedVariables false
set_option maxRecDepth 100000
end Go.Proofs.Yteeodjbionjlmaa
