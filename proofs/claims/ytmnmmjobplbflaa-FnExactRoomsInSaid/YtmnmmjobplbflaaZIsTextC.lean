import Derived.Test.YtmnmmjobplbflaaChecked
import Derived.WalkKit
import Derived.ProofKit
import Derived.OpenShut
import Derived.ShutString
import Derived.ChangeOld
import Derived.Below
import Derived.Lib.Hide
import Derived.Test.YtmnmmjobplbflaaZPlain1
import Derived.Test.YtmnmmjobplbflaaJb
namespace Go.Proofs.Ytmnmmjobplbflaa
open Go.ChangeShapes Go.WideShapes Go.ChangeAt Go.RowKit
open Go.ChangeMaps (open_string shut_string)
set_option linter.unusedVariables false

end Go.Proofs.Ytmnmmjobplbflaa
