import Derived.Test.YtmdoddikaaaamabChecked
import Derived.WalkKit
import Derived.ProofKit
import Derived.OpenShut
import Derived.ShutString
import Derived.ChangeOld
import Derived.Below
import Derived.Lib.Hide
import Derived.Lib.SmallJoins
import Derived.ChangeArms
import Derived.StillTailTactics
import Derived.Test.YtmdoddikaaaamabZBktP
import Derived.Test.YtmdoddikaaaamabJc
import Derived.Test.YtmdoddikaaaamabZRoomA
namespace Go.Proofs.Ytmdoddikaaaamab
open Go.ChangeShapes Go.WideShapes Go.ChangeAt Go.RowKit
open Go.ChangeMaps (open_string shut_string)
set_option linter.unusedVariables false
open Go.Joins Go.Deep
set_option maxRecDepth 100000
def BkWf (b : Bk) : Prop := (Lit.int .i64 b.sz).wf = true ∧ (Lit.int .i64 b.ev).wf = true ∧ (Lit.int .i64 b.lf).wf = true ∧ (Lit.int .i64 b.tm).wf = true
end Go.Proofs.Ytmdoddikaaaamab
