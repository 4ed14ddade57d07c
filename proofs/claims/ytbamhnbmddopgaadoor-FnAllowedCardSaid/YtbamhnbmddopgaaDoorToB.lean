import Derived.Test.YtbamhnbmddopgaaDoorChecked
import Derived.WalkKit
import Derived.ProofKit
import Derived.OpenShut
import Derived.ShutString
import Derived.ChangeOld
import Derived.Below
import Derived.Lib.Hide
import Derived.Deep.MidRow
import Derived.Test.YtbamhnbmddopgaaDoorOwnS
namespace Go.Proofs.YtbamhnbmddopgaaDoor
open Go.ChangeShapes Go.WideShapes Go.ChangeAt Go.RowKit
open Go.ChangeMaps (open_string shut_string)
set_option linter.unusedVariables false
set_option maxRecDepth 100000
theorem Tryd.info_Ban : (Tryd.prog.info? 60).map (fun i => (i.zero, i.size, i.bytes)) = some (some (.agg #[.int .i64 0, .int .i64 0]), 2, 16) := by kernel_rfl
theorem Tryd.size_Ban : (Tryd.prog.info? 60).map (·.size) = some 2 := by kernel_rfl
end Go.Proofs.YtbamhnbmddopgaaDoor
