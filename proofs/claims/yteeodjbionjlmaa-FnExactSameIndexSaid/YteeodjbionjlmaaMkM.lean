import Derived.Test.YteeodjbionjlmaaChecked
import Derived.WalkKit
import Derived.ProofKit
import Derived.OpenShut
import Derived.ShutString
import Derived.ChangeOld
import Derived.Below
import Derived.Lib.Hide
import Derived.Test.YteeodjbionjlmaaToM
namespace Go.Proofs.Yteeodjbionjlmaa
open Go.ChangeShapes Go.WideShapes Go.ChangeAt Go.RowKit
open Go.ChangeMaps (open_string shut_string)
set_option linter.unusedVariables false
set_option maxRecDepth 100000
def marksM (k0 n : Nat) : List Mb := (List.range n).map fun i => ⟨((k0 + i * 4 : Nat) : Int), ((k0 + i * 4 + 1 : Nat) : Int), ((k0 + i * 4 + 2 : Nat) : Int), ((k0 + i * 4 + 3 : Nat) : Int)⟩
theorem marksM_len (k0 n : Nat) : (marksM k0 n).length = n := by simp [marksM]
theorem marksM_at (k0 n k : Nat) (h : k < n) : (marksM k0 n)[k]? = some ⟨((k0 + k * 4 : Nat) : Int), ((k0 + k * 4 + 1 : Nat) : Int), ((k0 + k * 4 + 2 : Nat) : Int), ((k0 + k * 4 + 3 : Nat) : Int)⟩ := by simp [marksM, h]
theorem marksM_vals (k0 k : Nat) (z : Int) (hz : z = ((k0 + k * 4 : Nat) : Int)) : mbC ⟨((k0 + k * 4 : Nat) : Int), ((k0 + k * 4 + 1 : Nat) : Int), ((k0 + k * 4 + 2 : Nat) : Int), ((k0 + k * 4 + 3 : Nat) : Int)⟩ = [.int .i64 (z), .int .i64 (z + 1), .int .i64 (z + 1 + 1), .int .i64 (z + 1 + 1 + 1)] := by
  subst hz
  simp [mbC, Int.add_assoc]
end Go.Proofs.Yteeodjbionjlmaa
