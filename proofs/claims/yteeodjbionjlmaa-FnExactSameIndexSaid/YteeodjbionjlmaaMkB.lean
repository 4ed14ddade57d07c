import Derived.Test.YteeodjbionjlmaaChecked
import Derived.WalkKit
import Derived.ProofKit
import Derived.OpenShut
import Derived.ShutString
import Derived.ChangeOld
import Derived.Below
import Derived.Lib.Hide
import Derived.Test.YteeodjbionjlmaaToB
namespace Go.Proofs.Yteeodjbionjlmaa
open Go.ChangeShapes Go.WideShapes Go.ChangeAt Go.RowKit
open Go.ChangeMaps (open_string shut_string)
set_option linter.unusedVariables false
set_option maxRecDepth 100000
def marksB (k0 n : Nat) : List Bn := (List.range n).map fun i => ⟨((k0 + i * 2 : Nat) : Int), ((k0 + i * 2 + 1 : Nat) : Int)⟩
theorem marksB_len (k0 n : Nat) : (marksB k0 n).length = n := by simp [marksB]
theorem marksB_at (k0 n k : Nat) (h : k < n) : (marksB k0 n)[k]? = some ⟨((k0 + k * 2 : Nat) : Int), ((k0 + k * 2 + 1 : Nat) : Int)⟩ := by simp [marksB, h]
theorem marksB_vals (k0 k : Nat) (z : Int) (hz : z = ((k0 + k * 2 : Nat) : Int)) : bnC ⟨((k0 + k * 2 : Nat) : Int), ((k0 + k * 2 + 1 : Nat) : Int)⟩ = [.int .i64 (z), .int .i64 (z + 1)] := by
  subst hz
  simp [bnC, Int.add_assoc]
end Go.Proofs.Yteeodjbionjlmaa
