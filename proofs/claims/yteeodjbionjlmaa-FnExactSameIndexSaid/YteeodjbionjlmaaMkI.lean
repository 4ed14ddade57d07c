import Derived.Test.YteeodjbionjlmaaChecked
import Derived.WalkKit
import Derived.ProofKit
import Derived.OpenShut
import Derived.ShutString
import Derived.ChangeOld
import Derived.Below
import Derived.Lib.Hide
import Derived.Test.YteeodjbionjlmaaToI
namespace Go.Proofs.Yteeodjbionjlmaa
open Go.ChangeShapes Go.WideShapes Go.ChangeAt Go.RowKit
open Go.ChangeMaps (open_string shut_string)
set_option linter.unusedVariables false
set_option maxRecDepth 100000
def marksI (k0 n : Nat) : List Iv := (List.range n).map fun i => ⟨((k0 + i * 3 : Nat) : Int), ((k0 + i * 3 + 1 : Nat) : Int), ((k0 + i * 3 + 2 : Nat) : Int)⟩
theorem marksI_len (k0 n : Nat) : (marksI k0 n).length = n := by simp [marksI]
theorem marksI_at (k0 n k : Nat) (h : k < n) : (marksI k0 n)[k]? = some ⟨((k0 + k * 3 : Nat) : Int), ((k0 + k * 3 + 1 : Nat) : Int), ((k0 + k * 3 + 2 : Nat) : Int)⟩ := by simp [marksI, h]
theorem marksI_vals (k0 k : Nat) (z : Int) (hz : z = ((k0 + k * 3 : Nat) : Int)) : ivC ⟨((k0 + k * 3 : Nat) : Int), ((k0 + k * 3 + 1 : Nat) : Int), ((k0 + k * 3 + 2 : Nat) : Int)⟩ = [.int .i64 (z), .int .i64 (z + 1), .int .i64 (z + 1 + 1)] := by
  subst hz
  simp [ivC, Int.add_assoc]
end Go.Proofs.Yteeodjbionjlmaa
