import Derived.Test.YteeodjbionjlmaaChecked
import Derived.WalkKit
import Derived.ProofKit
import Derived.OpenShut
import Derived.ShutString
import Derived.ChangeOld
import Derived.Below
import Derived.Lib.Hide
import Derived.Test.YteeodjbionjlmaaJr
import Derived.Test.YteeodjbionjlmaaJya
namespace Go.Proofs.Yteeodjbionjlmaa
open Go.ChangeShapes Go.WideShapes Go.ChangeAt Go.RowKit
open Go.ChangeMaps (open_string shut_string)
set_option linter.unusedVariables false
def rhYes (s : ByteArray) : Ending := .returned (.tuple #[.string (strOfNums (unhL s (s.size / 2))), .bool true])
def rhNo : Ending := .returned (.tuple #[.string ⟨#[]⟩, .bool false])
open Classical in
noncomputable def rhOut (s : ByteArray) : Ending := if s.size % 2 = 0 ∧ s.size ≤ 8000 ∧ HexTo s s.size then rhYes s else rhNo
theorem rhOut_yes {s : ByteArray} (h : s.size % 2 = 0) (h2 : s.size ≤ 8000) (h3 : HexTo s s.size) : rhOut s = rhYes s := by unfold rhOut; rw [if_pos ⟨h, h2, h3⟩]
theorem rhOut_no {s : ByteArray} (h : ¬ (s.size % 2 = 0 ∧ s.size ≤ 8000 ∧ HexTo s s.size)) : rhOut s = rhNo := by unfold rhOut; rw [if_neg h]
end Go.Proofs.Yteeodjbionjlmaa
