import Derived.Test.YteeodjbionjlmaaChecked
import Derived.WalkKit
import Derived.ProofKit
import Derived.OpenShut
import Derived.ShutString
import Derived.ChangeOld
import Derived.Below
import Derived.Lib.Hide
import Derived.Test.YteeodjbionjlmaaZIdxW
namespace Go.Proofs.Yteeodjbionjlmaa
open Go.ChangeShapes Go.WideShapes Go.ChangeAt Go.RowKit
open Go.ChangeMaps (open_string shut_string)
set_option linter.unusedVariables false
set_option maxRecDepth 100000
/-- an index as the chapter has it -/
def idxB (rs : List Re) : Bool := chG okR foR none rs
theorem impl_ValidIndex_any (A : Option Addr) (n c : Nat) (rs : List Re) (w : World) (h : IdxAt w w.heap.size A n rs) (hf : fitE (ens rs)) :
    Calls Try.prog 40 #[.agg #[.slice A n c]] w fun e w' => e = .returned (.bool (idxB rs)) ∧ Below w.heap.size w w' := by
  have hn := fitE_n h hf
  have HL := Lib.hid h.len
  go_enter Try.func40, Try.ntmps40
  go_wp2_with fail
  obtain ⟨k0, hb0⟩ := one_box w 52 #[.slice A n c]
  generalize w.alloc (.cells #[.slice A n c] 52) = W at *
  go_at_call 90; refine (isRowE_any A n c n rs _ (h.to hb0) hf hn hn).mono ?_; rintro e w2 ⟨rfl, hb2⟩
  have hb := hb0.trans (hb2.mono hb0.size)
  clear hb0 hb2 k0
  go_wp2
  go_ret
  exact ⟨ret_bool (by simp [rowG, idxB, HL.out]), hb⟩
end Go.Proofs.Yteeodjbionjlmaa
