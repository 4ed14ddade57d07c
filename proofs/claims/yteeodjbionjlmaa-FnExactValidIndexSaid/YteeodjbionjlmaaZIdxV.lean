import Derived.Test.YteeodjbionjlmaaChecked
import Derived.WalkKit
import Derived.ProofKit
import Derived.OpenShut
import Derived.ShutString
import Derived.ChangeOld
import Derived.Below
import Derived.Lib.Hide
import Derived.Test.YteeodjbionjlmaaZIdxS
namespace Go.Proofs.Yteeodjbionjlmaa
open Go.ChangeShapes Go.WideShapes Go.ChangeAt Go.RowKit
open Go.ChangeMaps (open_string shut_string)
set_option linter.unusedVariables false
set_option maxRecDepth 100000
/-- the index's entries: each sound, their words rise -/
def idxE (es : List En) : Bool := chG entB (fun y z => Op.bytesLess y.word.toList z.word.toList) none es
theorem chG_ens : ∀ (rs : List Re) (p : Option Re), chG okR foR p rs = chG entB (fun y z => Op.bytesLess y.word.toList z.word.toList) (p.map Re.m) (ens rs) := by
  intro rs
  induction rs with
  | nil => intro p; rfl
  | cons r rs ih =>
    intro p
    show (lnkG okR foR p r && chG okR foR (some r) rs) = (lnkG entB _ (p.map Re.m) r.m && chG entB _ (some r.m) (ens rs))
    rw [ih (some r)]
    cases p <;> rfl
theorem idxB_eq (rs : List Re) : idxB rs = idxE (ens rs) := chG_ens rs none
theorem impl_ValidIndex_e (A : Option Addr) (n c : Nat) (rs : List Re) (w : World) (h : IdxAt w w.heap.size A n rs) (hf : fitE (ens rs)) :
    Calls Try.prog 40 #[.agg #[.slice A n c]] w fun e w' => e = .returned (.bool (idxE (ens rs))) ∧ Below w.heap.size w w' := by
  rw [← idxB_eq]; exact impl_ValidIndex_any A n c rs w h hf
theorem spec_ValidIndex_e (A : Option Addr) (n c : Nat) (rs : List Re) (w : World) (h : IdxAt w w.heap.size A n rs) (hf : fitE (ens rs)) :
    Calls Try.prog 38 #[.agg #[.slice A n c]] w fun e w' => e = .returned (.bool (idxE (ens rs))) ∧ Below w.heap.size w w' := by
  rw [← idxB_eq]; exact spec_ValidIndex_any A n c rs w h hf
end Go.Proofs.Yteeodjbionjlmaa
