import Derived.Test.YtmdoddikaaaamabChecked
import Derived.WalkKit
import Derived.ProofKit
import Derived.OpenShut
import Derived.ShutString
import Derived.ChangeOld
import Derived.Below
import Derived.Lib.Hide
import Derived.Deep.QuietTactic
import Derived.BigQuiet
import Derived.Test.YtmdoddikaaaamabJr
namespace Go.Proofs.Ytmdoddikaaaamab
open Go.ChangeShapes Go.WideShapes Go.ChangeAt Go.RowKit
open Go.ChangeMaps (open_string shut_string)
set_option linter.unusedVariables false
set_option maxRecDepth 100000
abbrev boolv : Bool → Value := Value.bool
theorem Try.info_bool : (Try.prog.info? 4).map (fun i => (i.zero, i.size, i.bytes)) = some (some (.bool false), 1, 1) := by kernel_rfl
theorem cell_newB (w : World) (t : TypeId) (v : Value) (a : Addr) (ha : a = ⟨w.heap.size, 0, none⟩) : ∀ (j : Nat) (u : Value), [v][j]? = some u → (w.alloc (.cells #[v] t)).cell? (a.add j) = some u := by
  subst ha
  intro j u hu
  have hj : j = 0 := by have := (List.getElem?_eq_some_iff.1 hu).1; simp at this; omega
  subst hj
  simp at hu; subst hu
  simp [Addr.add]
def marksBo (k n : Nat) : List Bool := (List.range n).map fun j => ((((k + j : Nat) : Int) % 3) == 0)
theorem marksBo_len (k n : Nat) : (marksBo k n).length = n := by simp [marksBo]
theorem marksBo_at (k n j : Nat) (hj : j < n) : (marksBo k n)[j]? = some ((((k + j : Nat) : Int) % 3) == 0) := by simp [marksBo, hj]
theorem marksBo_succ (k n : Nat) : marksBo k (n + 1) = marksBo k n ++ [((((k + n : Nat) : Int) % 3) == 0)] := by simp [marksBo, List.range_succ]
end Go.Proofs.Ytmdoddikaaaamab
