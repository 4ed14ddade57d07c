import Derived.Test.YtgomffcdoglbfaaChecked
import Derived.WalkKit
import Derived.ProofKit
import Derived.OpenShut
import Derived.ShutString
import Derived.ChangeOld
import Derived.Below
import Derived.Lib.Hide
import Derived.Test.YtgomffcdoglbfaaZLogV
import Derived.Test.YtgomffcdoglbfaaZSeenP
namespace Go.Proofs.Ytgomffcdoglbfaa
open Go.ChangeShapes Go.WideShapes Go.ChangeAt Go.RowKit
open Go.ChangeMaps (open_string shut_string)
set_option linter.unusedVariables false
set_option maxRecDepth 100000
theorem cell_newY (w : World) (t : TypeId) (v : Value) (a : Addr) (ha : a = ⟨w.heap.size, 0, none⟩) : ∀ (j : Nat) (u : Value), [v][j]? = some u → (w.alloc (.cells #[v] t)).cell? (a.add j) = some u := by
  subst ha
  intro j u hu
  have hj : j = 0 := by have := (List.getElem?_eq_some_iff.1 hu).1; simp at this; omega
  subst hj
  simp at hu; subst hu
  simp [Addr.add]
/-- numbers in memory of the answer's own, and whether they are told -/
def NumsOut (r : Bool) (l : List Int) (w : World) (e : Ending) (w' : World) : Prop :=
  ∃ A n c zs, e = .returned (.tuple #[.slice A n c, .bool r]) ∧ zs = (if r = true then l else []) ∧ w'.ownsRow w.heap.size 2 1 (.slice A n c) n (zs.map i64v) ∧ Below w.heap.size w w'
theorem numsOut_no {l : List Int} {w w' : World} (h : Below w.heap.size w w') : NumsOut false l w (.returned (.tuple #[.slice none 0 0, .bool false])) w' :=
  ⟨none, 0, 0, [], rfl, by simp, World.ownsRow_nil _ _ _ _, h⟩
end Go.Proofs.Ytgomffcdoglbfaa
