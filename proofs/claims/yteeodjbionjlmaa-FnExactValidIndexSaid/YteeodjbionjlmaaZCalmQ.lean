import Derived.Test.YteeodjbionjlmaaChecked
import Derived.WalkKit
import Derived.ProofKit
import Derived.OpenShut
import Derived.ShutString
import Derived.ChangeOld
import Derived.Below
import Derived.Lib.Hide
import Derived.Deep.QuietTactic
import Derived.Test.YteeodjbionjlmaaJb
namespace Go.Proofs.Yteeodjbionjlmaa
open Go.ChangeShapes Go.WideShapes Go.ChangeAt Go.RowKit
open Go.ChangeMaps (open_string shut_string)
set_option linter.unusedVariables false
/-- a world in which all that stood in w stands yet -/
structure Gr (w : World) where
  u : World
  hb : Below w.heap.size w u
instance (w : World) : Nonempty (Gr w) := ⟨⟨w, Below.refl _ _⟩⟩
section
variable {P : Program}
/-- a region that draws its order, whose operations only read, and whose callees leave all that stood in w0 as it was -/
theorem wp_region_calm {id : Nat} {Q : Exit → Act → World → Prop} {a : Act} {w w0 : World} {l : List Oper} (hm : P.follows .mixedOrders = true) (hB : Region.lexB .any l.toArray = true) (h0 : Below w0.heap.size w0 w.drew)
    (h : wpQuiet P l.toArray (fun w' => ∃ s : Gr w0, w' = s.u) (fun a' => ∀ w', (∃ s : Gr w0, w' = s.u) → Q .normal a' w') l a) : (Code.region id l.toArray true).wp P Q a w :=
  wp_region_quiet (C := fun w' => ∃ s : Gr w0, w' = s.u) hm hB ⟨⟨_, h0⟩, rfl⟩ (by simpa using h)
theorem calm_of {f : FuncId} {args : Array Value} {w0 : World} {s : Gr w0} {v : Value} (h : Calls P f args s.u fun e w' => e = .returned v ∧ Below s.u.heap.size s.u w') :
    Calls P f args s.u fun e w'' => e = .returned v ∧ ∃ t : Gr w0, w'' = t.u :=
  h.mono fun _ w'' ⟨he, hb⟩ => ⟨he, ⟨w'', s.hb.trans (hb.mono s.hb.size)⟩, rfl⟩
theorem calm_same {f : FuncId} {args : Array Value} {w0 : World} {s : Gr w0} {v : Value} (h : Calls P f args s.u fun e w' => e = .returned v ∧ s.u = w') :
    Calls P f args s.u fun e w'' => e = .returned v ∧ ∃ t : Gr w0, w'' = t.u :=
  h.mono fun _ w'' ⟨he, hb⟩ => ⟨he, s, hb.symm⟩
end
end Go.Proofs.Yteeodjbionjlmaa
