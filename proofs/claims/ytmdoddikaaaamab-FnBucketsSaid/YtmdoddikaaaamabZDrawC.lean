import Derived.Test.YtmdoddikaaaamabChecked
import Derived.WalkKit
import Derived.ProofKit
import Derived.OpenShut
import Derived.ShutString
import Derived.ChangeOld
import Derived.Below
import Derived.Lib.Hide
import Derived.Deep.AppendLies
import Derived.Maps.Range
import Derived.Test.YtmdoddikaaaamabZSrcN
import Derived.Test.YtmdoddikaaaamabZDrawP
namespace Go.Proofs.Ytmdoddikaaaamab
open Go.ChangeShapes Go.WideShapes Go.ChangeAt Go.RowKit
open Go.ChangeMaps (open_string shut_string)
set_option linter.unusedVariables false
set_option maxRecDepth 100000
section
variable {w V V' : World} {S Q : Nat} {A : Option Addr} {n c a a' : Nat} {zs : List Nat} {sd sd' : Int} {o : Bool} {v1 v2 v3 : Value} {l1 l2 l3 : Nat} {ms : List Mb} {vs : List Iv} {bs : List Bn}
theorem own_kept_S {e s m : Nat} {v : Value} {xs : List Value} (h : V.ownsRow (w.heap.size + 1) e s v m xs) (hg : V.grownBy V' (some S)) (hS : S < w.heap.size) : V'.ownsRow (w.heap.size + 1) e s v m xs :=
  h.kept hg (by
    cases hv : v.ownBlock with
    | none => exact .inl rfl
    | some g => right; intro e; injection e with e; have := (h.lt g hv).1; omega)
theorem row_fresh {e s m : Nat} {v : Value} {xs : List Value} (h : V.ownsRow (w.heap.size + 1) e s v m xs) : ∀ j, v.ownBlock = some j → w.heap.size ≤ j := fun j hj => by have := (h.lt j hj).1; omega
end
end Go.Proofs.Ytmdoddikaaaamab
