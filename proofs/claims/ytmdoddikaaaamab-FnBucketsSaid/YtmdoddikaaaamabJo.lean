import Derived.Test.YtmdoddikaaaamabChecked
import Derived.WalkKit
import Derived.ProofKit
import Derived.OpenShut
import Derived.ShutString
import Derived.ChangeOld
import Derived.Below
import Derived.Lib.Hide
import Derived.Deep.AppendLies
import Derived.Test.YtmdoddikaaaamabJd
namespace Go.Proofs.Ytmdoddikaaaamab
open Go.ChangeShapes Go.WideShapes Go.ChangeAt Go.RowKit
open Go.ChangeMaps (open_string shut_string)
set_option linter.unusedVariables false
set_option maxRecDepth 100000
section
variable {w w' : World} {Q e1 e2 e3 : Nat} {o : Bool} {v1 v2 v3 v : Value} {l1 l2 l3 l e : Nat} {ms ms' : List Mb} {vs vs' : List Iv} {bs bs' : List Bn}
theorem own_ge {xs : List Value} (h : w.ownsRow e1 Q l v l1 xs) (he : e ≤ e1) : ∀ g, v.ownBlock = some g → e ≤ g := fun g hg => Nat.le_trans he (h.lt g hg).1
end
theorem alloc_sz' (w : World) (x : Obj) : (w.alloc x).heap.size = w.heap.size + 1 := by simp
theorem own_apart_lt {w1 w2 : World} {b1 e1 s1 n1 b2 e2 s2 n2 : Nat} {v1 v2 : Value} {xs ys : List Value} (h1 : w1.ownsRow b1 e1 s1 v1 n1 xs) (h2 : w2.ownsRow b2 e2 s2 v2 n2 ys) (hb : w1.heap.size ≤ b2) : v1.ownBlock = none ∨ v1.ownBlock ≠ v2.ownBlock := by
  cases hv : v1.ownBlock with
  | none => exact .inl rfl
  | some g =>
    right
    intro e
    have a := (h1.lt g hv).2
    have b := (h2.lt g e.symm).1
    omega
end Go.Proofs.Ytmdoddikaaaamab
