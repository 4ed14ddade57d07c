import Derived.Test.YteeodjbionjlmaaChecked
import Derived.WalkKit
import Derived.ProofKit
import Derived.OpenShut
import Derived.ShutString
import Derived.ChangeOld
import Derived.Below
import Derived.Lib.Hide
import Derived.RangeFuncBox
import Derived.RangeFuncNested
import Derived.RangeFuncLeaves
import Derived.RangeFuncBound
import Derived.RangeFuncCalls
import Derived.Shelf.Abstract
import Derived.Test.YteeodjbionjlmaaZRngR
namespace Go.Proofs.Yteeodjbionjlmaa
open Go.ChangeShapes Go.WideShapes Go.ChangeAt Go.RowKit
open Go.ChangeMaps (open_string shut_string)
set_option linter.unusedVariables false
/-- what a body leaves as it lay: walks, and cells of the types of T -/
def held (T : TypeId → Bool) : Obj → Bool
  | .cells _ e _ => T e
  | o => o.isWalk
structure Kt (T : TypeId → Bool) (X Y : World) : Prop where
  size : X.heap.size ≤ Y.heap.size
  same : ∀ (k : Nat) (o : Obj), X.heap[k]? = some o → held T o = true → Y.heap[k]? = some o
theorem Kt.refl (T : TypeId → Bool) (X : World) : Kt T X X := ⟨Nat.le_refl _, fun _ _ h _ => h⟩
theorem Kt.trans {T : TypeId → Bool} {X Y Z : World} (h : Kt T X Y) (k : Kt T Y Z) : Kt T X Z := ⟨Nat.le_trans h.size k.size, fun i o hi hb => k.same i o (h.same i o hi hb) hb⟩
theorem Kt.of_below {T : TypeId → Bool} {X Y : World} (h : Below X.heap.size X Y) : Kt T X Y :=
  ⟨h.size, fun k o hk _ => (h.block k (Array.getElem?_eq_some_iff.1 hk).1).trans hk⟩
theorem Kt.of_grown {T : TypeId → Bool} {X Y : World} {row : Option Nat} (h : X.grownBy Y row) (hr : ∀ r, row = some r → ∀ o, X.heap[r]? = some o → held T o = false) : Kt T X Y :=
  ⟨h.size, fun k o hk hh => (h.block k (Array.getElem?_eq_some_iff.1 hk).1 (fun e => by rw [hr k e.symm o hk] at hh; cases hh)).trans hk⟩
theorem Kt.store {T : TypeId → Bool} {X : World} {B : Nat} {cs : Array Value} {e : TypeId} {fz : Nat × Nat} (h : X.heap[B]? = some (.cells cs e fz)) (he : T e = false) (v : Value) : Kt T X (X.setCell ⟨B, 0, none⟩ v) :=
  .of_grown (grownBy_setCell' X B v) (fun r er o ho => by cases er; rw [h] at ho; cases ho; exact he)
theorem Kt.loop {T : TypeId → Bool} (W : World) (l : Nat) (r r' : Loop) (h : W.heap[l]? = some (.loop r)) : Kt T W (W.putObj l (.loop r')) :=
  .of_grown (grownBy_putObj' W l _) (fun r er o ho => by cases er; rw [h] at ho; cases ho; rfl)
theorem Kt.drew {T : TypeId → Bool} (W : World) : Kt T W W.drew := ⟨Nat.le_refl _, fun _ _ h _ => h⟩
theorem Rl.boxed {t : TypeId} {B b : Nat} {e : TypeId} {v : Value} {X Y : World} (h : Boxed X b e v) (he : e ≠ t ∨ b < B) (k : Rl t B X Y) : Boxed Y b e v :=
  k.same b _ h (he.symm.imp_right (fun z => by simp [loose, z]))
theorem Rl.own {t : TypeId} {B base e size n : Nat} {v : Value} {xs : List Value} {X Y : World} (h : X.ownsRow base e size v n xs) (he : e ≠ t) (k : Rl t B X Y) : Y.ownsRow base e size v n xs := by
  rcases h.2 with ⟨h0, h1⟩ | ⟨g, cap, cur, hv, hg, hh, hn, hcap, hsz, htake⟩
  · exact ⟨h.1, .inl ⟨h0, h1⟩⟩
  · exact ⟨h.1, .inr ⟨g, cap, cur, hv, hg, k.same g _ hh (.inr (by simp [loose, he])), hn, hcap, hsz, htake⟩⟩
theorem Rl.below {t : TypeId} {n0 B : Nat} {w X Y : World} (h : Below n0 w X) (hn : n0 ≤ w.heap.size) (hB : n0 ≤ B) (k : Rl t B X Y) : Below n0 w Y := RlFrom.below t w hn hB () X Y h k
/-- a box that is kept -/
theorem Kt.boxed {T : TypeId → Bool} {b : Nat} {e : TypeId} {v : Value} {X Y : World} (h : Boxed X b e v) (he : T e = true) (k : Kt T X Y) : Boxed Y b e v := k.same b _ h he
theorem Kt.own {T : TypeId → Bool} {base e size n : Nat} {v : Value} {xs : List Value} {X Y : World} (h : X.ownsRow base e size v n xs) (he : T e = true) (k : Kt T X Y) : Y.ownsRow base e size v n xs := by
  rcases h.2 with ⟨h0, h1⟩ | ⟨g, cap, cur, hv, hg, hh, hn, hcap, hsz, htake⟩
  · exact ⟨h.1, .inl ⟨h0, h1⟩⟩
  · exact ⟨h.1, .inr ⟨g, cap, cur, hv, hg, k.same g _ hh he, hn, hcap, hsz, htake⟩⟩
theorem Kt.alloc {T : TypeId → Bool} (X : World) (o : Obj) : Kt T X (X.alloc o) := .of_grown (World.grownBy_alloc X o none) (fun r er => by cases er)
theorem Kt.rowed {T : TypeId → Bool} {X Y : World} {base e size n : Nat} {v : Value} {xs : List Value} {o : Obj} (hv : X.ownsRow base e size v n xs) (he : T e = false) (hg : (X.alloc o).grownBy Y v.ownBlock) : Kt T X Y := by
  refine (Kt.alloc X o).trans (.of_grown hg (fun r er o2 h2 => ?_))
  have hl := hv.lt r er
  rcases hv.2 with ⟨rfl, _⟩ | ⟨g, cap, cur, rfl, hbg, hh, -⟩
  · cases er
  · cases er
    rw [Below.heap_alloc _ _ _ hl.2, hh] at h2
    cases h2
    exact he
theorem Kt.appended {T : TypeId → Bool} {X Y : World} {base B t e size n : Nat} {v u : Value} {xs : List Value} {o : Obj} (hv : X.ownsRow base e size v n xs) (he : T e = false) (ht : T t = false) (hg : (X.alloc o).grownBy Y v.ownBlock) (hb : Boxed Y B t u) (v' : Value) : Kt T X (Y.setCell ⟨B, 0, none⟩ v') :=
  (Kt.rowed hv he hg).trans (Kt.store (show Y.heap[B]? = _ from hb) ht v')
end Go.Proofs.Yteeodjbionjlmaa
