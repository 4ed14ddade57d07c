import Derived.Test.YtmnmmjobplbflaaGreatDoorChecked
import Derived.WalkKit
import Derived.ProofKit
import Derived.OpenShut
import Derived.ShutString
import Derived.ChangeOld
import Derived.Below
import Derived.Lib.Hide
import Derived.Deep.AppendLies
import Derived.Test.YtmnmmjobplbflaaGreatDoorJd
namespace Go.Proofs.YtmnmmjobplbflaaGreatDoor
open Go.ChangeShapes Go.WideShapes Go.ChangeAt Go.RowKit
open Go.ChangeMaps (open_string shut_string)
set_option linter.unusedVariables false
set_option maxRecDepth 100000
/-- a room that is being laid out in a block of its own -/
def OutAt (w : World) (Q e1 e2 e3 : Nat) (o : Bool) (v1 v2 v3 : Value) (l1 l2 l3 : Nat) (ms : List Mb) (vs : List Iv) (bs : List Bn) : Prop :=
  Blk w Q 28 #[.bool o, v1, v2, v3] ∧ w.ownsRow e1 66 4 v1 l1 (ms.flatMap mbC) ∧ w.ownsRow e2 36 3 v2 l2 (vs.flatMap ivC) ∧ w.ownsRow e3 38 2 v3 l3 (bs.flatMap bnC)
section
variable {w w' : World} {Q e1 e2 e3 : Nat} {o : Bool} {v1 v2 v3 v : Value} {l1 l2 l3 l e : Nat} {ms ms' : List Mb} {vs vs' : List Iv} {bs bs' : List Bn}
theorem OutAt.below (h : OutAt w Q e1 e2 e3 o v1 v2 v3 l1 l2 l3 ms vs bs) (hb : Below w.heap.size w w') : OutAt w' Q e1 e2 e3 o v1 v2 v3 l1 l2 l3 ms vs bs :=
  ⟨h.1.below hb h.1.lt, own_below h.2.1 hb (Nat.le_refl _), own_below h.2.2.1 hb (Nat.le_refl _), own_below h.2.2.2 hb (Nat.le_refl _)⟩
theorem OutAt.alloc (h : OutAt w Q e1 e2 e3 o v1 v2 v3 l1 l2 l3 ms vs bs) (x : Obj) : OutAt (w.alloc x) Q e1 e2 e3 o v1 v2 v3 l1 l2 l3 ms vs bs := ⟨h.1.alloc x, h.2.1.alloc x, h.2.2.1.alloc x, h.2.2.2.alloc x⟩
theorem OutAt.setM (h : OutAt w Q e1 e2 e3 o v1 v2 v3 l1 l2 l3 ms vs bs) (ho : w.ownsRow e 66 4 v l (ms'.flatMap mbC)) : OutAt (w.setCell ⟨Q, 1, none⟩ v) Q e e2 e3 o v v2 v3 l l2 l3 ms' vs bs :=
  ⟨h.1.set_ 1 v, ownsRow_setCell_other ho (a := ⟨Q, 1, none⟩) (fun e => blk_apart h.1 ho (by decide) e.symm) v, ownsRow_setCell_other h.2.2.1 (a := ⟨Q, 1, none⟩) (fun e => blk_apart h.1 h.2.2.1 (by decide) e.symm) v, ownsRow_setCell_other h.2.2.2 (a := ⟨Q, 1, none⟩) (fun e => blk_apart h.1 h.2.2.2 (by decide) e.symm) v⟩
theorem OutAt.setI (h : OutAt w Q e1 e2 e3 o v1 v2 v3 l1 l2 l3 ms vs bs) (ho : w.ownsRow e 36 3 v l (vs'.flatMap ivC)) : OutAt (w.setCell ⟨Q, 2, none⟩ v) Q e1 e e3 o v1 v v3 l1 l l3 ms vs' bs :=
  ⟨h.1.set_ 2 v, ownsRow_setCell_other h.2.1 (a := ⟨Q, 2, none⟩) (fun e => blk_apart h.1 h.2.1 (by decide) e.symm) v, ownsRow_setCell_other ho (a := ⟨Q, 2, none⟩) (fun e => blk_apart h.1 ho (by decide) e.symm) v, ownsRow_setCell_other h.2.2.2 (a := ⟨Q, 2, none⟩) (fun e => blk_apart h.1 h.2.2.2 (by decide) e.symm) v⟩
theorem OutAt.setB (h : OutAt w Q e1 e2 e3 o v1 v2 v3 l1 l2 l3 ms vs bs) (ho : w.ownsRow e 38 2 v l (bs'.flatMap bnC)) : OutAt (w.setCell ⟨Q, 3, none⟩ v) Q e1 e2 e o v1 v2 v l1 l2 l ms vs bs' :=
  ⟨h.1.set_ 3 v, ownsRow_setCell_other h.2.1 (a := ⟨Q, 3, none⟩) (fun e => blk_apart h.1 h.2.1 (by decide) e.symm) v, ownsRow_setCell_other h.2.2.1 (a := ⟨Q, 3, none⟩) (fun e => blk_apart h.1 h.2.2.1 (by decide) e.symm) v, ownsRow_setCell_other ho (a := ⟨Q, 3, none⟩) (fun e => blk_apart h.1 ho (by decide) e.symm) v⟩
theorem OutAt.putB (h : OutAt w Q e1 e2 e3 o v1 v2 v3 l1 l2 l3 ms vs bs) (hg : w.grownBy w' v3.ownBlock) (ho : w'.ownsRow e 38 2 v l (bs'.flatMap bnC)) : OutAt (w'.setCell ⟨Q, 3, none⟩ v) Q e1 e2 e o v1 v2 v l1 l2 l ms vs bs' := by
  have hk := h.1.grown hg (blk_apart h.1 h.2.2.2 (by decide))
  have o1 := h.2.1.kept hg (own_types2 h.2.1 h.2.2.2 (by decide))
  have o2 := h.2.2.1.kept hg (own_types2 h.2.2.1 h.2.2.2 (by decide))
  exact ⟨hk.set_ 3 v, ownsRow_setCell_other o1 (a := ⟨Q, 3, none⟩) (fun e => blk_apart hk o1 (by decide) e.symm) v, ownsRow_setCell_other o2 (a := ⟨Q, 3, none⟩) (fun e => blk_apart hk o2 (by decide) e.symm) v, ownsRow_setCell_other ho (a := ⟨Q, 3, none⟩) (fun e => blk_apart hk ho (by decide) e.symm) v⟩
theorem OutAt.putI (h : OutAt w Q e1 e2 e3 o v1 v2 v3 l1 l2 l3 ms vs bs) (hg : w.grownBy w' v2.ownBlock) (ho : w'.ownsRow e 36 3 v l (vs'.flatMap ivC)) : OutAt (w'.setCell ⟨Q, 2, none⟩ v) Q e1 e e3 o v1 v v3 l1 l l3 ms vs' bs := by
  have hk := h.1.grown hg (blk_apart h.1 h.2.2.1 (by decide))
  have o1 := h.2.1.kept hg (own_types2 h.2.1 h.2.2.1 (by decide))
  have o3 := h.2.2.2.kept hg (own_types2 h.2.2.2 h.2.2.1 (by decide))
  exact ⟨hk.set_ 2 v, ownsRow_setCell_other o1 (a := ⟨Q, 2, none⟩) (fun e => blk_apart hk o1 (by decide) e.symm) v, ownsRow_setCell_other ho (a := ⟨Q, 2, none⟩) (fun e => blk_apart hk ho (by decide) e.symm) v, ownsRow_setCell_other o3 (a := ⟨Q, 2, none⟩) (fun e => blk_apart hk o3 (by decide) e.symm) v⟩
/-- the answer's room -/
theorem OutAt.room {A1 A2 A3 : Option Addr} {c1 c2 c3 base : Nat} (h : OutAt w Q e1 e2 e3 o (.slice A1 l1 c1) (.slice A2 l2 c2) (.slice A3 l3 c3) l1 l2 l3 ms vs bs) (h1 : base ≤ e1) (h2 : base ≤ e2) (h3 : base ≤ e3) : RoomOwn w base A1 l1 c1 A2 l2 c2 A3 l3 c3 ms vs bs :=
  ⟨World.ownsRow.mono h.2.1 h1, World.ownsRow.mono h.2.2.1 h2, World.ownsRow.mono h.2.2.2 h3⟩
theorem own_ge {xs : List Value} (h : w.ownsRow e1 Q l v l1 xs) (he : e ≤ e1) : ∀ g, v.ownBlock = some g → e ≤ g := fun g hg => Nat.le_trans he (h.lt g hg).1
end
theorem alloc_sz' (w : World) (x : Obj) : (w.alloc x).heap.size = w.heap.size + 1 := by simp
theorem own_apart_lt {w1 w2 : World} {b1 e1 s1 n1 b2 e2 s2 n2 : Nat} {v1 v2 : Value} {xs ys : List Value} (h1 : w1.ownsRow b1 e1 s1 v1 n1 xs) (h2 : w2.ownsRow b2 e2 s2 v2 n2 ys) (hb : w1.heap.size ≤ b2) : v1.ownBlock = none ∨ v1.ownBlock ≠ v2.ownBlock := by
  cases hv : v1.ownBlock with
  | none => exact .inl rfl
  | some g =>
    right
    intro e
    have a := (h1.lt g hv).2
    have b := (h2.lt g e.symm).1
    omega
end Go.Proofs.YtmnmmjobplbflaaGreatDoor
