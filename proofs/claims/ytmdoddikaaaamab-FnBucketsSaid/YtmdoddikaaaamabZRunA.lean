import Derived.Test.YtmdoddikaaaamabChecked
import Derived.WalkKit
import Derived.ProofKit
import Derived.OpenShut
import Derived.ShutString
import Derived.ChangeOld
import Derived.Below
import Derived.Lib.Hide
import Derived.Deep.QuietTactic
import Derived.BigQuiet
import Derived.Shelf.Abstract
import Derived.Test.YtmdoddikaaaamabJxa
import Derived.Test.YtmdoddikaaaamabZCalmQ
namespace Go.Proofs.Ytmdoddikaaaamab
open Go.ChangeShapes Go.WideShapes Go.ChangeAt Go.RowKit
open Go.ChangeMaps (open_string shut_string)
set_option linter.unusedVariables false
set_option maxRecDepth 100000
theorem blk_ne {W : World} {base e s m g t : Nat} {v : Value} {ys : List Value} {cs : Array Value} (h : W.ownsRow base e s v m ys) (k : Blk W g t cs) (hne : t ≠ e) : some g ≠ v.ownBlock := by
  rcases row_not_blk h k hne with h | h
  · rw [h]; simp
  · exact fun e => h e.symm
theorem grown_setB (W : World) (g i : Nat) (v : Value) : W.grownBy (W.setCell ⟨g, i, none⟩ v) (some g) :=
  ⟨rfl, rfl, rfl, by simp, fun k hk hne => Below.heap_setCell W _ v k (fun e => hne (by rw [e]))⟩
theorem giveK_true2 (b : Bk) : giveK true b = b := rfl
theorem start_of (f : Int) {xs : List Int} {z : Int} (h : xs[0]? = some z) : startF f xs = decide (f ≤ z) := by
  cases xs with
  | nil => simp at h
  | cons x r => simp at h; subst h; rfl
theorem start_nil (f : Int) {xs : List Int} (h : xs.length = 0) : startF f xs = true := by
  cases xs with
  | nil => rfl
  | cons x r => simp at h
/-- a bucket, bools in memory of the answer's own, and whether they are told -/
def RunsOut (r : Bool) (b : Bk) (l : List Bool) (w : World) (e : Ending) (w' : World) : Prop :=
  ∃ A n c zs, e = .returned (.tuple #[.agg #[.int .i64 b.sz, .int .i64 b.ev, .int .i64 b.lf, .int .i64 b.tm], .slice A n c, .bool r]) ∧ zs = (if r = true then l else []) ∧ w'.ownsRow w.heap.size 4 1 (.slice A n c) n (zs.map boolv) ∧ Below w.heap.size w w'
theorem runsOut_no {b : Bk} {l : List Bool} {w w' : World} (h : Below w.heap.size w w') : RunsOut false (giveK false b) l w (.returned (.tuple #[.agg #[.int .i64 0, .int .i64 0, .int .i64 0, .int .i64 0], .slice none 0 0, .bool false])) w' :=
  ⟨none, 0, 0, [], rfl, rfl, World.ownsRow_nil _ _ _ _, h⟩
theorem row_far {W : World} {base e s m g t : Nat} {v : Value} {ys : List Value} {cs : Array Value} (h : W.ownsRow base e s v m ys) (k : Blk W g t cs) (hne : t ≠ e) (i : Nat) (u : Value) : (W.setCell ⟨g, i, none⟩ u).ownsRow base e s v m ys :=
  h.kept (grown_setB W g i u) (row_not_blk h k hne)
theorem row_far4 {W : World} {base e s m g t : Nat} {v u0 u1 u2 u3 : Value} {ys : List Value} {cs : Array Value} (h : W.ownsRow base e s v m ys) (k : Blk W g t cs) (hne : t ≠ e) :
    ((((W.setCell ⟨g, 0, none⟩ u0).setCell ⟨g, 1, none⟩ u1).setCell ⟨g, 2, none⟩ u2).setCell ⟨g, 3, none⟩ u3).ownsRow base e s v m ys :=
  row_far (row_far (row_far (row_far h k hne 0 u0) (k.set_ 0 u0) hne 1 u1) ((k.set_ 0 u0).set_ 1 u1) hne 2 u2) (((k.set_ 0 u0).set_ 1 u1).set_ 2 u2) hne 3 u3
end Go.Proofs.Ytmdoddikaaaamab
