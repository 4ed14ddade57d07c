import Derived.Test.YtgomffcdoglbfaaChecked
import Derived.WalkKit
import Derived.ProofKit
import Derived.OpenShut
import Derived.ShutString
import Derived.ChangeOld
import Derived.Below
import Derived.Lib.Hide
import Derived.Laws.StructEq
import Derived.RegionTactic
import Derived.BigRegion
import Derived.Test.YtgomffcdoglbfaaJd
namespace Go.Proofs.Ytgomffcdoglbfaa
open Go.ChangeShapes Go.WideShapes Go.ChangeAt Go.RowKit
open Go.ChangeMaps (open_string shut_string)
set_option linter.unusedVariables false
set_option maxRecDepth 100000
--M{
instance : DecidableEq Mb := fun a b => decidable_of_iff (a.id = b.id ∧ a.role = b.role ∧ a.since = b.since ∧ a.quiet = b.quiet) (by cases a; cases b; simp)
instance : DecidableEq Iv := fun a b => decidable_of_iff (a.id = b.id ∧ a.byy = b.byy ∧ a.til = b.til) (by cases a; cases b; simp)
instance : DecidableEq Bn := fun a b => decidable_of_iff (a.id = b.id ∧ a.til = b.til) (by cases a; cases b; simp)
theorem same_step {α : Type} {xs ys : List α} {k : Nat} {z : α} (h : xs.take k = ys.take k) (h1 : xs[k]? = some z) (h2 : ys[k]? = some z) : xs.take (k + 1) = ys.take (k + 1) := by
  rw [List.take_add_one, List.take_add_one, h, h1, h2]
theorem same_not {α : Type} {xs ys : List α} {k : Nat} {z y : α} (h1 : xs[k]? = some z) (h2 : ys[k]? = some y) (h : z ≠ y) : ¬ xs = ys := by
  rintro rfl
  rw [h1] at h2
  exact h (by injection h2)
theorem same_full {α : Type} {xs ys : List α} {k : Nat} (h : xs.take k = ys.take k) (h1 : xs.length ≤ k) (h2 : ys.length ≤ k) : xs = ys := by
  rwa [List.take_of_length_le h1, List.take_of_length_le h2] at h
theorem mb_eq (a b : Mb) : a = b ↔ (a.id = b.id ∧ a.role = b.role ∧ a.since = b.since ∧ a.quiet = b.quiet) := by cases a; cases b; simp
theorem iv_eq (a b : Iv) : a = b ↔ (a.id = b.id ∧ a.byy = b.byy ∧ a.til = b.til) := by cases a; cases b; simp
theorem bn_eq (a b : Bn) : a = b ↔ (a.id = b.id ∧ a.til = b.til) := by cases a; cases b; simp
--M}
end Go.Proofs.Ytgomffcdoglbfaa
