import Derived.Test.YteeodjbionjlmaaChecked
import Derived.WalkKit
import Derived.ProofKit
import Derived.OpenShut
import Derived.ShutString
import Derived.ChangeOld
import Derived.Below
import Derived.Lib.Hide
import Derived.Deep.QuietTactic
import Derived.BigQuiet
import Derived.BigGuardPart
import Derived.Test.YteeodjbionjlmaaJb
import Derived.Test.YteeodjbionjlmaaJq
namespace Go.Proofs.Yteeodjbionjlmaa
open Go.ChangeShapes Go.WideShapes Go.ChangeAt Go.RowKit
open Go.ChangeMaps (open_string shut_string)
set_option linter.unusedVariables false
theorem mayB_yes {r a : Int} (h1 : 0 ≤ r) (h2 : r ≤ 3) (h3 : 0 ≤ a) (h4 : a ≤ 8) (h5 : leastL a ≤ r) : mayB r a = true := by simp [mayB, h1, h2, h3, h4, h5]
theorem mayB_role {r a : Int} (h : ¬ (0 ≤ r ∧ r ≤ 3)) : mayB r a = false := by
  rw [← Bool.not_eq_true]; intro H
  simp only [mayB, Bool.and_eq_true, decide_eq_true_eq] at H
  exact h ⟨H.1.1.1.1, H.1.1.1.2⟩
theorem mayB_act {r a : Int} (h : ¬ (0 ≤ a ∧ a ≤ 8)) : mayB r a = false := by
  rw [← Bool.not_eq_true]; intro H
  simp only [mayB, Bool.and_eq_true, decide_eq_true_eq] at H
  exact h ⟨H.1.1.2, H.1.2⟩
theorem mayB_eq {r a : Int} (h : 0 ≤ r ∧ r ≤ 3) (h' : 0 ≤ a ∧ a ≤ 8) : mayB r a = decide (leastL a ≤ r) := by simp [mayB, h.1, h.2, h'.1, h'.2]
end Go.Proofs.Yteeodjbionjlmaa
