import Derived.Test.YtmnmmjobplbflaaGreatChecked
import Derived.WalkKit
import Derived.ProofKit
import Derived.OpenShut
import Derived.ShutString
import Derived.ChangeOld
import Derived.Below
import Derived.Lib.Hide
import Derived.Deep.QuietTactic
import Derived.BigQuiet
import Derived.BigGuardPart
import Derived.Test.YtmnmmjobplbflaaGreatJb
import Derived.Test.YtmnmmjobplbflaaGreatJq
namespace Go.Proofs.YtmnmmjobplbflaaGreat
open Go.ChangeShapes Go.WideShapes Go.ChangeAt Go.RowKit
open Go.ChangeMaps (open_string shut_string)
set_option linter.unusedVariables false
theorem isRole_any (n : Int) (w : World) :
    Calls Tryz.prog 118 #[.int .i64 n] w fun e w' => e = .returned (.bool (decide (0 ≤ n ∧ n ≤ 3))) ∧ w = w' := by
  by_cases h : 0 ≤ n
  · go_enter Tryz.func118, Tryz.ntmps118
    go_wp2
    go_ret
    exact ⟨ret_bool (by simp [h]), rfl⟩
  · have h2 : ¬ (0 ≤ n ∧ n ≤ 3) := by omega
    have h' : n < 0 := by omega
    go_enter Tryz.func118, Tryz.ntmps118
    go_wp2
    go_ret
    exact ⟨ret_bool (by simp), rfl⟩
theorem mayB_yes {r a : Int} (h1 : 0 ≤ r) (h2 : r ≤ 3) (h3 : 0 ≤ a) (h4 : a ≤ 8) (h5 : leastL a ≤ r) : mayB r a = true := by simp [mayB, h1, h2, h3, h4, h5]
theorem mayB_role {r a : Int} (h : ¬ (0 ≤ r ∧ r ≤ 3)) : mayB r a = false := by
  rw [← Bool.not_eq_true]; intro H
  simp only [mayB, Bool.and_eq_true, decide_eq_true_eq] at H
  exact h ⟨H.1.1.1.1, H.1.1.1.2⟩
theorem mayB_act {r a : Int} (h : ¬ (0 ≤ a ∧ a ≤ 8)) : mayB r a = false := by
  rw [← Bool.not_eq_true]; intro H
  simp only [mayB, Bool.and_eq_true, decide_eq_true_eq] at H
  exact h ⟨H.1.1.2, H.1.2⟩
theorem mayB_eq {r a : Int} (h : 0 ≤ r ∧ r ≤ 3) (h' : 0 ≤ a ∧ a ≤ 8) : mayB r a = decide (leastL a ≤ r) := by simp [mayB, h.1, h.2, h'.1, h'.2]
theorem isRole_yes (n : Int) (w : World) (h : 0 ≤ n ∧ n ≤ 3) : Calls Tryz.prog 118 #[.int .i64 n] w fun e w' => e = .returned (.bool true) ∧ w = w' :=
  (isRole_any n w).mono fun _ _ ⟨he, hw⟩ => ⟨by rw [he, decide_eq_true h], hw⟩
theorem isRole_no (n : Int) (w : World) (h : ¬ (0 ≤ n ∧ n ≤ 3)) : Calls Tryz.prog 118 #[.int .i64 n] w fun e w' => e = .returned (.bool false) ∧ w = w' :=
  (isRole_any n w).mono fun _ _ ⟨he, hw⟩ => ⟨by rw [he, decide_eq_false h], hw⟩
theorem l02Role_yes (n : Int) (w : World) (h : 0 ≤ n ∧ n ≤ 3) : Calls Tryz.prog 56 #[.int .i64 n] w fun e w' => e = .returned (.bool true) ∧ w = w' := by
  go_enter Tryz.func56, Tryz.ntmps56
  go_wp2_with (go_at_call 57; refine (l00In_yes _ _ _ _ h).mono ?_; rintro e w' ⟨rfl, rfl⟩)
  go_ret
  exact ⟨rfl, rfl⟩
theorem l02Role_no (n : Int) (w : World) (h : ¬ (0 ≤ n ∧ n ≤ 3)) : Calls Tryz.prog 56 #[.int .i64 n] w fun e w' => e = .returned (.bool false) ∧ w = w' := by
  go_enter Tryz.func56, Tryz.ntmps56
  go_wp2_with (go_at_call 57; refine (l00In_no _ _ _ _ h).mono ?_; rintro e w' ⟨rfl, rfl⟩)
  go_ret
  exact ⟨rfl, rfl⟩
end Go.Proofs.YtmnmmjobplbflaaGreat
