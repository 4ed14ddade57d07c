import Derived.Test.YtmnmmjobplbflaaGreatDoorChecked
import Derived.WalkKit
import Derived.ProofKit
import Derived.OpenShut
import Derived.ShutString
import Derived.ChangeOld
import Derived.Below
import Derived.Lib.Hide
import Derived.Deep.QuietTactic
import Derived.BigQuiet
import Derived.BigGuardPart
import Derived.Test.YtmnmmjobplbflaaGreatDoorJb
import Derived.Test.YtmnmmjobplbflaaGreatDoorJq
namespace Go.Proofs.YtmnmmjobplbflaaGreatDoor
open Go.ChangeShapes Go.WideShapes Go.ChangeAt Go.RowKit
open Go.ChangeMaps (open_string shut_string)
set_option linter.unusedVariables false
theorem least_yes (a : Int) (w : World) (h : 0 ≤ a ∧ a ≤ 8) :
    Calls Tryz.prog 98 #[.int .i64 a] w fun e w' => e = .returned (.tuple #[.int .i64 (leastL a), .bool true]) ∧ w = w' := by
  rcases (by omega : a = 0 ∨ a = 1 ∨ a = 2 ∨ a = 3 ∨ a = 4 ∨ a = 5 ∨ a = 6 ∨ a = 7 ∨ a = 8) with rfl | rfl | rfl | rfl | rfl | rfl | rfl | rfl | rfl
  all_goals
    go_enter Tryz.func98, Tryz.ntmps98
    go_wp2
    go_ret2
    exact ⟨ret_int_ok (by decide), rfl⟩
theorem least_no (a : Int) (w : World) (h : ¬ (0 ≤ a ∧ a ≤ 8)) :
    Calls Tryz.prog 98 #[.int .i64 a] w fun e w' => e = .returned (.tuple #[.int .i64 0, .bool false]) ∧ w = w' := by
  have h0 : (a == 0) = false := by simp; omega
  have h1 : (a == 1) = false := by simp; omega
  have h2 : (a == 2) = false := by simp; omega
  have h3 : (a == 3) = false := by simp; omega
  have h4 : (a == 4) = false := by simp; omega
  have h5 : (a == 5) = false := by simp; omega
  have h6 : (a == 6) = false := by simp; omega
  have h7 : (a == 7) = false := by simp; omega
  have h8 : (a == 8) = false := by simp; omega
  clear h
  go_enter Tryz.func98, Tryz.ntmps98
  go_wp2
  go_ret2
  exact ⟨rfl, rfl⟩
theorem isRole_any (n : Int) (w : World) :
    Calls Tryz.prog 99 #[.int .i64 n] w fun e w' => e = .returned (.bool (decide (0 ≤ n ∧ n ≤ 3))) ∧ w = w' := by
  by_cases h : 0 ≤ n
  · go_enter Tryz.func99, Tryz.ntmps99
    go_wp2
    go_ret
    exact ⟨ret_bool (by simp [h]), rfl⟩
  · have h2 : ¬ (0 ≤ n ∧ n ≤ 3) := by omega
    have h' : n < 0 := by omega
    go_enter Tryz.func99, Tryz.ntmps99
    go_wp2
    go_ret
    exact ⟨ret_bool (by simp), rfl⟩
theorem mayB_yes {r a : Int} (h1 : 0 ≤ r) (h2 : r ≤ 3) (h3 : 0 ≤ a) (h4 : a ≤ 8) (h5 : leastL a ≤ r) : mayB r a = true := by simp [mayB, h1, h2, h3, h4, h5]
theorem mayB_role {r a : Int} (h : ¬ (0 ≤ r ∧ r ≤ 3)) : mayB r a = false := by
  rw [← Bool.not_eq_true]; intro H
  simp only [mayB, Bool.and_eq_true, decide_eq_true_eq] at H
  exact h ⟨H.1.1.1.1, H.1.1.1.2⟩
theorem mayB_act {r a : Int} (h : ¬ (0 ≤ a ∧ a ≤ 8)) : mayB r a = false := by
  rw [← Bool.not_eq_true]; intro H
  simp only [mayB, Bool.and_eq_true, decide_eq_true_eq] at H
  exact h ⟨H.1.1.2, H.1.2⟩
theorem mayB_eq {r a : Int} (h : 0 ≤ r ∧ r ≤ 3) (h' : 0 ≤ a ∧ a ≤ 8) : mayB r a = decide (leastL a ≤ r) := by simp [mayB, h.1, h.2, h'.1, h'.2]
theorem isRole_yes (n : Int) (w : World) (h : 0 ≤ n ∧ n ≤ 3) : Calls Tryz.prog 99 #[.int .i64 n] w fun e w' => e = .returned (.bool true) ∧ w = w' :=
  (isRole_any n w).mono fun _ _ ⟨he, hw⟩ => ⟨by rw [he, decide_eq_true h], hw⟩
theorem isRole_no (n : Int) (w : World) (h : ¬ (0 ≤ n ∧ n ≤ 3)) : Calls Tryz.prog 99 #[.int .i64 n] w fun e w' => e = .returned (.bool false) ∧ w = w' :=
  (isRole_any n w).mono fun _ _ ⟨he, hw⟩ => ⟨by rw [he, decide_eq_false h], hw⟩
theorem impl_RoleMay_any (r a : Int) (w : World) :
    Calls Tryz.prog 51 #[.int .i64 r, .int .i64 a] w fun e w' => e = .returned (.bool (mayB r a)) ∧ w = w' := by
  by_cases ha : 0 ≤ a ∧ a ≤ 8
  · by_cases hr : 0 ≤ r ∧ r ≤ 3
    · have HE := Lib.hid (mayB_eq hr ha)
      go_enter Tryz.func51, Tryz.ntmps51
      go_wp2_with (first | (go_at_call 98; refine (least_yes _ _ ha).mono ?_; rintro e w' ⟨rfl, rfl⟩) | (go_at_call 99; refine (isRole_yes _ _ hr).mono ?_; rintro e w' ⟨rfl, rfl⟩))
      go_ret
      exact ⟨ret_bool HE.out.symm, rfl⟩
    · have HE := Lib.hid (mayB_role (a := a) hr)
      go_enter Tryz.func51, Tryz.ntmps51
      go_wp2_with (first | (go_at_call 98; refine (least_yes _ _ ha).mono ?_; rintro e w' ⟨rfl, rfl⟩) | (go_at_call 99; refine (isRole_no _ _ hr).mono ?_; rintro e w' ⟨rfl, rfl⟩))
      go_ret
      exact ⟨ret_bool HE.out.symm, rfl⟩
  · have HE := Lib.hid (mayB_act (r := r) ha)
    go_enter Tryz.func51, Tryz.ntmps51
    go_wp2_with (go_at_call 98; refine (least_no _ _ ha).mono ?_; rintro e w' ⟨rfl, rfl⟩)
    go_ret
    exact ⟨ret_bool HE.out.symm, rfl⟩
theorem l02Role_yes (n : Int) (w : World) (h : 0 ≤ n ∧ n ≤ 3) : Calls Tryz.prog 124 #[.int .i64 n] w fun e w' => e = .returned (.bool true) ∧ w = w' := by
  go_enter Tryz.func124, Tryz.ntmps124
  go_wp2_with (go_at_call 125; refine (l00In_yes _ _ _ _ h).mono ?_; rintro e w' ⟨rfl, rfl⟩)
  go_ret
  exact ⟨rfl, rfl⟩
theorem l02Role_no (n : Int) (w : World) (h : ¬ (0 ≤ n ∧ n ≤ 3)) : Calls Tryz.prog 124 #[.int .i64 n] w fun e w' => e = .returned (.bool false) ∧ w = w' := by
  go_enter Tryz.func124, Tryz.ntmps124
  go_wp2_with (go_at_call 125; refine (l00In_no _ _ _ _ h).mono ?_; rintro e w' ⟨rfl, rfl⟩)
  go_ret
  exact ⟨rfl, rfl⟩
end Go.Proofs.YtmnmmjobplbflaaGreatDoor
