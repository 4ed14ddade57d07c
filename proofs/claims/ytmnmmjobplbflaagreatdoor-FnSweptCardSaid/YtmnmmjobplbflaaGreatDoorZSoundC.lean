import Derived.Test.YtmnmmjobplbflaaGreatDoorChecked
import Derived.WalkKit
import Derived.ProofKit
import Derived.OpenShut
import Derived.ShutString
import Derived.ChangeOld
import Derived.Below
import Derived.Lib.Hide
import Derived.Test.YtmnmmjobplbflaaGreatDoorZMayC
import Derived.Test.YtmnmmjobplbflaaGreatDoorJd
import Derived.Test.YtmnmmjobplbflaaGreatDoorZIsMembersC
namespace Go.Proofs.YtmnmmjobplbflaaGreatDoor
open Go.ChangeShapes Go.WideShapes Go.ChangeAt Go.RowKit
open Go.ChangeMaps (open_string shut_string)
set_option linter.unusedVariables false
set_option maxRecDepth 100000
theorem isTick_b (n : Int) (b : Bool) (w : World) (h : tickB n = b) : Calls Tryz.prog 50 #[.int .i64 n] w fun e w' => e = .returned (.bool b) ∧ w = w' := by
  by_cases h0 : n < 0
  · obtain rfl : b = false := by rw [← h]; simp [tickB]; omega
    clear h
    go_enter Tryz.func50, Tryz.ntmps50
    go_wp2
    go_ret
    exact ⟨rfl, rfl⟩
  · have h0' : 0 ≤ n := by omega
    have e : decide (n ≤ 1000000) = b := by rw [← h]; simp [tickB, h0']
    have E := Lib.hid e
    clear h h0 e
    go_enter Tryz.func50, Tryz.ntmps50
    go_wp2
    go_ret
    exact ⟨ret_bool E.out, rfl⟩
theorem isRole_b (n : Int) (b : Bool) (w : World) (h : roleB n = b) : Calls Tryz.prog 99 #[.int .i64 n] w fun e w' => e = .returned (.bool b) ∧ w = w' := by
  subst h
  exact isRole_any n w
theorem isMember_b (n : Int) (b : Bool) (w : World) (h : idB n = b) : Calls Tryz.prog 117 #[.int .i64 n] w fun e w' => e = .returned (.bool b) ∧ w = w' := by
  by_cases hh : 1 ≤ n ∧ n ≤ 1000
  · obtain rfl : b = true := by rw [← h]; simpa [idB] using hh
    exact isMember_yes n w hh
  · obtain rfl : b = false := by rw [← h]; simpa [idB] using hh
    exact isMember_no n w hh
theorem MemberSound_b (z : Mb) (b : Bool) (w : World) (h : mbB z = b) :
    Calls Tryz.prog 183 #[.agg #[.int .i64 z.id, .int .i64 z.role, .int .i64 z.since, .int .i64 z.quiet]] w fun e w' => e = .returned (.bool b) ∧ Below w.heap.size w w' := by
  cases t1 : roleB z.role with
  | false =>
    obtain rfl : b = false := by rw [← h]; simp [mbB, t1]
    clear h
    go_enter Tryz.func183, Tryz.ntmps183
    go_wp2_with (go_at_call 99; refine (isRole_b _ _ _ t1).mono ?_; rintro e w' ⟨rfl, rfl⟩)
    go_ret
    exact ⟨rfl, (Below.refl _ _).alloc (Nat.le_refl _) _⟩
  | true =>
    cases t2 : tickB z.since with
    | false =>
      obtain rfl : b = false := by rw [← h]; simp [mbB, t2]
      clear h
      go_enter Tryz.func183, Tryz.ntmps183
      go_wp2_with (first | (go_at_call 99; refine (isRole_b _ _ _ t1).mono ?_; rintro e w' ⟨rfl, rfl⟩) | (go_at_call 50; refine (isTick_b _ _ _ t2).mono ?_; rintro e w' ⟨rfl, rfl⟩))
      go_ret
      exact ⟨rfl, (Below.refl _ _).alloc (Nat.le_refl _) _⟩
    | true =>
      obtain rfl : tickB z.quiet = b := by rw [← h]; simp [mbB, t1, t2]
      clear h
      go_enter Tryz.func183, Tryz.ntmps183
      go_wp2_with fail
      go_at_call 99; refine (isRole_b _ _ _ t1).mono ?_; rintro e w' ⟨rfl, rfl⟩
      go_wp2_with fail
      go_at_call 50; refine (isTick_b _ _ _ t2).mono ?_; rintro e w' ⟨rfl, rfl⟩
      go_wp2_with fail
      go_at_call 50; refine (isTick_b _ _ _ rfl).mono ?_; rintro e w' ⟨rfl, rfl⟩
      go_wp2
      go_ret
      exact ⟨rfl, (Below.refl _ _).alloc (Nat.le_refl _) _⟩
theorem InviteSound_b (z : Iv) (b : Bool) (w : World) (h : ivB z = b) :
    Calls Tryz.prog 179 #[.agg #[.int .i64 z.id, .int .i64 z.byy, .int .i64 z.til]] w fun e w' => e = .returned (.bool b) ∧ Below w.heap.size w w' := by
  cases t1 : idB z.byy with
  | false =>
    obtain rfl : b = false := by rw [← h]; simp [ivB, t1]
    clear h
    go_enter Tryz.func179, Tryz.ntmps179
    go_wp2_with (go_at_call 117; refine (isMember_b _ _ _ t1).mono ?_; rintro e w' ⟨rfl, rfl⟩)
    go_ret
    exact ⟨rfl, (Below.refl _ _).alloc (Nat.le_refl _) _⟩
  | true =>
    obtain rfl : tickB z.til = b := by rw [← h]; simp [ivB, t1]
    clear h
    go_enter Tryz.func179, Tryz.ntmps179
    go_wp2_with fail
    go_at_call 117; refine (isMember_b _ _ _ t1).mono ?_; rintro e w' ⟨rfl, rfl⟩
    go_wp2_with fail
    go_at_call 50; refine (isTick_b _ _ _ rfl).mono ?_; rintro e w' ⟨rfl, rfl⟩
    go_wp2
    go_ret
    exact ⟨rfl, (Below.refl _ _).alloc (Nat.le_refl _) _⟩
theorem BanSound_b (z : Bn) (b : Bool) (w : World) (h : bnB z = b) :
    Calls Tryz.prog 181 #[.agg #[.int .i64 z.id, .int .i64 z.til]] w fun e w' => e = .returned (.bool b) ∧ Below w.heap.size w w' := by
  subst h
  go_enter Tryz.func181, Tryz.ntmps181
  go_wp2_with fail
  go_at_call 50; refine (isTick_b _ _ _ rfl).mono ?_; rintro e w' ⟨rfl, rfl⟩
  go_wp2
  go_ret
  exact ⟨rfl, (Below.refl _ _).alloc (Nat.le_refl _) _⟩
end Go.Proofs.YtmnmmjobplbflaaGreatDoor
