import Derived.Test.YtmdoddikaaaamaaChecked
import Derived.WalkKit
import Derived.ProofKit
import Derived.OpenShut
import Derived.ShutString
import Derived.ChangeOld
import Derived.Below
import Derived.Lib.Hide
import Derived.Deep.QuietTactic
import Derived.BigQuiet
import Derived.BigGuardPart
import Derived.Lib.MinMax
import Derived.Test.YtmdoddikaaaamaaZBktV
import Derived.Test.YtmdoddikaaaamaaZMembersC
namespace Go.Proofs.Ytmdoddikaaaamaa
open Go.ChangeShapes Go.WideShapes Go.ChangeAt Go.RowKit
open Go.ChangeMaps (open_string shut_string)
set_option linter.unusedVariables false
set_option maxRecDepth 100000
theorem div_small (x y : Int) (hx : 0 ≤ x ∧ x ≤ 1000000) (hy : 1 ≤ y) : 0 ≤ x / y ∧ x / y ≤ 1000000 := by
  have := Go.IntWalk.tdiv_le x y hx.1 hy
  omega
theorem l00Min_any (a b : Int) (w : World) : Calls Try.prog 83 #[.int .i64 a, .int .i64 b] w fun e w' => e = .returned (.int .i64 (min a b)) ∧ w = w' := by
  by_cases h : a < b
  · have h' : decide (a < b) = true := decide_eq_true h
    have e : min a b = a := by omega
    rw [e]
    go_enter Try.func83, Try.ntmps83
    go_wp2
    go_ret
    exact ⟨rfl, rfl⟩
  · have h' : decide (a < b) = false := decide_eq_false h
    have e : min a b = b := by omega
    rw [e]
    go_enter Try.func83, Try.ntmps83
    go_wp2
    go_ret
    exact ⟨rfl, rfl⟩
set_option maxHeartbeats 3200000 in
theorem l06Is_b (g : Nat) (b : Bk) (r : Bool) (w : World) (k : Blk w g 25 #[.int .i64 b.sz, .int .i64 b.ev, .int .i64 b.lf, .int .i64 b.tm]) (h : bktB b = r) : Calls Try.prog 56 #[.pointer (some ⟨g, 0, none⟩)] w fun e w' => e = .returned (.bool r) ∧ ∃ q, w' = w.drewN q := by
  have h : (decide (1 ≤ b.sz ∧ b.sz ≤ 1000) && decide (1 ≤ b.ev ∧ b.ev ≤ 1000000) && decide (0 ≤ b.lf ∧ b.lf ≤ b.sz) && tickB b.tm) = r := by rw [← h]; simp only [bktB, spanB, Bool.decide_and, Bool.and_assoc]
  have HH := Lib.hid h; clear h
  have c0 := k.cell 0; have c1 := k.cell 1; have c2 := k.cell 2; have c3 := k.cell 3
  clear k
  cases t0 : decide (1 ≤ b.sz ∧ b.sz ≤ 1000) with
  | false =>
    obtain rfl : r = false := by rw [← HH.out]; simp only [t0, Bool.and_false, Bool.false_and, Bool.and_true, Bool.true_and]
    go_enter Try.func56, Try.ntmps56
    go_wp2
    go_quiet (first | (go_at_call 61; exact Calls.quiet_here (l00In_b _ _ _ _ _ t0)))
    go_wp2
    go_ret
    exact ⟨rfl, _, rfl⟩
  | true =>
    cases t1 : decide (1 ≤ b.ev ∧ b.ev ≤ 1000000) with
    | false =>
      obtain rfl : r = false := by rw [← HH.out]; simp only [t0, t1, Bool.and_false, Bool.false_and, Bool.and_true, Bool.true_and]
      go_enter Try.func56, Try.ntmps56
      go_wp2
      go_quiet (first | (go_at_call 61; exact Calls.quiet_here (l00In_b _ _ _ _ _ t0)) | (go_at_call 61; exact Calls.quiet_here (l00In_b _ _ _ _ _ t1)))
      go_wp2
      go_ret
      exact ⟨rfl, _, rfl⟩
    | true =>
      cases t2 : decide (0 ≤ b.lf ∧ b.lf ≤ b.sz) with
      | false =>
        obtain rfl : r = false := by rw [← HH.out]; simp only [t0, t1, t2, Bool.and_false, Bool.false_and, Bool.and_true, Bool.true_and]
        go_enter Try.func56, Try.ntmps56
        go_wp2
        go_quiet (first | (go_at_call 61; exact Calls.quiet_here (l00In_b _ _ _ _ _ t0)) | (go_at_call 61; exact Calls.quiet_here (l00In_b _ _ _ _ _ t1)) | (go_at_call 61; exact Calls.quiet_here (l00In_b _ _ _ _ _ t2)))
        go_wp2
        go_ret
        exact ⟨rfl, _, rfl⟩
      | true =>
        cases t3 : tickB b.tm with
        | false =>
          obtain rfl : r = false := by rw [← HH.out]; simp only [t0, t1, t2, t3, Bool.and_false, Bool.false_and, Bool.and_true, Bool.true_and]
          go_enter Try.func56, Try.ntmps56
          go_wp2
          go_quiet (first | (go_at_call 61; exact Calls.quiet_here (l00In_b _ _ _ _ _ t0)) | (go_at_call 61; exact Calls.quiet_here (l00In_b _ _ _ _ _ t1)) | (go_at_call 61; exact Calls.quiet_here (l00In_b _ _ _ _ _ t2)) | (go_at_call 79; exact Calls.quiet_here (l02Tick_b _ _ _ t3)))
          go_wp2
          go_ret
          exact ⟨rfl, _, rfl⟩
        | true =>
          obtain rfl : r = true := by rw [← HH.out]; simp only [t0, t1, t2, t3, Bool.and_false, Bool.false_and, Bool.and_true, Bool.true_and]
          go_enter Try.func56, Try.ntmps56
          go_wp2
          go_quiet (first | (go_at_call 61; exact Calls.quiet_here (l00In_b _ _ _ _ _ t0)) | (go_at_call 61; exact Calls.quiet_here (l00In_b _ _ _ _ _ t1)) | (go_at_call 61; exact Calls.quiet_here (l00In_b _ _ _ _ _ t2)) | (go_at_call 79; exact Calls.quiet_here (l02Tick_b _ _ _ t3)))
          go_wp2
          go_ret
          exact ⟨rfl, _, rfl⟩
theorem l06At_b (g : Nat) (b : Bk) (at_ : Int) (r : Bool) (w : World) (k : Blk w g 25 #[.int .i64 b.sz, .int .i64 b.ev, .int .i64 b.lf, .int .i64 b.tm]) (h : atB b at_ = r) : Calls Try.prog 59 #[.pointer (some ⟨g, 0, none⟩), .int .i64 at_] w fun e w' => e = .returned (.bool r) ∧ w = w' := by
  have h' : decide (b.tm ≤ at_ ∧ at_ ≤ 1000000) = r := by rw [← h]; simp [atB]
  have c3 := k.cell 3
  clear k h
  go_enter Try.func59, Try.ntmps59
  go_wp2_with (go_at_call 61; refine (l00In_b _ _ _ _ _ h').mono ?_; rintro e w' ⟨rfl, rfl⟩)
  go_ret
  exact ⟨rfl, rfl⟩
set_option maxHeartbeats 1600000 in
theorem l06Left_any (g : Nat) (b : Bk) (at_ : Int) (w : World) (k : Blk w g 25 #[.int .i64 b.sz, .int .i64 b.ev, .int .i64 b.lf, .int .i64 b.tm]) (ok : BkOk b) (h1 : b.tm ≤ at_) (h2 : at_ ≤ 1000000) : Calls Try.prog 60 #[.pointer (some ⟨g, 0, none⟩), .int .i64 at_] w fun e w' => e = .returned (.int .i64 (leftB b at_)) ∧ ∃ q, w' = w.drewN q := by
  have c0 := k.cell 0; have c1 := k.cell 1; have c2 := k.cell 2; have c3 := k.cell 3
  obtain ⟨s1, s2, e1, e2, l1, l2, t1, t2⟩ := ok
  have f0 : IntKind.i64.wrap (at_ - b.tm) = at_ - b.tm := IntWalk.i64_in _ (by omega)
  have q0 := div_small (at_ - b.tm) b.ev (by omega) e1
  have f1 : IntKind.i64.wrap ((at_ - b.tm).tdiv b.ev) = (at_ - b.tm) / b.ev := IntWalk.i64_quo _ _ (by omega)
  have f2 : IntKind.i64.wrap (b.lf + (at_ - b.tm) / b.ev) = b.lf + (at_ - b.tm) / b.ev := IntWalk.i64_in _ (by omega)
  have f3 : b.ev ≠ 0 := by omega
  clear k
  go_enter Try.func60, Try.ntmps60
  go_wp2
  go_quiet ((go_at_call 83; exact Calls.quiet_here (l00Min_any _ _ _)))
  go_wp2
  go_ret
  exact ⟨rfl, _, rfl⟩
end Go.Proofs.Ytmdoddikaaaamaa
