import Derived.Test.YtmdoddikaaaamabChecked
import Derived.WalkKit
import Derived.ProofKit
import Derived.OpenShut
import Derived.ShutString
import Derived.ChangeOld
import Derived.Below
import Derived.Lib.Hide
import Derived.Test.YtmdoddikaaaamabZBktV
namespace Go.Proofs.Ytmdoddikaaaamab
open Go.ChangeShapes Go.WideShapes Go.ChangeAt Go.RowKit
open Go.ChangeMaps (open_string shut_string)
set_option linter.unusedVariables false
set_option maxRecDepth 100000
set_option maxHeartbeats 1600000 in
theorem impl_ValidBucket_b (b : Bk) (r : Bool) (w : World) (h : bktB b = r) : Calls Try.prog 54 #[.agg #[.int .i64 b.sz, .int .i64 b.ev, .int .i64 b.lf, .int .i64 b.tm]] w fun e w' => e = .returned (.bool r) ∧ Below w.heap.size w w' := by
  have HH := Lib.hid h; clear h
  by_cases h0 : 1 ≤ b.sz
  · have d0 : decide (1 ≤ b.sz) = true := decide_eq_true h0
    by_cases h1 : b.sz ≤ 1000
    · have d1 : decide (b.sz ≤ 1000) = true := decide_eq_true h1
      cases t2 : spanB b.ev with
      | false =>
        obtain rfl : r = false := by rw [← HH.out]; simp [bktB, h0, h1, t2]
        go_enter Try.func54, Try.ntmps54
        go_wp2_with fail
        go_at_call 117; refine (isSpan_b _ _ _ t2).mono ?_; rintro e w' ⟨rfl, rfl⟩
        go_wp2
        go_ret
        exact ⟨rfl, by repeat (first | exact Below.refl _ _ | refine Below.setCell ?_ (by simp) _ | refine Below.alloc ?_ (by first | (simp; omega) | simp) _)⟩
      | true =>
        by_cases h3 : 0 ≤ b.lf
        · have d3 : decide (0 ≤ b.lf) = true := decide_eq_true h3
          by_cases h4 : b.lf ≤ b.sz
          · have d4 : decide (b.lf ≤ b.sz) = true := decide_eq_true h4
            cases t5 : tickB b.tm with
            | false =>
              obtain rfl : r = false := by rw [← HH.out]; simp [bktB, h0, h1, t2, h3, h4, t5]
              go_enter Try.func54, Try.ntmps54
              go_wp2_with fail
              go_at_call 117; refine (isSpan_b _ _ _ t2).mono ?_; rintro e w' ⟨rfl, rfl⟩
              go_wp2_with fail
              go_at_call 60; refine (isTick_b _ _ _ t5).mono ?_; rintro e w' ⟨rfl, rfl⟩
              go_wp2
              go_ret
              exact ⟨rfl, by repeat (first | exact Below.refl _ _ | refine Below.setCell ?_ (by simp) _ | refine Below.alloc ?_ (by first | (simp; omega) | simp) _)⟩
            | true =>
              obtain rfl : r = true := by rw [← HH.out]; simp [bktB, h0, h1, t2, h3, h4, t5]
              go_enter Try.func54, Try.ntmps54
              go_wp2_with fail
              go_at_call 117; refine (isSpan_b _ _ _ t2).mono ?_; rintro e w' ⟨rfl, rfl⟩
              go_wp2_with fail
              go_at_call 60; refine (isTick_b _ _ _ t5).mono ?_; rintro e w' ⟨rfl, rfl⟩
              go_wp2
              go_ret
              exact ⟨rfl, by repeat (first | exact Below.refl _ _ | refine Below.setCell ?_ (by simp) _ | refine Below.alloc ?_ (by first | (simp; omega) | simp) _)⟩
          · obtain rfl : r = false := by rw [← HH.out]; simp [bktB, h0, h1, t2, h3, h4]
            have d4 : decide (b.lf ≤ b.sz) = false := decide_eq_false h4
            go_enter Try.func54, Try.ntmps54
            go_wp2_with fail
            go_at_call 117; refine (isSpan_b _ _ _ t2).mono ?_; rintro e w' ⟨rfl, rfl⟩
            go_wp2
            go_ret
            exact ⟨rfl, by repeat (first | exact Below.refl _ _ | refine Below.setCell ?_ (by simp) _ | refine Below.alloc ?_ (by first | (simp; omega) | simp) _)⟩
        · obtain rfl : r = false := by rw [← HH.out]; simp [bktB, h0, h1, t2, h3]
          have d3 : decide (0 ≤ b.lf) = false := decide_eq_false h3
          go_enter Try.func54, Try.ntmps54
          go_wp2_with fail
          go_at_call 117; refine (isSpan_b _ _ _ t2).mono ?_; rintro e w' ⟨rfl, rfl⟩
          go_wp2
          go_ret
          exact ⟨rfl, by repeat (first | exact Below.refl _ _ | refine Below.setCell ?_ (by simp) _ | refine Below.alloc ?_ (by first | (simp; omega) | simp) _)⟩
    · obtain rfl : r = false := by rw [← HH.out]; simp [bktB, h0, h1]
      have d1 : decide (b.sz ≤ 1000) = false := decide_eq_false h1
      go_enter Try.func54, Try.ntmps54
      go_wp2
      go_ret
      exact ⟨rfl, by repeat (first | exact Below.refl _ _ | refine Below.setCell ?_ (by simp) _ | refine Below.alloc ?_ (by first | (simp; omega) | simp) _)⟩
  · obtain rfl : r = false := by rw [← HH.out]; simp [bktB, h0]
    have d0 : decide (1 ≤ b.sz) = false := decide_eq_false h0
    go_enter Try.func54, Try.ntmps54
    go_wp2
    go_ret
    exact ⟨rfl, by repeat (first | exact Below.refl _ _ | refine Below.setCell ?_ (by simp) _ | refine Below.alloc ?_ (by first | (simp; omega) | simp) _)⟩
end Go.Proofs.Ytmdoddikaaaamab
