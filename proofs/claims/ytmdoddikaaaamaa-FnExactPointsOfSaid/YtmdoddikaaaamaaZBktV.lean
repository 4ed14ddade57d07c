import Derived.Test.YtmdoddikaaaamaaChecked
import Derived.WalkKit
import Derived.ProofKit
import Derived.OpenShut
import Derived.ShutString
import Derived.ChangeOld
import Derived.Below
import Derived.Lib.Hide
import Derived.Deep.QuietTactic
import Derived.BigQuiet
import Derived.Lib.MinMax
import Derived.Test.YtmdoddikaaaamaaZBktA
import Derived.Test.YtmdoddikaaaamaaZMsgV
namespace Go.Proofs.Ytmdoddikaaaamaa
open Go.ChangeShapes Go.WideShapes Go.ChangeAt Go.RowKit
open Go.ChangeMaps (open_string shut_string)
set_option linter.unusedVariables false
set_option maxRecDepth 100000
theorem isSpan_b (n : Int) (b : Bool) (w : World) (h : spanB n = b) : Calls Try.prog 57 #[.int .i64 n] w fun e w' => e = .returned (.bool b) ∧ w = w' := by
  by_cases h0 : n < 1
  · obtain rfl : b = false := by rw [← h]; simp [spanB]; omega
    have h1 : decide (1 ≤ n) = false := decide_eq_false (by omega)
    clear h
    go_enter Try.func57, Try.ntmps57
    go_wp2
    go_ret
    exact ⟨rfl, rfl⟩
  · have h0' : 1 ≤ n := by omega
    have e : decide (n ≤ 1000000) = b := by rw [← h]; simp [spanB, h0']
    have E := Lib.hid e
    clear h h0 e
    go_enter Try.func57, Try.ntmps57
    go_wp2
    go_ret
    exact ⟨ret_bool E.out, rfl⟩
theorem mayAskFor_b (b : Bk) (count : Int) (r : Bool) (w : World) (h : askB b count = r) : Calls Try.prog 63 #[.agg #[.int .i64 b.sz, .int .i64 b.ev, .int .i64 b.lf, .int .i64 b.tm], .int .i64 count] w fun e w' => e = .returned (.bool r) ∧ Below w.heap.size w w' := by
  by_cases h0 : count < 1
  · obtain rfl : r = false := by rw [← h]; simp [askB]; omega
    have h1 : decide (1 ≤ count) = false := decide_eq_false (by omega)
    clear h
    go_enter Try.func63, Try.ntmps63
    go_wp2
    go_ret
    exact ⟨rfl, by repeat (first | exact Below.refl _ _ | refine Below.setCell ?_ (by simp) _ | refine Below.alloc ?_ (by first | (simp; omega) | simp) _)⟩
  · have h0' : 1 ≤ count := by omega
    have e : decide (count ≤ b.sz) = r := by rw [← h]; simp [askB, h0']
    have E := Lib.hid e
    clear h h0 e
    go_enter Try.func63, Try.ntmps63
    go_wp2
    go_ret
    exact ⟨ret_bool E.out, by repeat (first | exact Below.refl _ _ | refine Below.setCell ?_ (by simp) _ | refine Below.alloc ?_ (by first | (simp; omega) | simp) _)⟩
end Go.Proofs.Ytmdoddikaaaamaa
