import Derived.Test.YtmnmmjobplbflaaChecked
import Derived.WalkKit
import Derived.ProofKit
import Derived.OpenShut
import Derived.ShutString
import Derived.ChangeOld
import Derived.Below
import Derived.Lib.Hide
import Derived.Test.YtmnmmjobplbflaaPostW
import Derived.Test.YtmnmmjobplbflaaPostK
namespace Go.Proofs.Ytmnmmjobplbflaa
open Go.ChangeShapes Go.WideShapes Go.ChangeAt Go.RowKit
open Go.ChangeMaps (open_string shut_string)
set_option linter.unusedVariables false
set_option maxRecDepth 100000
def limZ (x : Int) : Int := if limB x = true then x else 0
/-- a post of no boxes, and whether there is one -/
def NewOut (x : Int) (w : World) (e : Ending) (w' : World) : Prop := ∃ A c, e = .returned (.tuple #[.agg #[.int .i64 (limZ x), .slice A 0 c], .bool (limB x)]) ∧ (A = none ∧ c = 0 ∨ A ≠ none) ∧ Below w.heap.size w w'
set_option maxHeartbeats 800000 in
theorem impl_NewPost_any (x : Int) (w : World) : Calls Try.prog 17 #[.int .i64 x] w fun e w' => e = .returned (.tuple #[.agg #[.int .i64 (limZ x), .slice none 0 0], .bool (limB x)]) ∧ Below w.heap.size w w' := by
  cases tn : limB x with
  | false =>
    have HE := Lib.hid (show limZ x = 0 by simp [limZ, tn])
    go_enter Try.func17, Try.ntmps17
    go_wp2_with (go_at_call 39; refine (isLimit_b _ _ _ tn).mono ?_; rintro e w' ⟨rfl, rfl⟩)
    refine bodyPost_ret (v := .tuple #[.agg #[.int .i64 0, .slice none 0 0], .bool false]) (by simp [results, Try.results17, go_sem]) rfl ?_
    exact ⟨by rw [HE.out], (Below.refl _ _).alloc (Nat.le_refl _) _⟩
  | true =>
    have HE := Lib.hid (show limZ x = x by simp [limZ, tn])
    go_enter Try.func17, Try.ntmps17
    go_wp2_with (go_at_call 39; refine (isLimit_b _ _ _ tn).mono ?_; rintro e w' ⟨rfl, rfl⟩)
    refine bodyPost_ret (v := .tuple #[.agg #[.int .i64 x, .slice none 0 0], .bool true]) (by simp [results, Try.results17, go_sem]) rfl ?_
    exact ⟨by rw [HE.out], (Below.refl _ _).alloc (Nat.le_refl _) _⟩
set_option maxHeartbeats 800000 in
theorem spec_NewPost_any (x : Int) (w : World) : Calls Try.prog 16 #[.int .i64 x] w fun e w' => ∃ A c, e = .returned (.tuple #[.agg #[.int .i64 (limZ x), .slice A 0 c], .bool (limB x)]) ∧ Below w.heap.size w w' := by
  cases tn : limB x with
  | false =>
    have tn' : decide (1 ≤ x ∧ x ≤ 64) = false := tn
    have HE := Lib.hid (show limZ x = 0 by simp [limZ, tn])
    go_enter Try.func16, Try.ntmps16
    go_wp2_with (go_at_call 45; refine (l00In_b x 1 64 _ _ tn').mono ?_; rintro e w' ⟨rfl, rfl⟩)
    refine bodyPost_ret (v := .tuple #[.agg #[.int .i64 0, .slice none 0 0], .bool false]) (by simp [results, Try.results16, go_sem]) rfl ?_
    exact ⟨_, _, by rw [HE.out], (Below.refl _ _).alloc (Nat.le_refl _) _⟩
  | true =>
    have tn' : decide (1 ≤ x ∧ x ≤ 64) = true := tn
    have HE := Lib.hid (show limZ x = x by simp [limZ, tn])
    go_enter Try.func16, Try.ntmps16
    go_wp2_with (go_at_call 45; refine (l00In_b x 1 64 _ _ tn').mono ?_; rintro e w' ⟨rfl, rfl⟩)
    refine bodyPost_ret (v := .tuple #[.agg #[.int .i64 x, .slice (some ⟨w.heap.size + 1, 0, none⟩) 0 0], .bool true]) (by simp [results, Try.results16, go_sem]) rfl ?_
    exact ⟨_, _, by rw [HE.out], ((Below.refl _ _).alloc (Nat.le_refl _) _).alloc (by simp) _⟩
theorem postAt_nil (w : World) (B : Nat) (A : Option Addr) : PostAt w B A 0 [] := ⟨⟨rfl, fun h => absurd h (by omega)⟩, fun _ h => by cases h⟩
theorem markPost_nil (x : Int) (k0 : Nat) (w : World) : Calls Try.prog 18 #[.agg #[.int .i64 x, .slice none 0 0], .int .i64 k0] w fun e w' => e = .returned (.int .i64 k0) ∧ Below w.heap.size w w' := by
  go_enter Try.func18, Try.ntmps18
  go_wp2_with (go_at_call 46; refine (markBoxS_nil k0 _).mono ?_; rintro e w1 ⟨rfl, rfl⟩)
  go_ret
  exact ⟨rfl, (Below.refl _ _).alloc (Nat.le_refl _) _⟩
theorem heldBoxS_nil (k0 : Nat) (w : World) :
    Calls Try.prog 47 #[.slice none 0 0, .int .i64 k0] w fun e w' => e = .returned (.int .i64 k0) ∧ w = w' := by
  go_enter Try.func47, Try.ntmps47
  go_wp2
  refine wp_loop_rounds 1 ?_
  rw [rounds_succ]
  go_wp2
  go_ret
  exact ⟨rfl, rfl⟩
theorem heldPost_nil (x : Int) (k0 : Nat) (w : World) : Calls Try.prog 19 #[.agg #[.int .i64 x, .slice none 0 0], .int .i64 k0] w fun e w' => e = .returned (.int .i64 k0) ∧ Below w.heap.size w w' := by
  have hk : ¬ ((k0 : Int) < 0) := by omega
  go_enter Try.func19, Try.ntmps19
  go_wp2_with (go_at_call 47; refine (heldBoxS_nil k0 _).mono ?_; rintro e w1 ⟨rfl, rfl⟩)
  go_ret
  exact ⟨rfl, (Below.refl _ _).alloc (Nat.le_refl _) _⟩
end Go.Proofs.Ytmnmmjobplbflaa
