import Derived.Test.YtmdoddikaaaamaaChecked
import Derived.WalkKit
import Derived.ProofKit
import Derived.OpenShut
import Derived.ShutString
import Derived.ChangeOld
import Derived.Below
import Derived.Lib.Hide
import Derived.Test.YtmdoddikaaaamaaBktI
import Derived.Test.YtmdoddikaaaamaaBktS
import Derived.Test.YtmdoddikaaaamaaRows3
namespace Go.Proofs.Ytmdoddikaaaamaa
open Go.ChangeShapes Go.WideShapes Go.ChangeAt Go.RowKit
open Go.ChangeMaps (open_string shut_string)
set_option linter.unusedVariables false
set_option maxRecDepth 100000
theorem spec_ValidBucket_b (b : Bk) (r : Bool) (w : World) (h : bktB b = r) : Calls Try.prog 15 #[.agg #[.int .i64 b.sz, .int .i64 b.ev, .int .i64 b.lf, .int .i64 b.tm]] w fun e w' => e = .returned (.bool r) ∧ Below w.heap.size w w' := by
  go_enter Try.func15, Try.ntmps15
  go_wp2_with fail
  obtain ⟨k0, hbn⟩ := one_box w 25 #[.int .i64 b.sz, .int .i64 b.ev, .int .i64 b.lf, .int .i64 b.tm]
  have sk0 : w.heap.size ≤ w.heap.size := Nat.le_refl _
  generalize w.alloc (.cells #[.int .i64 b.sz, .int .i64 b.ev, .int .i64 b.lf, .int .i64 b.tm] 25) = W1 at *
  have hb := hbn
  clear hbn
  have hsz := hb.size
  go_at_call 56; refine (l06Is_b _ _ _ _ k0 h).mono ?_; rintro e W2 ⟨rfl, qn, hq⟩
  have hbn : Below W1.heap.size W1 W2 := drew_below ⟨qn, hq⟩
  clear hq
  have k0 := k0.below hbn k0.lt
  have hb := hb.trans (hbn.mono hb.size)
  clear hbn
  have hsz := hb.size
  have k0_c0 := k0.cell 0; have k0_f0 := k0.frozen 0; have k0_c1 := k0.cell 1; have k0_f1 := k0.frozen 1; have k0_c2 := k0.cell 2; have k0_f2 := k0.frozen 2; have k0_c3 := k0.cell 3; have k0_f3 := k0.frozen 3; have k0_l := k0.lt
  go_wp2
  go_ret
  exact ⟨rfl, hb⟩
end Go.Proofs.Ytmdoddikaaaamaa
