import Derived.Test.YtmdoddikaaaamaaChecked
import Derived.WalkKit
import Derived.ProofKit
import Derived.OpenShut
import Derived.ShutString
import Derived.ChangeOld
import Derived.Below
import Derived.Lib.Hide
import Derived.Lib.SmallJoins
import Derived.ChangeArms
import Derived.StillTailTactics
import Derived.Test.YtmdoddikaaaamaaZBktP
import Derived.Test.YtmdoddikaaaamaaJc
import Derived.Test.YtmdoddikaaaamaaZRoomA
namespace Go.Proofs.Ytmdoddikaaaamaa
open Go.ChangeShapes Go.WideShapes Go.ChangeAt Go.RowKit
open Go.ChangeMaps (open_string shut_string)
set_option linter.unusedVariables false
open Go.Joins Go.Deep
set_option maxRecDepth 100000
def BkWf (b : Bk) : Prop := (Lit.int .i64 b.sz).wf = true ∧ (Lit.int .i64 b.ev).wf = true ∧ (Lit.int .i64 b.lf).wf = true ∧ (Lit.int .i64 b.tm).wf = true
set_option maxHeartbeats 800000 in
theorem open_bucket {H : Type} {enc : TypeId × Value → H} {w : World} {base : Nat} {spare : Nat → Bool} {held : Bool} {r : Reach} {b0 : Nat} {v : Value} {d : DataW H} {p : List MemPlace} (hv : Value.okWide Try.prog w r b0 23 v) (h : DataW.Trod enc Try.prog w base spare held 23 v d p) :
    ∃ (b : Bk), v = .agg #[.int .i64 b.sz, .int .i64 b.ev, .int .i64 b.lf, .int .i64 b.tm] ∧ BkWf b := by
  obtain ⟨v0, v1, v2, v3, y0, y1, y2, y3, n, rfl, _, _, t0, t1, t2, t3⟩ := open_agg4 Try.underlying23 (by kernel_rfl) (by kernel_rfl) hv h
  obtain ⟨z0, q0, _, f0⟩ := DataW.trod_int Try.underlying2 t0
  obtain ⟨z1, q1, _, f1⟩ := DataW.trod_int Try.underlying2 t1
  obtain ⟨z2, q2, _, f2⟩ := DataW.trod_int Try.underlying2 t2
  obtain ⟨z3, q3, _, f3⟩ := DataW.trod_int Try.underlying2 t3
  cases q0; cases q1; cases q2; cases q3
  exact ⟨⟨z0, z1, z2, z3⟩, rfl, f0, f1, f2, f3⟩
theorem toBucket_any (b : Bk) (w : World) :
    Calls Try.prog 16 #[.agg #[.int .i64 b.sz, .int .i64 b.ev, .int .i64 b.lf, .int .i64 b.tm]] w fun e w' => e = .returned (.agg #[.int .i64 b.sz, .int .i64 b.ev, .int .i64 b.lf, .int .i64 b.tm]) ∧ Below w.heap.size w w' := by
  go_enter Try.func16, Try.ntmps16
  go_wp2
  exact bodyPost_ret (v := .agg #[.int .i64 b.sz, .int .i64 b.ev, .int .i64 b.lf, .int .i64 b.tm]) (by simp [results, Try.results16, go_sem]) rfl ⟨rfl, by repeat (first | exact Below.refl _ _ | refine Below.setCell ?_ (by simp) _ | refine Below.alloc ?_ (by first | (simp; omega) | simp) _)⟩
theorem eqBucket_same (b : Bk) (w : World) :
    Calls Try.prog 20 #[.agg #[.int .i64 b.sz, .int .i64 b.ev, .int .i64 b.lf, .int .i64 b.tm], .agg #[.int .i64 b.sz, .int .i64 b.ev, .int .i64 b.lf, .int .i64 b.tm]] w fun e w' => e = .returned (.bool true) ∧ Below w.heap.size w w' := by
  go_enter Try.func20, Try.ntmps20
  go_wp2
  go_ret
  exact ⟨rfl, by repeat (first | exact Below.refl _ _ | refine Below.setCell ?_ (by simp) _ | refine Below.alloc ?_ (by first | (simp; omega) | simp) _)⟩
end Go.Proofs.Ytmdoddikaaaamaa
