/-
  ValidBucket answers as its model for every bucket: the law returns true for every bucket. No condition.
-/
import Derived.Test.YtmdoddikaaaamaaRows
import Derived.WalkKit
import Derived.ProofKit
import Derived.OpenShut
import Derived.ShutString
import Derived.ChangeOld
import Derived.Below
import Derived.Lib.Hide
import Derived.Deep.RegionHeld3
import Derived.Test.YtmdoddikaaaamaaBktL
namespace Go.Proofs.Ytmdoddikaaaamaa.fnExactValidBucket
open Go.ChangeShapes Go.WideShapes Go.ChangeAt Go.RowKit
open Go.ChangeMaps (open_string shut_string)
set_option linter.unusedVariables false
set_option maxRecDepth 100000
set_option maxHeartbeats 3200000 in
theorem walk (b : Bk)  (w : World) (wb : BkWf b)  :
    Calls Try.prog 3 #[.agg #[.int .i64 b.sz, .int .i64 b.ev, .int .i64 b.lf, .int .i64 b.tm]] w fun e w' => e = .returned (.bool true) ∧ Below w.heap.size w w' := by
  go_enter Try.func3, Try.ntmps3
  go_wp2_with fail
  obtain ⟨k00, hbn⟩ := one_box w 23 #[.int .i64 b.sz, .int .i64 b.ev, .int .i64 b.lf, .int .i64 b.tm]
  have sk00 : w.heap.size ≤ w.heap.size := Nat.le_refl _
  generalize w.alloc (.cells #[.int .i64 b.sz, .int .i64 b.ev, .int .i64 b.lf, .int .i64 b.tm] 23) = W1 at *
  have hb := hbn
  clear hbn
  have hsz := hb.size
  have k00_c0 := k00.cell 0; have k00_f0 := k00.frozen 0; have k00_c1 := k00.cell 1; have k00_f1 := k00.frozen 1; have k00_c2 := k00.cell 2; have k00_f2 := k00.frozen 2; have k00_c3 := k00.cell 3; have k00_f3 := k00.frozen 3; have k00_l := k00.lt
  go_wp2_with fail
  clear k00_c0 k00_f0 k00_c1 k00_f1 k00_c2 k00_f2 k00_c3 k00_f3 k00_l
  go_at_call 16; refine (toBucket_any b _).mono ?_; rintro e W2 ⟨rfl, hbn⟩
  have k00 := k00.below hbn k00.lt
  have hb := hb.trans (hbn.mono hb.size)
  clear hbn
  have hsz := hb.size
  have k00_c0 := k00.cell 0; have k00_f0 := k00.frozen 0; have k00_c1 := k00.cell 1; have k00_f1 := k00.frozen 1; have k00_c2 := k00.cell 2; have k00_f2 := k00.frozen 2; have k00_c3 := k00.cell 3; have k00_f3 := k00.frozen 3; have k00_l := k00.lt
  go_wp2_with fail
  clear k00_c0 k00_f0 k00_c1 k00_f1 k00_c2 k00_f2 k00_c3 k00_f3 k00_l
  go_at_call 15; refine (spec_ValidBucket_b b _ _ rfl).mono ?_; rintro e W3 ⟨rfl, hbn⟩
  have k00 := k00.below hbn k00.lt
  have hb := hb.trans (hbn.mono hb.size)
  clear hbn
  have hsz := hb.size
  have k00_c0 := k00.cell 0; have k00_f0 := k00.frozen 0; have k00_c1 := k00.cell 1; have k00_f1 := k00.frozen 1; have k00_c2 := k00.cell 2; have k00_f2 := k00.frozen 2; have k00_c3 := k00.cell 3; have k00_f3 := k00.frozen 3; have k00_l := k00.lt
  go_wp2_with fail
  clear k00_c0 k00_f0 k00_c1 k00_f1 k00_c2 k00_f2 k00_c3 k00_f3 k00_l
  go_at_call 16; refine (toBucket_any b _).mono ?_; rintro e W4 ⟨rfl, hbn⟩
  have k00 := k00.below hbn k00.lt
  have hb := hb.trans (hbn.mono hb.size)
  clear hbn
  have hsz := hb.size
  have k00_c0 := k00.cell 0; have k00_f0 := k00.frozen 0; have k00_c1 := k00.cell 1; have k00_f1 := k00.frozen 1; have k00_c2 := k00.cell 2; have k00_f2 := k00.frozen 2; have k00_c3 := k00.cell 3; have k00_f3 := k00.frozen 3; have k00_l := k00.lt
  go_wp2_with fail
  clear k00_c0 k00_f0 k00_c1 k00_f1 k00_c2 k00_f2 k00_c3 k00_f3 k00_l
  go_at_call 17; refine (impl_ValidBucket_b b _ _ rfl).mono ?_; rintro e W5 ⟨rfl, hbn⟩
  have k00 := k00.below hbn k00.lt
  have hb := hb.trans (hbn.mono hb.size)
  clear hbn
  have hsz := hb.size
  have k00_c0 := k00.cell 0; have k00_f0 := k00.frozen 0; have k00_c1 := k00.cell 1; have k00_f1 := k00.frozen 1; have k00_c2 := k00.cell 2; have k00_f2 := k00.frozen 2; have k00_c3 := k00.cell 3; have k00_f3 := k00.frozen 3; have k00_l := k00.lt
  go_wp2
  go_ret
  exact ⟨rfl, hb⟩

theorem own : ownKnob Try.prog.godebug = none := by kernel_rfl
theorem laidOut : laidOutB Try.prog = true := by kernel_rfl
set_option maxRecDepth 100000 in
theorem lifted (os : Os) (started : os.Started) (H : Type) (enc : TypeId × Value → H) :
    ReturnsInHanded {} Try.checked os 3 .any (Rows.fnExactValidBucketSpec.pre6 enc Try.prog Try.f3 Rows.fnExactValidBucketRow.domain false) (Rows.fnExactValidBucketSpec.post enc Try.prog Try.f3 false true false false) := by
  refine returnsInHanded_of_change (C := Try.checked) own started (by kernel_rfl) Try.func3
    (ChangeSpec.witness6 (enc := enc) (C := Try.checked) false ⟨#[], #[.agg #[.int .i64 0, .int .i64 0, .int .i64 0, .int .i64 0]], []⟩ 8 (by kernel_rfl) (by kernel_rfl) (by kernel_rfl) (by kernel_rfl)) ?_
  intro W base args ds gs before hval0 hW hcnd _
  have hval : ∀ (j : Nat) t v, Try.f3.params[j]? = some t → args[j]? = some v → Value.okWide Try.prog W .any base t v := hval0
  have hW' := hW
  obtain ⟨p, q, hA0, hV, rfl, hfz, hnd⟩ := hW
  have hA : DataW.TrodAll enc Try.prog W 0 (fun _ => true) true Try.f3.params.toList args.toList ds p := hA0
  rw [Try.params3] at hA hval
  obtain ⟨v0, vs0, d0, ds0, p0, q0, hargs, rfl, rfl, h0, r0⟩ := trodAll_cons hA
  obtain ⟨rfl, rfl, rfl⟩ := trodAll_nil r0
  obtain rfl : args = #[v0] := by cases args; simp_all
  obtain ⟨rfl, rfl⟩ := trodVars_none hV
  have k0 := h0
  have lt0 : ∀ x ∈ p0, x.block < W.heap.size := by obtain ⟨m, hm⟩ := k0; exact DataW.trod_lt m _ _ _ hm
  obtain ⟨b0, rfl, w0⟩ := open_bucket (hval 0 23 v0 rfl rfl) h0
  clear hA0 hval0
  refine (walk b0 W w0).mono fun e W' ⟨he, bel⟩ => ?_
  subst he
  exact ⟨_, rfl, _, _, _, [], _, [], hW', trodAll_mk1 (shut_bool Try.underlying4 _), (trodAll_cons_mk (Below.trod laidOut (by kernel_rfl) (of_decide_eq_true (by kernel_rfl)) k0 bel lt0) trodAll_mk0), rfl, bel.frame _, fun h => by cases h⟩

theorem over : Rows.fnExactValidBucketRow.holds Try.pinned (OpenSpec.ofChange Rows.fnExactValidBucketSpec) :=
  OpenClaim.holds_of_wide 3 Try.f3 rfl rfl rfl rfl rfl rfl rfl ⟨rfl, rfl, rfl, rfl, rfl⟩ rfl rfl rfl rfl rfl (by kernel_rfl) Try.func3 (by kernel_rfl)
    (of_decide_eq_true (by kernel_rfl)) (by unfold Func.isWrapper; first | (rw [if_pos (by decide +kernel)]; kernel_rfl) | (rw [if_neg (by decide +kernel)]; exact ⟨rfl, rfl⟩))
    (fun os started H enc _ => lifted os started H enc)

theorem proved : Rows.FnExactValidBucketSaid := over
#print axioms proved
end Go.Proofs.Ytmdoddikaaaamaa.fnExactValidBucket
