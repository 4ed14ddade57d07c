/-
  LeftAt answers as its model for every bucket and number: the law returns true for all arguments. No condition.
-/
import Derived.Test.YtmdoddikaaaamaaRows
import Derived.WalkKit
import Derived.ProofKit
import Derived.OpenShut
import Derived.ShutString
import Derived.ChangeOld
import Derived.Below
import Derived.Lib.Hide
import Derived.Deep.RegionHeld3
import Derived.Test.YtmdoddikaaaamaaBktN
import Derived.Test.YtmdoddikaaaamaaBktA
namespace Go.Proofs.Ytmdoddikaaaamaa.fnExactLeftAt
open Go.ChangeShapes Go.WideShapes Go.ChangeAt Go.RowKit
open Go.ChangeMaps (open_string shut_string)
set_option linter.unusedVariables false
set_option maxRecDepth 100000
set_option maxHeartbeats 3200000 in
theorem walk (b : Bk) (at_ : Int) (w : World) (wb : BkWf b) (wfat_ : (Lit.int .i64 at_).wf = true) :
    Calls Try.prog 5 #[.agg #[.int .i64 b.sz, .int .i64 b.ev, .int .i64 b.lf, .int .i64 b.tm], .int .i64 at_] w fun e w' => e = .returned (.bool true) ∧ Below w.heap.size w w' := by
  obtain ⟨r0, hr0⟩ : ∃ z, (if bktB b && atB b at_ then leftB b at_ else 0) = z := ⟨_, rfl⟩
  have HR0 := Lib.hid hr0
  clear hr0
  obtain ⟨r1, hr1⟩ : ∃ z, (bktB b && atB b at_) = z := ⟨_, rfl⟩
  have HR1 := Lib.hid hr1
  clear hr1
  go_enter Try.func5, Try.ntmps5
  go_wp2_with fail
  obtain ⟨k00, hbn⟩ := one_box w 23 #[.int .i64 b.sz, .int .i64 b.ev, .int .i64 b.lf, .int .i64 b.tm]
  have sk00 : w.heap.size ≤ w.heap.size := Nat.le_refl _
  generalize w.alloc (.cells #[.int .i64 b.sz, .int .i64 b.ev, .int .i64 b.lf, .int .i64 b.tm] 23) = W1 at *
  have hb := hbn
  clear hbn
  have hsz := hb.size
  have k00_c0 := k00.cell 0; have k00_f0 := k00.frozen 0; have k00_c1 := k00.cell 1; have k00_f1 := k00.frozen 1; have k00_c2 := k00.cell 2; have k00_f2 := k00.frozen 2; have k00_c3 := k00.cell 3; have k00_f3 := k00.frozen 3; have k00_l := k00.lt
  go_wp2_with fail
  clear k00_c0 k00_f0 k00_c1 k00_f1 k00_c2 k00_f2 k00_c3 k00_f3 k00_l
  go_at_call 16; refine (toBucket_any b _).mono ?_; rintro e W2 ⟨rfl, hbn⟩
  have k00 := k00.below hbn k00.lt
  have hb := hb.trans (hbn.mono hb.size)
  clear hbn
  have hsz := hb.size
  have k00_c0 := k00.cell 0; have k00_f0 := k00.frozen 0; have k00_c1 := k00.cell 1; have k00_f1 := k00.frozen 1; have k00_c2 := k00.cell 2; have k00_f2 := k00.frozen 2; have k00_c3 := k00.cell 3; have k00_f3 := k00.frozen 3; have k00_l := k00.lt
  go_wp2_with fail
  clear k00_c0 k00_f0 k00_c1 k00_f1 k00_c2 k00_f2 k00_c3 k00_f3 k00_l
  go_at_call 21; refine (spec_LeftAt_any b at_ _).mono ?_; rw [HR0.out]; rw [HR1.out]; rintro e W3 ⟨rfl, hbn⟩
  have k00 := k00.below hbn k00.lt
  have hb := hb.trans (hbn.mono hb.size)
  clear hbn
  have hsz := hb.size
  have k00_c0 := k00.cell 0; have k00_f0 := k00.frozen 0; have k00_c1 := k00.cell 1; have k00_f1 := k00.frozen 1; have k00_c2 := k00.cell 2; have k00_f2 := k00.frozen 2; have k00_c3 := k00.cell 3; have k00_f3 := k00.frozen 3; have k00_l := k00.lt
  go_wp2_with fail
  clear k00_c0 k00_f0 k00_c1 k00_f1 k00_c2 k00_f2 k00_c3 k00_f3 k00_l
  go_at_call 16; refine (toBucket_any b _).mono ?_; rintro e W4 ⟨rfl, hbn⟩
  have k00 := k00.below hbn k00.lt
  have hb := hb.trans (hbn.mono hb.size)
  clear hbn
  have hsz := hb.size
  have k00_c0 := k00.cell 0; have k00_f0 := k00.frozen 0; have k00_c1 := k00.cell 1; have k00_f1 := k00.frozen 1; have k00_c2 := k00.cell 2; have k00_f2 := k00.frozen 2; have k00_c3 := k00.cell 3; have k00_f3 := k00.frozen 3; have k00_l := k00.lt
  go_wp2_with fail
  clear k00_c0 k00_f0 k00_c1 k00_f1 k00_c2 k00_f2 k00_c3 k00_f3 k00_l
  go_at_call 22; refine (impl_LeftAt_any b at_ _).mono ?_; rw [HR0.out]; rw [HR1.out]; rintro e W5 ⟨rfl, hbn⟩
  have k00 := k00.below hbn k00.lt
  have hb := hb.trans (hbn.mono hb.size)
  clear hbn
  have hsz := hb.size
  have k00_c0 := k00.cell 0; have k00_f0 := k00.frozen 0; have k00_c1 := k00.cell 1; have k00_f1 := k00.frozen 1; have k00_c2 := k00.cell 2; have k00_f2 := k00.frozen 2; have k00_c3 := k00.cell 3; have k00_f3 := k00.frozen 3; have k00_l := k00.lt
  go_wp2
  go_ret
  exact ⟨rfl, hb⟩

theorem own : ownKnob Try.prog.godebug = none := by kernel_rfl
theorem laidOut : laidOutB Try.prog = true := by kernel_rfl
set_option maxRecDepth 100000 in
theorem lifted (os : Os) (started : os.Started) (H : Type) (enc : TypeId × Value → H) :
    ReturnsInHanded {} Try.checked os 5 .any (Rows.fnExactLeftAtSpec.pre6 enc Try.prog Try.f5 Rows.fnExactLeftAtRow.domain false) (Rows.fnExactLeftAtSpec.post enc Try.prog Try.f5 false true false false) := by
  refine returnsInHanded_of_change (C := Try.checked) own started (by kernel_rfl) Try.func5
    (ChangeSpec.witness6 (enc := enc) (C := Try.checked) false ⟨#[], #[.agg #[.int .i64 0, .int .i64 0, .int .i64 0, .int .i64 0], .int .i64 0], []⟩ 8 (by kernel_rfl) (by kernel_rfl) (by kernel_rfl) (by kernel_rfl)) ?_
  intro W base args ds gs before hval0 hW hcnd _
  have hval : ∀ (j : Nat) t v, Try.f5.params[j]? = some t → args[j]? = some v → Value.okWide Try.prog W .any base t v := hval0
  have hW' := hW
  obtain ⟨p, q, hA0, hV, rfl, hfz, hnd⟩ := hW
  have hA : DataW.TrodAll enc Try.prog W 0 (fun _ => true) true Try.f5.params.toList args.toList ds p := hA0
  rw [Try.params5] at hA hval
  obtain ⟨v0, vs0, d0, ds0, p0, q0, hargs, rfl, rfl, h0, r0⟩ := trodAll_cons hA
  obtain ⟨v1, vs1, d1, ds1, p1, q1, rfl, rfl, rfl, h1, r1⟩ := trodAll_cons r0
  obtain ⟨rfl, rfl, rfl⟩ := trodAll_nil r1
  obtain rfl : args = #[v0, v1] := by cases args; simp_all
  obtain ⟨rfl, rfl⟩ := trodVars_none hV
  have k0 := h0
  have lt0 : ∀ x ∈ p0, x.block < W.heap.size := by obtain ⟨m, hm⟩ := k0; exact DataW.trod_lt m _ _ _ hm
  obtain ⟨b0, rfl, w0⟩ := open_bucket (hval 0 23 v0 rfl rfl) h0
  obtain ⟨a1, rfl, rfl, rfl, w1⟩ := open_int Try.underlying2 (hval 1 2 v1 rfl rfl) h1
  clear hA0 hval0
  refine (walk b0 a1 W w0 w1).mono fun e W' ⟨he, bel⟩ => ?_
  subst he
  exact ⟨_, rfl, _, _, _, [], _, [], hW', trodAll_mk1 (shut_bool Try.underlying4 _), (trodAll_cons_mk (Below.trod laidOut (by kernel_rfl) (of_decide_eq_true (by kernel_rfl)) k0 bel lt0) (trodAll_cons_mk (shut_int Try.underlying2 w1) trodAll_mk0)), rfl, bel.frame _, fun h => by cases h⟩

theorem over : Rows.fnExactLeftAtRow.holds Try.pinned (OpenSpec.ofChange Rows.fnExactLeftAtSpec) :=
  OpenClaim.holds_of_wide 5 Try.f5 rfl rfl rfl rfl rfl rfl rfl ⟨rfl, rfl, rfl, rfl, rfl⟩ rfl rfl rfl rfl rfl (by kernel_rfl) Try.func5 (by kernel_rfl)
    (of_decide_eq_true (by kernel_rfl)) (by unfold Func.isWrapper; first | (rw [if_pos (by decide +kernel)]; kernel_rfl) | (rw [if_neg (by decide +kernel)]; exact ⟨rfl, rfl⟩))
    (fun os started H enc _ => lifted os started H enc)

theorem proved : Rows.FnExactLeftAtSaid := over
#print axioms proved
end Go.Proofs.Ytmdoddikaaaamaa.fnExactLeftAt
