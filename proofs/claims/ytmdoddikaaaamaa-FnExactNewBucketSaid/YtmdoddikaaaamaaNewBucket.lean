/-
  NewBucket answers as its model for all numbers: the law returns true for all numbers. No condition.
-/
import Derived.Test.YtmdoddikaaaamaaRows
import Derived.WalkKit
import Derived.ProofKit
import Derived.OpenShut
import Derived.ShutString
import Derived.ChangeOld
import Derived.Below
import Derived.Lib.Hide
import Derived.Deep.RegionHeld3
import Derived.Test.YtmdoddikaaaamaaBktN
import Derived.Test.YtmdoddikaaaamaaBktA
namespace Go.Proofs.Ytmdoddikaaaamaa.fnExactNewBucket
open Go.ChangeShapes Go.WideShapes Go.ChangeAt Go.RowKit
open Go.ChangeMaps (open_string shut_string)
set_option linter.unusedVariables false
set_option maxRecDepth 100000
set_option maxHeartbeats 3200000 in
theorem walk (s : Int) (e : Int) (t : Int) (w : World) (wfs : (Lit.int .i64 s).wf = true) (wfe : (Lit.int .i64 e).wf = true) (wft : (Lit.int .i64 t).wf = true) :
    Calls Try.prog 4 #[.int .i64 s, .int .i64 e, .int .i64 t] w fun e w' => e = .returned (.bool true) ∧ Below w.heap.size w w' := by
  go_enter Try.func4, Try.ntmps4
  go_wp2_with fail
  go_at_call 18; refine (spec_NewBucket_any s e t _).mono ?_; rintro e W1 ⟨rfl, hbn⟩
  have hb := hbn
  clear hbn
  have hsz := hb.size
  go_wp2_with fail
  obtain ⟨kV, hbn⟩ := one_box W1 25 #[.int .i64 (giveK (bktB ⟨s, e, s, t⟩) ⟨s, e, s, t⟩).sz, .int .i64 (giveK (bktB ⟨s, e, s, t⟩) ⟨s, e, s, t⟩).ev, .int .i64 (giveK (bktB ⟨s, e, s, t⟩) ⟨s, e, s, t⟩).lf, .int .i64 (giveK (bktB ⟨s, e, s, t⟩) ⟨s, e, s, t⟩).tm]
  have skV : w.heap.size ≤ W1.heap.size := hb.size
  generalize W1.alloc (.cells #[.int .i64 (giveK (bktB ⟨s, e, s, t⟩) ⟨s, e, s, t⟩).sz, .int .i64 (giveK (bktB ⟨s, e, s, t⟩) ⟨s, e, s, t⟩).ev, .int .i64 (giveK (bktB ⟨s, e, s, t⟩) ⟨s, e, s, t⟩).lf, .int .i64 (giveK (bktB ⟨s, e, s, t⟩) ⟨s, e, s, t⟩).tm] 25) = W2 at *
  have hb := hb.trans (hbn.mono hb.size)
  clear hbn
  have hsz := hb.size
  have kV_c0 := kV.cell 0; have kV_f0 := kV.frozen 0; have kV_c1 := kV.cell 1; have kV_f1 := kV.frozen 1; have kV_c2 := kV.cell 2; have kV_f2 := kV.frozen 2; have kV_c3 := kV.cell 3; have kV_f3 := kV.frozen 3; have kV_l := kV.lt
  go_wp2_with fail
  clear kV_c0 kV_f0 kV_c1 kV_f1 kV_c2 kV_f2 kV_c3 kV_f3 kV_l
  go_at_call 19; refine (impl_NewBucket_any s e t _).mono ?_; rintro e W3 ⟨rfl, hbn⟩
  have kV := kV.below hbn kV.lt
  have hb := hb.trans (hbn.mono hb.size)
  clear hbn
  have hsz := hb.size
  have kV_c0 := kV.cell 0; have kV_f0 := kV.frozen 0; have kV_c1 := kV.cell 1; have kV_f1 := kV.frozen 1; have kV_c2 := kV.cell 2; have kV_f2 := kV.frozen 2; have kV_c3 := kV.cell 3; have kV_f3 := kV.frozen 3; have kV_l := kV.lt
  go_wp2_with fail
  clear kV_c0 kV_f0 kV_c1 kV_f1 kV_c2 kV_f2 kV_c3 kV_f3 kV_l
  obtain ⟨kG, hbn⟩ := one_box W3 25 #[.int .i64 (giveK (bktB ⟨s, e, s, t⟩) ⟨s, e, s, t⟩).sz, .int .i64 (giveK (bktB ⟨s, e, s, t⟩) ⟨s, e, s, t⟩).ev, .int .i64 (giveK (bktB ⟨s, e, s, t⟩) ⟨s, e, s, t⟩).lf, .int .i64 (giveK (bktB ⟨s, e, s, t⟩) ⟨s, e, s, t⟩).tm]
  have skG : w.heap.size ≤ W3.heap.size := hb.size
  generalize W3.alloc (.cells #[.int .i64 (giveK (bktB ⟨s, e, s, t⟩) ⟨s, e, s, t⟩).sz, .int .i64 (giveK (bktB ⟨s, e, s, t⟩) ⟨s, e, s, t⟩).ev, .int .i64 (giveK (bktB ⟨s, e, s, t⟩) ⟨s, e, s, t⟩).lf, .int .i64 (giveK (bktB ⟨s, e, s, t⟩) ⟨s, e, s, t⟩).tm] 25) = W4 at *
  have kV := kV.below hbn kV.lt
  have hb := hb.trans (hbn.mono hb.size)
  clear hbn
  have hsz := hb.size
  have kV_c0 := kV.cell 0; have kV_f0 := kV.frozen 0; have kV_c1 := kV.cell 1; have kV_f1 := kV.frozen 1; have kV_c2 := kV.cell 2; have kV_f2 := kV.frozen 2; have kV_c3 := kV.cell 3; have kV_f3 := kV.frozen 3; have kV_l := kV.lt
  have kG_c0 := kG.cell 0; have kG_f0 := kG.frozen 0; have kG_c1 := kG.cell 1; have kG_f1 := kG.frozen 1; have kG_c2 := kG.cell 2; have kG_f2 := kG.frozen 2; have kG_c3 := kG.cell 3; have kG_f3 := kG.frozen 3; have kG_l := kG.lt
  go_wp2_with fail
  clear kV_c0 kV_f0 kV_c1 kV_f1 kV_c2 kV_f2 kV_c3 kV_f3 kV_l
  clear kG_c0 kG_f0 kG_c1 kG_f1 kG_c2 kG_f2 kG_c3 kG_f3 kG_l
  go_at_call 20; refine (eqBucket_same (giveK (bktB ⟨s, e, s, t⟩) ⟨s, e, s, t⟩) _).mono ?_; rintro e W5 ⟨rfl, hbn⟩
  have kV := kV.below hbn kV.lt
  have kG := kG.below hbn kG.lt
  have hb := hb.trans (hbn.mono hb.size)
  clear hbn
  have hsz := hb.size
  have kV_c0 := kV.cell 0; have kV_f0 := kV.frozen 0; have kV_c1 := kV.cell 1; have kV_f1 := kV.frozen 1; have kV_c2 := kV.cell 2; have kV_f2 := kV.frozen 2; have kV_c3 := kV.cell 3; have kV_f3 := kV.frozen 3; have kV_l := kV.lt
  have kG_c0 := kG.cell 0; have kG_f0 := kG.frozen 0; have kG_c1 := kG.cell 1; have kG_f1 := kG.frozen 1; have kG_c2 := kG.cell 2; have kG_f2 := kG.frozen 2; have kG_c3 := kG.cell 3; have kG_f3 := kG.frozen 3; have kG_l := kG.lt
  go_wp2
  go_ret
  exact ⟨rfl, hb⟩

theorem own : ownKnob Try.prog.godebug = none := by kernel_rfl
theorem laidOut : laidOutB Try.prog = true := by kernel_rfl
set_option maxRecDepth 100000 in
theorem lifted (os : Os) (started : os.Started) (H : Type) (enc : TypeId × Value → H) :
    ReturnsInHanded {} Try.checked os 4 .any (Rows.fnExactNewBucketSpec.pre6 enc Try.prog Try.f4 Rows.fnExactNewBucketRow.domain false) (Rows.fnExactNewBucketSpec.post enc Try.prog Try.f4 false true false false) := by
  refine returnsInHanded_of_change (C := Try.checked) own started (by kernel_rfl) Try.func4
    (ChangeSpec.witness6 (enc := enc) (C := Try.checked) false ⟨#[], #[.int .i64 0, .int .i64 0, .int .i64 0], []⟩ 8 (by kernel_rfl) (by kernel_rfl) (by kernel_rfl) (by kernel_rfl)) ?_
  intro W base args ds gs before hval0 hW hcnd _
  have hval : ∀ (j : Nat) t v, Try.f4.params[j]? = some t → args[j]? = some v → Value.okWide Try.prog W .any base t v := hval0
  have hW' := hW
  obtain ⟨p, q, hA0, hV, rfl, hfz, hnd⟩ := hW
  have hA : DataW.TrodAll enc Try.prog W 0 (fun _ => true) true Try.f4.params.toList args.toList ds p := hA0
  rw [Try.params4] at hA hval
  obtain ⟨v0, vs0, d0, ds0, p0, q0, hargs, rfl, rfl, h0, r0⟩ := trodAll_cons hA
  obtain ⟨v1, vs1, d1, ds1, p1, q1, rfl, rfl, rfl, h1, r1⟩ := trodAll_cons r0
  obtain ⟨v2, vs2, d2, ds2, p2, q2, rfl, rfl, rfl, h2, r2⟩ := trodAll_cons r1
  obtain ⟨rfl, rfl, rfl⟩ := trodAll_nil r2
  obtain rfl : args = #[v0, v1, v2] := by cases args; simp_all
  obtain ⟨rfl, rfl⟩ := trodVars_none hV
  obtain ⟨a0, rfl, rfl, rfl, w0⟩ := open_int Try.underlying2 (hval 0 2 v0 rfl rfl) h0
  obtain ⟨a1, rfl, rfl, rfl, w1⟩ := open_int Try.underlying2 (hval 1 2 v1 rfl rfl) h1
  obtain ⟨a2, rfl, rfl, rfl, w2⟩ := open_int Try.underlying2 (hval 2 2 v2 rfl rfl) h2
  clear hA0 hval0
  refine (walk a0 a1 a2 W w0 w1 w2).mono fun e W' ⟨he, bel⟩ => ?_
  subst he
  exact ⟨_, rfl, _, _, _, [], [], [], hW', trodAll_mk1 (shut_bool Try.underlying4 _), (trodAll_cons_mk (shut_int Try.underlying2 w0) (trodAll_cons_mk (shut_int Try.underlying2 w1) (trodAll_cons_mk (shut_int Try.underlying2 w2) trodAll_mk0))), rfl, bel.frame _, fun h => by cases h⟩

theorem over : Rows.fnExactNewBucketRow.holds Try.pinned (OpenSpec.ofChange Rows.fnExactNewBucketSpec) :=
  OpenClaim.holds_of_wide 4 Try.f4 rfl rfl rfl rfl rfl rfl rfl ⟨rfl, rfl, rfl, rfl, rfl⟩ rfl rfl rfl rfl rfl (by kernel_rfl) Try.func4 (by kernel_rfl)
    (of_decide_eq_true (by kernel_rfl)) (by unfold Func.isWrapper; first | (rw [if_pos (by decide +kernel)]; kernel_rfl) | (rw [if_neg (by decide +kernel)]; exact ⟨rfl, rfl⟩))
    (fun os started H enc _ => lifted os started H enc)

theorem proved : Rows.FnExactNewBucketSaid := over
#print axioms proved
end Go.Proofs.Ytmdoddikaaaamaa.fnExactNewBucket
