/-
  NewPost answers as its model for every number, every field, and its answer owns its memory: the law returns true for every number. No condition.
-/
import Derived.Test.YtmnmmjobplbflaaRows
import Derived.WalkKit
import Derived.ProofKit
import Derived.OpenShut
import Derived.ShutString
import Derived.ChangeOld
import Derived.Below
import Derived.Lib.Hide
import Derived.Test.YtmnmmjobplbflaaNewP
namespace Go.Proofs.Ytmnmmjobplbflaa.fnExactNewPost
open Go.ChangeShapes Go.WideShapes Go.ChangeAt Go.RowKit
open Go.ChangeMaps (open_string shut_string)
set_option linter.unusedVariables false
set_option maxRecDepth 100000
set_option maxHeartbeats 3200000 in
theorem walk (x : Int) (w : World) (wfx : (Lit.int .i64 x).wf = true) :
    Calls Try.prog 5 #[.int .i64 x] w fun e w' => e = .returned (.bool true) ∧ Below w.heap.size w w' := by
  obtain ⟨v, hv⟩ : ∃ v, limB x = v := ⟨_, rfl⟩
  obtain ⟨z, hz⟩ : ∃ z, limZ x = z := ⟨_, rfl⟩
  have HV := Lib.hid hv
  have HZ := Lib.hid hz
  clear hv hz
  go_enter Try.func5, Try.ntmps5
  go_wp2_with fail
  go_at_call 16; refine (spec_NewPost_any x _).mono ?_; rw [HV.out, HZ.out]; rintro e w1 ⟨A, c, rfl, hb⟩
  go_wp2_with fail
  obtain ⟨kw, hb1⟩ := one_box w1 29 #[.int .i64 z, .slice A 0 c]
  generalize w1.alloc (.cells #[.int .i64 z, .slice A 0 c] 29) = w2 at *
  have hb := hb.trans (hb1.mono hb.size)
  clear hb1
  go_at_call 17; refine (impl_NewPost_any x _).mono ?_; rw [HV.out, HZ.out]; rintro e w3 ⟨rfl, hb1⟩
  have hb := hb.trans (hb1.mono hb.size)
  have kw := kw.below hb1 kw.lt
  clear hb1
  have a0 := kw.cell 0; have a1 := kw.cell 1; have alt := kw.lt
  go_wp2_with fail
  obtain ⟨kg, hb1⟩ := one_box w3 29 #[.int .i64 z, .slice none 0 0]
  generalize w3.alloc (.cells #[.int .i64 z, .slice none 0 0] 29) = w4 at *
  have hb := hb.trans (hb1.mono hb.size)
  have kw := kw.below hb1 kw.lt
  clear hb1 a0 a1 alt
  go_at_call 13; refine (eqPost_same _ _ _ _ _ _ _ [] [] _ (postAt_nil _ _ _) (postAt_nil _ _ _) rfl ⟨by simp [bxs], fun _ h => by cases h⟩).mono ?_; rintro e w5 ⟨rfl, hb1⟩
  have hb := hb.trans (hb1.mono hb.size)
  have kw := kw.below hb1 kw.lt
  have kg := kg.below hb1 kg.lt
  clear hb1
  have g0 := kg.cell 0; have g1 := kg.cell 1
  go_wp2_with fail
  go_at_call 18; refine (markPost_nil _ 1 _).mono ?_; rintro e w6 ⟨rfl, hb1⟩
  have hb := hb.trans (hb1.mono hb.size)
  have kw := kw.below hb1 kw.lt
  have kg := kg.below hb1 kg.lt
  clear hb1 g0 g1
  have g0 := kg.cell 0; have g1 := kg.cell 1
  go_wp2_with fail
  go_at_call 19; refine (heldPost_nil _ 1 _).mono ?_; rintro e w7 ⟨rfl, hb1⟩
  have hb := hb.trans (hb1.mono hb.size)
  have kw := kw.below hb1 kw.lt
  have kg := kg.below hb1 kg.lt
  clear hb1 g0 g1
  go_wp2_with fail
  go_at_call 17; refine (impl_NewPost_any x _).mono ?_; rw [HV.out, HZ.out]; rintro e w8 ⟨rfl, hb1⟩
  have hb := hb.trans (hb1.mono hb.size)
  have kw := kw.below hb1 kw.lt
  have kg := kg.below hb1 kg.lt
  clear hb1
  have a0 := kw.cell 0; have a1 := kw.cell 1; have alt := kw.lt
  go_wp2_with fail
  obtain ⟨kh, hb1⟩ := one_box w8 29 #[.int .i64 z, .slice none 0 0]
  generalize w8.alloc (.cells #[.int .i64 z, .slice none 0 0] 29) = w9 at *
  have hb := hb.trans (hb1.mono hb.size)
  have kg := kg.below hb1 kg.lt
  clear hb1 a0 a1 alt kw
  go_at_call 13; refine (eqPost_same _ _ _ _ _ _ _ [] [] _ (postAt_nil _ _ _) (postAt_nil _ _ _) rfl ⟨by simp [bxs], fun _ h => by cases h⟩).mono ?_; rintro e w10 ⟨rfl, hb1⟩
  have hb := hb.trans (hb1.mono hb.size)
  have kg := kg.below hb1 kg.lt
  clear hb1 kh
  have g0 := kg.cell 0; have g1 := kg.cell 1
  go_wp2_with fail
  go_at_call 19; refine (heldPost_nil _ 1 _).mono ?_; rintro e w11 ⟨rfl, hb1⟩
  have hb := hb.trans (hb1.mono hb.size)
  clear hb1 g0 g1 kg
  go_wp2
  go_ret
  exact ⟨rfl, hb⟩

theorem own : ownKnob Try.prog.godebug = none := by kernel_rfl
theorem laidOut : laidOutB Try.prog = true := by kernel_rfl
set_option maxRecDepth 100000 in
theorem lifted (os : Os) (started : os.Started) (H : Type) (enc : TypeId × Value → H) :
    ReturnsInHanded {} Try.checked os 5 .any (Rows.fnExactNewPostSpec.pre6 enc Try.prog Try.f5 Rows.fnExactNewPostRow.domain false) (Rows.fnExactNewPostSpec.post enc Try.prog Try.f5 false true false false) := by
  refine returnsInHanded_of_change (C := Try.checked) own started (by kernel_rfl) Try.func5
    (ChangeSpec.witness6 (enc := enc) (C := Try.checked) false ⟨#[], #[.int .i64 0], []⟩ 8 (by kernel_rfl) (by kernel_rfl) (by kernel_rfl) (by kernel_rfl)) ?_
  intro W base args ds gs before hval0 hW hcnd _
  have hval : ∀ (j : Nat) t v, Try.f5.params[j]? = some t → args[j]? = some v → Value.okWide Try.prog W .any base t v := hval0
  have hW' := hW
  obtain ⟨p, q, hA0, hV, rfl, hfz, hnd⟩ := hW
  have hA : DataW.TrodAll enc Try.prog W 0 (fun _ => true) true Try.f5.params.toList args.toList ds p := hA0
  rw [Try.params5] at hA hval
  obtain ⟨v0, vs0, d0, ds0, p0, q0, hargs, rfl, rfl, h0, r0⟩ := trodAll_cons hA
  obtain ⟨rfl, rfl, rfl⟩ := trodAll_nil r0
  obtain rfl : args = #[v0] := by cases args; simp_all
  obtain ⟨rfl, rfl⟩ := trodVars_none hV
  obtain ⟨a0, rfl, rfl, rfl, w0⟩ := open_int Try.underlying2 (hval 0 2 v0 rfl rfl) h0
  clear hA0 hval0
  refine (walk a0 W w0).mono fun e W' ⟨he, bel⟩ => ?_
  subst he
  exact ⟨_, rfl, _, _, _, [], [], [], hW', trodAll_mk1 (shut_bool Try.underlying4 _), (trodAll_cons_mk (shut_int Try.underlying2 w0) trodAll_mk0), rfl, bel.frame _, fun h => by cases h⟩

theorem over : Rows.fnExactNewPostRow.holds Try.pinned (OpenSpec.ofChange Rows.fnExactNewPostSpec) :=
  OpenClaim.holds_of_wide 5 Try.f5 rfl rfl rfl rfl rfl rfl rfl ⟨rfl, rfl, rfl, rfl, rfl⟩ rfl rfl rfl rfl rfl (by kernel_rfl) Try.func5 (by kernel_rfl)
    (of_decide_eq_true (by kernel_rfl)) (by unfold Func.isWrapper; first | (rw [if_pos (by decide +kernel)]; kernel_rfl) | (rw [if_neg (by decide +kernel)]; exact ⟨rfl, rfl⟩))
    (fun os started H enc _ => lifted os started H enc)

theorem proved : Rows.FnExactNewPostSaid := over
#print axioms proved
end Go.Proofs.Ytmnmmjobplbflaa.fnExactNewPost
