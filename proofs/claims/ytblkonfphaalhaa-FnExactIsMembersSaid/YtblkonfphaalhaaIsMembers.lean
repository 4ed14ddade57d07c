/-
  IsMembers answers as its model for every list of numbers, and leaves its argument as it was: the law returns true for every slice. No condition.
-/
import Derived.Test.YtblkonfphaalhaaRows
import Derived.WalkKit
import Derived.ProofKit
import Derived.OpenShut
import Derived.ShutString
import Derived.ChangeOld
import Derived.Below
import Derived.Lib.Hide
import Derived.Test.YtblkonfphaalhaaIsMembersC
namespace Go.Proofs.Ytblkonfphaalhaa.fnExactIsMembers
open Go.ChangeShapes Go.WideShapes Go.ChangeAt Go.RowKit
open Go.ChangeMaps (open_string shut_string)
set_option linter.unusedVariables false
set_option maxHeartbeats 800000 in
theorem walk (A : Option Addr) (n c : Nat) (z : List Int) (w : World) (w0 : IsRow .i64 w A n c z) :
    Calls Try.prog 6 #[.slice A n c] w fun e w' => e = .returned (.bool true) ∧ Below w.heap.size w w' := by
  by_cases hl : 1048576 < n
  · go_enter Try.func6, Try.ntmps6
    go_wp2
    go_ret
    exact ⟨rfl, Below.refl _ _⟩
  · have hrow := row_of_isRow w0
    clear w0
    generalize z.take n = xs at hrow
    go_enter Try.func6, Try.ntmps6
    go_wp2_with fail
    go_at_call 24; refine (toInt64S_any _ _ _ _ _ hrow (by omega)).mono ?_; rintro e w1 ⟨g1, rfl, ho1, hb1⟩
    go_wp2_with fail
    go_at_call 23; refine (spec_IsMembers_any _ _ _ _ _ _ (Row.of_own ho1) (by omega)).mono ?_; rintro e w2 ⟨rfl, hq2⟩
    have hb2 := hb1.trans ((drew_below hq2).mono hb1.size)
    clear hq2 ho1 hb1
    go_wp2_with fail
    go_at_call 24; refine (toInt64S_any _ _ _ _ _ (hrow.to hb2) (by omega)).mono ?_; rintro e w3 ⟨g3, rfl, ho3, hb3⟩
    have hb3' := hb2.trans (hb3.mono hb2.size)
    go_wp2_with fail
    go_at_call 25; refine (impl_IsMembers_any _ _ _ _ _ _ (Row.of_own ho3) (by omega)).mono ?_; rintro e w4 ⟨rfl, rfl⟩
    go_wp2_with fail
    go_at_call 24; refine (toInt64S_any _ _ _ _ _ (hrow.to hb3') (by omega)).mono ?_; rintro e w5 ⟨g5, rfl, ho5, hb5⟩
    have hb5' := hb3'.trans (hb5.mono hb3'.size)
    have hr3 := Row.of_own (own_below ho3 hb5 (Nat.le_refl _))
    have hr5 := Row.of_own ho5
    go_wp2_with fail
    go_at_call 26; refine (eqInt64S_same _ _ _ _ _ _ _ _ _ hr3 hr5 (by omega)).mono ?_; rintro e w6 ⟨rfl, hq6⟩
    have hb6 := hb5'.trans ((drew_below hq6).mono hb5'.size)
    clear hq6
    go_wp2
    go_ret
    exact ⟨rfl, hb6⟩

theorem own : ownKnob Try.prog.godebug = none := by kernel_rfl
theorem laidOut : laidOutB Try.prog = true := by kernel_rfl
set_option maxRecDepth 100000 in
theorem lifted (os : Os) (started : os.Started) (H : Type) (enc : TypeId × Value → H) :
    ReturnsInHanded {} Try.checked os 6 .any (Rows.fnExactIsMembersSpec.pre6 enc Try.prog Try.f6 Rows.fnExactIsMembersRow.domain false) (Rows.fnExactIsMembersSpec.post enc Try.prog Try.f6 false true false false) := by
  refine returnsInHanded_of_change (C := Try.checked) own started (by kernel_rfl) Try.func6
    (ChangeSpec.witness6 (enc := enc) (C := Try.checked) false ⟨#[], #[.slice none 0 0], []⟩ 8 (by kernel_rfl) (by kernel_rfl) (by kernel_rfl) (by kernel_rfl)) ?_
  intro W base args ds gs before hval0 hW hcnd _
  have hval : ∀ (j : Nat) t v, Try.f6.params[j]? = some t → args[j]? = some v → Value.okWide Try.prog W .any base t v := hval0
  have hW' := hW
  obtain ⟨p, q, hA0, hV, rfl, hfz, hnd⟩ := hW
  have hA : DataW.TrodAll enc Try.prog W 0 (fun _ => true) true Try.f6.params.toList args.toList ds p := hA0
  rw [Try.params6] at hA hval
  obtain ⟨v0, vs0, d0, ds0, p0, q0, hargs, rfl, rfl, h0, r0⟩ := trodAll_cons hA
  obtain ⟨rfl, rfl, rfl⟩ := trodAll_nil r0
  obtain rfl : args = #[v0] := by cases args; simp_all
  obtain ⟨rfl, rfl⟩ := trodVars_none hV
  obtain ⟨a0, len0, cap0, rfl⟩ := okWide_slice Try.underlying26 (hval 0 26 v0 rfl rfl)
  have k0 := h0
  have lt0 : ∀ x ∈ p0, x.block < W.heap.size := by obtain ⟨m, hm⟩ := k0; exact DataW.trod_lt m _ _ _ hm
  obtain ⟨z0, w0⟩ : ∃ zs, IsRow .i64 W a0 len0 cap0 zs := by
    obtain ⟨fuel, hf⟩ := h0
    rcases open_ints Try.underlying26 Try.underlying2 (by kernel_rfl) hf with ⟨hcs, _⟩ | ⟨x, l, c, zs, hcs, _, hl, hm, hz, _, hcell, hwz⟩
    · simp [Value.cells] at hcs
      obtain ⟨rfl, rfl, rfl⟩ := hcs
      exact ⟨[], .inl ⟨rfl, rfl, rfl, rfl⟩⟩
    · simp [Value.cells] at hcs
      obtain ⟨rfl, rfl, rfl⟩ := hcs
      exact ⟨zs, .inr ⟨_, rfl, hl, hm, by simpa using hz, hcell, hwz⟩⟩
  clear hA0 hval0
  refine (walk a0 len0 cap0 z0 W w0).mono fun e W' ⟨he, bel⟩ => ?_
  subst he
  exact ⟨_, rfl, _, _, _, [], _, [], hW', trodAll_mk1 (shut_bool Try.underlying4 _), (trodAll_cons_mk (Below.trod laidOut (by kernel_rfl) (of_decide_eq_true (by kernel_rfl)) k0 bel lt0) trodAll_mk0), rfl, bel.frame _, fun h => by cases h⟩

theorem over : Rows.fnExactIsMembersRow.holds Try.pinned (OpenSpec.ofChange Rows.fnExactIsMembersSpec) :=
  OpenClaim.holds_of_wide 6 Try.f6 rfl rfl rfl rfl rfl rfl rfl ⟨rfl, rfl, rfl, rfl, rfl⟩ rfl rfl rfl rfl rfl (by kernel_rfl) Try.func6 (by kernel_rfl)
    (of_decide_eq_true (by kernel_rfl)) (by unfold Func.isWrapper; first | (rw [if_pos (by decide +kernel)]; kernel_rfl) | (rw [if_neg (by decide +kernel)]; exact ⟨rfl, rfl⟩))
    (fun os started H enc _ => lifted os started H enc)

theorem proved : Rows.FnExactIsMembersSaid := over
#print axioms proved
end Go.Proofs.Ytblkonfphaalhaa.fnExactIsMembers
