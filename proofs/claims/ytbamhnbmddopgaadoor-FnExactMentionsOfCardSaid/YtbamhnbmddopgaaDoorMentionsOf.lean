/-
  MentionsOf answers as its model for every string, every field, and its answer owns its memory: the law returns true for every string. The row's own condition 'laid' (strconv's tables and errors hold what Go lays) is tied to the program's text by the card.
-/
import Derived.Test.YtbamhnbmddopgaaDoorRows
import Derived.Test.YtbamhnbmddopgaaDoorTie
import Derived.Test.YtbamhnbmddopgaaDoorCards
import Derived.SevenTiedAt
import Derived.LaidMore
import Derived.Lay
import Derived.Stop.Joined
import Derived.WalkKit
import Derived.ProofKit
import Derived.OpenShut
import Derived.ShutString
import Derived.ChangeOld
import Derived.Below
import Derived.Lib.Hide
import Derived.Test.YtbamhnbmddopgaaDoorMentI
import Derived.Test.YtbamhnbmddopgaaDoorWrapD
namespace Go.Proofs.YtbamhnbmddopgaaDoor.fnExactMentionsOf
open Go.ChangeShapes Go.WideShapes Go.ChangeAt Go.RowKit
open Go.ChangeMaps (open_string shut_string)
set_option linter.unusedVariables false
set_option maxHeartbeats 1600000 in
theorem list_yes {W : World} (hT : Laid W) (hX : MaxS W) (s : ByteArray) (ns : List Int) (h1 : s.size ≤ 1048576) (ht : textB s = true) (hns : setL (mentsL (tl s)) = ns) :
    Calls Tryd.prog 3 #[.string s] W fun e w' => e = .returned (.bool true) ∧ Below W.heap.size W w' := by
  have hlen : ns.length ≤ 1048576 := by
    rw [← hns]
    have a1 := (setL_facts (mentsL (tl s))).2.2
    have a2 := mentsL_len (tl s)
    have a3 : (tl s).length = s.size := by simp [tl]
    omega
  have HR := Lib.hid hlen
  have HN := Lib.hid hns
  have HY := Lib.hid ht
  clear ht hns hlen
  go_enter Tryd.func3, Tryd.ntmps3
  go_wp2_with fail
  go_at_call 5; refine (spec_MentionsOf_yes _ _ h1 HY.out).mono ?_; rw [HN.out]; rintro e w3 ⟨Aw, mw, cw, rfl, how, hb⟩
  have hmw : mw = ns.length := by simpa using how.1.symm
  subst hmw
  go_wp2_with fail
  go_at_call 6; refine (impl_MentionsOf_yes _ _ h1 HY.out (hT.below hb) (hX.below hb)).mono ?_; rw [HN.out]; rintro e w6 ⟨Ag, mg, cg, rfl, hg, hbn⟩
  have hmg : mg = ns.length := by simpa using hg.1.symm
  subst hmg
  have b3 := hb.size
  have nwg := own_ne how hg
  have how := own_below how hbn (Nat.le_refl _)
  have hb := hb.trans (hbn.mono hb.size)
  clear hbn
  go_wp2_with fail
  go_at_call 7; refine (eqInt64S_same _ _ _ _ _ _ _ _ _ (Row.of_own_any hg) (Row.of_own_any how) (by have := HR.out; omega)).mono ?_; rintro e wq ⟨rfl, hq⟩
  have how := own_drew how hq
  have hg := own_drew hg hq
  have hb := hb.trans ((drew_below hq).mono hb.size)
  clear hq
  have b5 := hb.size
  go_wp2_with fail
  go_at_call 8; refine (mark_any _ _ _ 1 _ _ _ hg (by have := HR.out; omega) (by omega)).mono ?_; rintro e wm ⟨rfl, hm, hk, hbk, hsz⟩
  have how := hk _ _ _ _ _ _ how nwg
  have hb := hbk _ _ hb (by omega) b5
  have hg := hm
  clear hm hk hbk hsz
  go_wp2_with fail
  go_at_call 9; refine (heldInt64S_any _ _ _ 1 _ _ (Row.of_own_any hg) (by have := HR.out; omega) (by omega)).mono ?_; rintro e wh ⟨rfl, rfl⟩
  go_wp2_with fail
  go_at_call 6; refine (impl_MentionsOf_yes _ _ h1 HY.out (hT.below hb) (hX.below hb)).mono ?_; rw [HN.out]; rintro e w7 ⟨Ah, mh, ch, rfl, hh, hbn⟩
  have hmh : mh = ns.length := by simpa using hh.1.symm
  subst hmh
  have how := own_below how hbn (Nat.le_refl _)
  have hg := own_below hg hbn (Nat.le_refl _)
  have hb := hb.trans (hbn.mono hb.size)
  clear hbn
  go_wp2_with fail
  go_at_call 7; refine (eqInt64S_same _ _ _ _ _ _ _ _ _ (Row.of_own_any hh) (Row.of_own_any how) (by have := HR.out; omega)).mono ?_; rintro e wq ⟨rfl, hq⟩
  have hg := own_drew hg hq
  have hb := hb.trans ((drew_below hq).mono hb.size)
  clear hq
  go_wp2_with fail
  go_at_call 9; refine (heldInt64S_any _ _ _ 1 _ _ (Row.of_own_any hg) (by have := HR.out; omega) (by omega)).mono ?_; rintro e wh ⟨rfl, rfl⟩
  go_wp2
  go_ret
  exact ⟨rfl, hb⟩
theorem list_no {W : World} (hT : Laid W) (hX : MaxS W) (s : ByteArray) (h1 : s.size ≤ 1048576) (hy : textB s = false) :
    Calls Tryd.prog 3 #[.string s] W fun e w' => e = .returned (.bool true) ∧ Below W.heap.size W w' := by
  have HY := Lib.hid hy
  clear hy
  go_enter Tryd.func3, Tryd.ntmps3
  go_wp2_with fail
  go_at_call 5; refine (spec_MentionsOf_no _ _ h1 HY.out).mono ?_; rintro e w3 ⟨rfl, hb⟩
  go_wp2_with fail
  go_at_call 6; refine (impl_MentionsOf_no _ _ h1 HY.out).mono ?_; rintro e w4 ⟨rfl, hbn⟩
  have hb := hb.trans (hbn.mono hb.size)
  clear hbn
  go_wp2_with fail
  go_at_call 7; refine (eqInt64S_same none none 0 0 0 0 0 [] _ Row.none_ Row.none_ (by omega)).mono ?_; rintro e wq ⟨rfl, hq⟩
  have hb := hb.trans ((drew_below hq).mono hb.size)
  clear hq
  go_wp2_with fail
  go_at_call 8; refine (markInt64S_nil 1 _).mono ?_; rintro e wm ⟨rfl, rfl⟩
  go_wp2_with fail
  go_at_call 9; refine (heldInt64S_any none 0 0 1 0 _ Row.none_ (by omega) (by omega)).mono ?_; rintro e wh ⟨rfl, rfl⟩
  go_wp2_with fail
  go_at_call 6; refine (impl_MentionsOf_no _ _ h1 HY.out).mono ?_; rintro e w4 ⟨rfl, hbn⟩
  have hb := hb.trans (hbn.mono hb.size)
  clear hbn
  go_wp2_with fail
  go_at_call 7; refine (eqInt64S_same none none 0 0 0 0 0 [] _ Row.none_ Row.none_ (by omega)).mono ?_; rintro e wq ⟨rfl, hq⟩
  have hb := hb.trans ((drew_below hq).mono hb.size)
  clear hq
  go_wp2_with fail
  go_at_call 9; refine (heldInt64S_any none 0 0 1 0 _ Row.none_ (by omega) (by omega)).mono ?_; rintro e wh ⟨rfl, rfl⟩
  go_wp2
  go_ret
  exact ⟨rfl, hb⟩
theorem walk {W : World} (hL : laidMetH Tryd.prog Rows.fnExactMentionsOfRow.laid W) (hsh : W.ShapedOpen Tryd.prog) (s : ByteArray) (w0 : s.size ≤ maxLen) :
    Calls Tryd.prog 3 #[.string s] W fun e w' => e = .returned (.bool true) ∧ Below W.heap.size W w' := by
  rw [MakeChecks.laidMetH_plain _ _ _ (by kernel_rfl)] at hL
  have hT : Laid W := ⟨pow10_of_laid (x := _) (y := _) (rest := _) hL, syntax_of_laid (rest := _) hL.tail.tail.tail.tail.tail, range_of_laid (rest := _) hL.tail.tail.tail.tail⟩
  have hX : MaxS W := Tryd.laysM146.s1_3 W hsh
  clear hL hsh
  by_cases h1 : s.size ≤ 1048576
  · cases ht : textB s with
    | true => exact list_yes hT hX s _ h1 ht rfl
    | false => exact list_no hT hX s h1 ht
  · have h2 : 1048576 < s.size := by omega
    unfold maxLen at w0
    clear h1
    go_enter Tryd.func3, Tryd.ntmps3
    go_wp2
    go_ret
    exact ⟨rfl, Below.refl _ _⟩

theorem own : ownKnob Tryd.prog.godebug = none := by kernel_rfl
theorem laidOut : laidOutB Tryd.prog = true := by kernel_rfl
theorem door_met (os : Os) (args : Array Value) : laidMetH Tryd.prog Rows.fnExactMentionsOfRow.laid ((World.laidAll Tryd.prog os Rows.fnExactMentionsOfRow.laid).forCall (fun _ _ => 0) ⟨#[], args, []⟩).memory :=
  by rw [MakeChecks.laidMetH_plain _ _ _ (by kernel_rfl)]; exact laidMet_laidAll _ (by kernel_rfl) (by kernel_rfl)
set_option maxRecDepth 100000 in
theorem lifted (os : Os) (started : os.Started) (H : Type) (enc : TypeId × Value → H) :
    ReturnsInHanded {} Tryd.checked os 3 .any (fun w args => (Rows.fnExactMentionsOfSpec.pre enc Tryd.prog Tryd.f3 [] false w args ∧ laidMetH Tryd.prog Rows.fnExactMentionsOfRow.laid w) ∧ sizedMet enc Tryd.prog Tryd.f3 (OpenSpec.ofChange Rows.fnExactMentionsOfSpec) false w args)
      (Rows.fnExactMentionsOfSpec.post enc Tryd.prog Tryd.f3 false true false false) := by
  refine wrap_shaped (C := Tryd.checked) (X := fun w _ => laidMetH Tryd.prog Rows.fnExactMentionsOfRow.laid w) (fun _ _ _ hh h => h.of_heap hh) own started (by kernel_rfl) Tryd.func3
    (ChangeSpec.witness_shaped (enc := enc) (C := Tryd.checked) (os := os) (X := fun w _ => laidMetH Tryd.prog Rows.fnExactMentionsOfRow.laid w) false (World.laidAll Tryd.prog os Rows.fnExactMentionsOfRow.laid) #[.string ByteArray.empty] 8 (World.laidAll_os _ _ _) (World.shaped_of_ZipB (by kernel_rfl) (by kernel_rfl)) (by kernel_rfl) (by kernel_rfl) (by kernel_rfl) (door_met os _)) ?_
  intro W base args ds gs before hval0 hW hL hsh
  have hval : ∀ (j : Nat) t v, Tryd.f3.params[j]? = some t → args[j]? = some v → Value.okWide Tryd.prog W .any base t v := hval0
  have hW' := hW
  obtain ⟨p, q, hA0, hV, rfl, hfz, hnd⟩ := hW
  have hA : DataW.TrodAll enc Tryd.prog W 0 (fun _ => true) true Tryd.f3.params.toList args.toList ds p := hA0
  rw [Tryd.params3] at hA hval
  obtain ⟨v0, vs0, d0, ds0, p0, q0, hargs, rfl, rfl, h0, r0⟩ := trodAll_cons hA
  obtain ⟨rfl, rfl, rfl⟩ := trodAll_nil r0
  obtain rfl : args = #[v0] := by cases args; simp_all
  obtain ⟨rfl, rfl⟩ := trodVars_none hV
  obtain ⟨a0, rfl, rfl, rfl, w0⟩ := open_string Tryd.underlying9 (hval 0 9 v0 rfl rfl) h0
  clear hA0 hval0
  refine (walk hL hsh a0 w0).mono fun e W' ⟨he, bel⟩ => ?_
  subst he
  exact ⟨_, rfl, _, _, _, [], [], [], hW', trodAll_mk1 (shut_bool Tryd.underlying4 _), (trodAll_cons_mk (shut_string Tryd.underlying9 w0) trodAll_mk0), rfl, bel.frame _, fun h => by cases h⟩

theorem over : Rows.fnExactMentionsOfRow.holds Tryd.pinned (OpenSpec.ofChange Rows.fnExactMentionsOfSpec) :=
  OpenClaim.holds_of_wide 3 Tryd.f3 rfl rfl rfl rfl rfl rfl rfl ⟨rfl, rfl, rfl, rfl, rfl⟩ rfl rfl rfl rfl rfl (by kernel_rfl) Tryd.func3 (by kernel_rfl)
    (of_decide_eq_true (by kernel_rfl)) (by unfold Func.isWrapper; first | (rw [if_pos (by decide +kernel)]; kernel_rfl) | (rw [if_neg (by decide +kernel)]; exact ⟨rfl, rfl⟩))
    (fun os started H enc _ => lifted os started H enc)

theorem proved : Rows.FnExactMentionsOfCardSaid :=
  Claim7.holds_tied_plain_at .later [] _ true _ true
    over (fun _ h => by cases h) (by kernel_rfl) (fun _ h => by cases h) fnExactMentionsOf_row_tie rfl ⟨rfl, rfl⟩ (by kernel_rfl) rfl
    (fun f fn hf hfn => by
      obtain rfl : f = 3 := Option.some.inj ((show Tryd.prog.funcNamed Rows.fnExactMentionsOfRow.func = some 3 by kernel_rfl).symm.trans hf) |>.symm
      obtain rfl : fn = Tryd.f3 := (Option.some.inj (Tryd.func3.symm.trans hfn)).symm
      exact ⟨by kernel_rfl, fun j t ht => by
        rw [Tryd.params3] at ht
        have hm : t ∈ [9] := by simpa using Array.mem_of_getElem? ht
        have hall : ([9].all fun u => !Tryd.prog.wantsStandIn u) = true := by kernel_rfl
        exact (show Tryd.prog.wantsStandIn t = false by simpa using List.all_eq_true.1 hall t hm)⟩)
    (by kernel_rfl)
#print axioms proved
end Go.Proofs.YtbamhnbmddopgaaDoor.fnExactMentionsOf
