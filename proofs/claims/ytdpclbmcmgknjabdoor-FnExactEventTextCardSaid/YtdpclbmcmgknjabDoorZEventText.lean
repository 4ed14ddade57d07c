/-
  EventText answers as its model for every event: the law returns true for every event. The row's own condition 'laid' (strconv's tables hold what Go lays) is tied to the program's text by the card.
-/
import Derived.Test.YtdpclbmcmgknjabDoorRows
import Derived.Test.YtdpclbmcmgknjabDoorTie
import Derived.Test.YtdpclbmcmgknjabDoorCards
import Derived.SevenTiedAt
import Derived.LaidMore
import Derived.Lay
import Derived.Stop.Joined
import Derived.WalkKit
import Derived.ProofKit
import Derived.OpenShut
import Derived.ShutString
import Derived.ChangeOld
import Derived.Below
import Derived.Lib.Hide
import Derived.Test.YtdpclbmcmgknjabDoorZEtxS
import Derived.Test.YtdpclbmcmgknjabDoorZEtxI
import Derived.Test.YtdpclbmcmgknjabDoorZEvtA
import Derived.Test.YtdpclbmcmgknjabDoorZLaidP
namespace Go.Proofs.YtdpclbmcmgknjabDoor.fnExactEventText
open Go.ChangeShapes Go.WideShapes Go.ChangeAt Go.RowKit
open Go.ChangeMaps (open_string shut_string)
set_option linter.unusedVariables false
set_option maxRecDepth 100000
set_option maxHeartbeats 3200000 in
theorem walk_all (e : Ev) (w : World) (h0 : EvWf e) (hT : Pow10 w) :
    Calls Tryd.prog 3 #[.agg #[.int .i64 e.kd, .int .i64 e.nu, .int .i64 e.mb, .int .i64 e.tk, .string e.tx, .int .i64 e.rp]] w fun v w' => v = .returned (.bool true) ∧ Below w.heap.size w w' := by
  obtain ⟨r, hr⟩ : ∃ z, evB e = z := ⟨_, rfl⟩
  have HTT := Lib.hid hT; clear hT
  obtain ⟨c, hc⟩ : ∃ z, (if evB e = true then evTxt e else ⟨#[]⟩) = z := ⟨_, rfl⟩
  have HC := Lib.hid hc; have HR := Lib.hid hr; clear hc hr
  have hm := h0.1
  unfold maxLen at hm
  clear h0
  by_cases hs : e.tx.size ≤ 1048576
  · have x1 : ¬ ((1048576 : Int) - (e.tx.size : Int) < 0) := by omega
    clear hm
    go_enter Tryd.func3, Tryd.ntmps3
    go_wp2_with fail
    obtain ⟨k0, hb⟩ := one_box w 23 #[.int .i64 e.kd, .int .i64 e.nu, .int .i64 e.mb, .int .i64 e.tk, .string e.tx, .int .i64 e.rp]
    generalize w.alloc (.cells #[.int .i64 e.kd, .int .i64 e.nu, .int .i64 e.mb, .int .i64 e.tk, .string e.tx, .int .i64 e.rp] 23) = W0 at *
    go_at_call 5; refine (szEvent_ok e _ _ (by omega) (by omega)).mono ?_; rintro v w1 ⟨rfl, hbn⟩
    have k0 := k0.below hbn k0.lt; have hb := hb.trans (hbn.mono hb.size); clear hbn
    have l0 := k0.cell 0; have l1 := k0.cell 1; have l2 := k0.cell 2; have l3 := k0.cell 3; have l4 := k0.cell 4; have l5 := k0.cell 5; have llt := k0.lt
    go_wp2_with fail
    clear l0 l1 l2 l3 l4 l5 llt
    go_at_call 7; refine (toEvent_any e _).mono ?_; rintro v w2 ⟨rfl, hbn⟩
    have k0 := k0.below hbn k0.lt; have hb := hb.trans (hbn.mono hb.size); clear hbn
    go_wp2_with fail
    go_at_call 6; refine (spec_EventText_any e _ hs).mono ?_; rw [HC.out, HR.out]; rintro v w3 ⟨rfl, hbn⟩
    have k0 := k0.below hbn k0.lt; have hb := hb.trans (hbn.mono hb.size); clear hbn
    have l0 := k0.cell 0; have l1 := k0.cell 1; have l2 := k0.cell 2; have l3 := k0.cell 3; have l4 := k0.cell 4; have l5 := k0.cell 5; have llt := k0.lt
    go_wp2_with fail
    clear l0 l1 l2 l3 l4 l5 llt
    go_at_call 7; refine (toEvent_any e _).mono ?_; rintro v w4 ⟨rfl, hbn⟩
    have k0 := k0.below hbn k0.lt; have hb := hb.trans (hbn.mono hb.size); clear hbn
    go_wp2_with fail
    go_at_call 8; refine (impl_EventText_any e _ hs (HTT.out.below hb)).mono ?_; rw [HC.out, HR.out]; rintro v w5 ⟨rfl, hbn⟩
    have k0 := k0.below hbn k0.lt; have hb := hb.trans (hbn.mono hb.size); clear hbn
    go_wp2
    go_ret
    exact ⟨rfl, hb⟩
  · go_enter Tryd.func3, Tryd.ntmps3
    go_wp2_with fail
    obtain ⟨k0, hb⟩ := one_box w 23 #[.int .i64 e.kd, .int .i64 e.nu, .int .i64 e.mb, .int .i64 e.tk, .string e.tx, .int .i64 e.rp]
    generalize w.alloc (.cells #[.int .i64 e.kd, .int .i64 e.nu, .int .i64 e.mb, .int .i64 e.tk, .string e.tx, .int .i64 e.rp] 23) = W0 at *
    go_at_call 5; refine (szEvent_no e _ _ (by omega) (by omega) (by omega) (by omega)).mono ?_; rintro v w1 ⟨rfl, hbn⟩
    have k0 := k0.below hbn k0.lt; have hb := hb.trans (hbn.mono hb.size); clear hbn
    go_wp2
    go_ret
    exact ⟨rfl, hb⟩
theorem walk {W : World} (hL : laidMetH Tryd.prog Rows.fnExactEventTextRow.laid W) (e : Ev) (h0 : EvWf e) :
    Calls Tryd.prog 3 #[.agg #[.int .i64 e.kd, .int .i64 e.nu, .int .i64 e.mb, .int .i64 e.tk, .string e.tx, .int .i64 e.rp]] W fun v w' => v = .returned (.bool true) ∧ Below W.heap.size W w' := by
  rw [MakeChecks.laidMetH_plain _ _ _ (by kernel_rfl)] at hL
  exact walk_all e W h0 (pow10_of_laid (x := _) (y := _) (rest := _) hL)

theorem own : ownKnob Tryd.prog.godebug = none := by kernel_rfl
theorem laidOut : laidOutB Tryd.prog = true := by kernel_rfl
theorem door_met (os : Os) (args : Array Value) : laidMetH Tryd.prog Rows.fnExactEventTextRow.laid ((World.doorLaid Tryd.prog 400 os).forCall (fun _ _ => 0) ⟨#[], args, []⟩).memory :=
  laidMetH_of_parts3 (fuel := 8) (laidMet_of_run' 8 (by kernel_rfl) (by kernel_rfl)) (by kernel_rfl) (by kernel_rfl)
set_option maxRecDepth 100000 in
theorem lifted (os : Os) (started : os.Started) (H : Type) (enc : TypeId × Value → H) :
    ReturnsInHanded {} Tryd.checked os 3 .any (fun w args => (Rows.fnExactEventTextSpec.pre enc Tryd.prog Tryd.f3 [] false w args ∧ laidMetH Tryd.prog Rows.fnExactEventTextRow.laid w) ∧ sizedMet enc Tryd.prog Tryd.f3 (OpenSpec.ofChange Rows.fnExactEventTextSpec) false w args)
      (Rows.fnExactEventTextSpec.post enc Tryd.prog Tryd.f3 false true false false) := by
  refine returnsInHanded_of_change_and (C := Tryd.checked) (X := fun w _ => laidMetH Tryd.prog Rows.fnExactEventTextRow.laid w) (fun _ _ _ hh h => h.of_heap hh) own started (by kernel_rfl) Tryd.func3
    (ChangeSpec.witness_shaped (enc := enc) (C := Tryd.checked) (os := os) (X := fun w _ => laidMetH Tryd.prog Rows.fnExactEventTextRow.laid w) false (World.doorLaid Tryd.prog 400 os) #[.agg #[.int .i64 0, .int .i64 0, .int .i64 0, .int .i64 0, .string ByteArray.empty, .int .i64 0]] 8 rfl (World.shaped_of_RefB (by kernel_rfl) (by kernel_rfl)) (by kernel_rfl) (by kernel_rfl) (by kernel_rfl) (door_met os _)) ?_
  intro W base args ds gs before hval0 hW hcnd _ hL _
  have hval : ∀ (j : Nat) t v, Tryd.f3.params[j]? = some t → args[j]? = some v → Value.okWide Tryd.prog W .any base t v := hval0
  have hW' := hW
  obtain ⟨p, q, hA0, hV, rfl, hfz, hnd⟩ := hW
  have hA : DataW.TrodAll enc Tryd.prog W 0 (fun _ => true) true Tryd.f3.params.toList args.toList ds p := hA0
  rw [Tryd.params3] at hA hval
  obtain ⟨v0, vs0, d0, ds0, p0, q0, hargs, rfl, rfl, h0, r0⟩ := trodAll_cons hA
  obtain ⟨rfl, rfl, rfl⟩ := trodAll_nil r0
  obtain rfl : args = #[v0] := by cases args; simp_all
  obtain ⟨rfl, rfl⟩ := trodVars_none hV
  have k0 := h0
  have lt0 : ∀ x ∈ p0, x.block < W.heap.size := by obtain ⟨m, hm⟩ := k0; exact DataW.trod_lt m _ _ _ hm
  obtain ⟨e0, rfl, w0⟩ := open_event (hval 0 23 v0 rfl rfl) h0
  clear hA0 hval0
  refine (walk hL e0 w0).mono fun e W' ⟨he, bel⟩ => ?_
  subst he
  exact ⟨_, rfl, _, _, _, [], _, [], hW', trodAll_mk1 (shut_bool Tryd.underlying4 _), (trodAll_cons_mk (Below.trod laidOut (by kernel_rfl) (of_decide_eq_true (by kernel_rfl)) k0 bel lt0) trodAll_mk0), rfl, bel.frame _, fun h => by cases h⟩

theorem over : Rows.fnExactEventTextRow.holds Tryd.pinned (OpenSpec.ofChange Rows.fnExactEventTextSpec) :=
  OpenClaim.holds_of_wide 3 Tryd.f3 rfl rfl rfl rfl rfl rfl rfl ⟨rfl, rfl, rfl, rfl, rfl⟩ rfl rfl rfl rfl rfl (by kernel_rfl) Tryd.func3 (by kernel_rfl)
    (of_decide_eq_true (by kernel_rfl)) (by unfold Func.isWrapper; first | (rw [if_pos (by decide +kernel)]; kernel_rfl) | (rw [if_neg (by decide +kernel)]; exact ⟨rfl, rfl⟩))
    (fun os started H enc _ => lifted os started H enc)

theorem proved : Rows.FnExactEventTextCardSaid :=
  Claim7.holds_tied_plain_at .later [] _ true _ true
    over (fun _ h => by cases h) (by kernel_rfl) (fun _ h => by cases h) fnExactEventText_row_tie rfl ⟨rfl, rfl⟩ (by kernel_rfl) rfl
    (fun f fn hf hfn => by
      obtain rfl : f = 3 := Option.some.inj ((show Tryd.prog.funcNamed Rows.fnExactEventTextRow.func = some 3 by kernel_rfl).symm.trans hf) |>.symm
      obtain rfl : fn = Tryd.f3 := (Option.some.inj (Tryd.func3.symm.trans hfn)).symm
      exact ⟨by kernel_rfl, fun j t ht => by
        rw [Tryd.params3] at ht
        have hm : t ∈ [23] := by simpa using Array.mem_of_getElem? ht
        have hall : ([23].all fun u => !Tryd.prog.wantsStandIn u) = true := by kernel_rfl
        exact (show Tryd.prog.wantsStandIn t = false by simpa using List.all_eq_true.1 hall t hm)⟩)
    (by kernel_rfl)
#print axioms proved
end Go.Proofs.YtdpclbmcmgknjabDoor.fnExactEventText
