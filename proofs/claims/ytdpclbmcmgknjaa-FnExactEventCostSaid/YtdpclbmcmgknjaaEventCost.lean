/-
  EventCost answers as its model for every event: the law returns true for every event. No condition.
-/
import Derived.Test.YtdpclbmcmgknjaaRows
import Derived.WalkKit
import Derived.ProofKit
import Derived.OpenShut
import Derived.ShutString
import Derived.ChangeOld
import Derived.Below
import Derived.Lib.Hide
import Derived.Test.YtdpclbmcmgknjaaEvtW
import Derived.Test.YtdpclbmcmgknjaaEvtA
namespace Go.Proofs.Ytdpclbmcmgknjaa.fnExactEventCost
open Go.ChangeShapes Go.WideShapes Go.ChangeAt Go.RowKit
open Go.ChangeMaps (open_string shut_string)
set_option linter.unusedVariables false
set_option maxRecDepth 100000
set_option maxHeartbeats 3200000 in
theorem walk (e : Ev) (w : World) (h0 : EvWf e) :
    Calls Try.prog 4 #[.agg #[.int .i64 e.kd, .int .i64 e.nu, .int .i64 e.mb, .int .i64 e.tk, .string e.tx, .int .i64 e.rp]] w fun v w' => v = .returned (.bool true) ∧ Below w.heap.size w w' := by
  obtain ⟨r, hr⟩ : ∃ z, evB e = z := ⟨_, rfl⟩
  obtain ⟨c, hc⟩ : ∃ z, (if evB e = true then 12 + (e.tx.size : Int) else 0) = z := ⟨_, rfl⟩
  have HC := Lib.hid hc; have HR := Lib.hid hr; clear hc hr
  have hm := h0.1
  unfold maxLen at hm
  clear h0
  by_cases hs : e.tx.size ≤ 1048576
  · have x1 : ¬ ((1048576 : Int) - (e.tx.size : Int) < 0) := by omega
    clear hm
    go_enter Try.func4, Try.ntmps4
    go_wp2_with fail
    obtain ⟨k0, hb⟩ := one_box w 23 #[.int .i64 e.kd, .int .i64 e.nu, .int .i64 e.mb, .int .i64 e.tk, .string e.tx, .int .i64 e.rp]
    generalize w.alloc (.cells #[.int .i64 e.kd, .int .i64 e.nu, .int .i64 e.mb, .int .i64 e.tk, .string e.tx, .int .i64 e.rp] 23) = W0 at *
    go_at_call 13; refine (szEvent_ok e _ _ (by omega) (by omega)).mono ?_; rintro v w1 ⟨rfl, hbn⟩
    have k0 := k0.below hbn k0.lt; have hb := hb.trans (hbn.mono hb.size); clear hbn
    have l0 := k0.cell 0; have l1 := k0.cell 1; have l2 := k0.cell 2; have l3 := k0.cell 3; have l4 := k0.cell 4; have l5 := k0.cell 5; have llt := k0.lt
    go_wp2_with fail
    clear l0 l1 l2 l3 l4 l5 llt
    go_at_call 15; refine (toEvent_any e _).mono ?_; rintro v w2 ⟨rfl, hbn⟩
    have k0 := k0.below hbn k0.lt; have hb := hb.trans (hbn.mono hb.size); clear hbn
    go_wp2_with fail
    go_at_call 17; refine (spec_EventCost_any e _ hs).mono ?_; rw [HC.out, HR.out]; rintro v w3 ⟨rfl, hbn⟩
    have k0 := k0.below hbn k0.lt; have hb := hb.trans (hbn.mono hb.size); clear hbn
    have l0 := k0.cell 0; have l1 := k0.cell 1; have l2 := k0.cell 2; have l3 := k0.cell 3; have l4 := k0.cell 4; have l5 := k0.cell 5; have llt := k0.lt
    go_wp2_with fail
    clear l0 l1 l2 l3 l4 l5 llt
    go_at_call 15; refine (toEvent_any e _).mono ?_; rintro v w4 ⟨rfl, hbn⟩
    have k0 := k0.below hbn k0.lt; have hb := hb.trans (hbn.mono hb.size); clear hbn
    go_wp2_with fail
    go_at_call 18; refine (impl_EventCost_any e _ hs).mono ?_; rw [HC.out, HR.out]; rintro v w5 ⟨rfl, hbn⟩
    have k0 := k0.below hbn k0.lt; have hb := hb.trans (hbn.mono hb.size); clear hbn
    go_wp2
    go_ret
    exact ⟨rfl, hb⟩
  · go_enter Try.func4, Try.ntmps4
    go_wp2_with fail
    obtain ⟨k0, hb⟩ := one_box w 23 #[.int .i64 e.kd, .int .i64 e.nu, .int .i64 e.mb, .int .i64 e.tk, .string e.tx, .int .i64 e.rp]
    generalize w.alloc (.cells #[.int .i64 e.kd, .int .i64 e.nu, .int .i64 e.mb, .int .i64 e.tk, .string e.tx, .int .i64 e.rp] 23) = W0 at *
    go_at_call 13; refine (szEvent_no e _ _ (by omega) (by omega) (by omega) (by omega)).mono ?_; rintro v w1 ⟨rfl, hbn⟩
    have k0 := k0.below hbn k0.lt; have hb := hb.trans (hbn.mono hb.size); clear hbn
    go_wp2
    go_ret
    exact ⟨rfl, hb⟩

theorem own : ownKnob Try.prog.godebug = none := by kernel_rfl
theorem laidOut : laidOutB Try.prog = true := by kernel_rfl
set_option maxRecDepth 100000 in
theorem lifted (os : Os) (started : os.Started) (H : Type) (enc : TypeId × Value → H) :
    ReturnsInHanded {} Try.checked os 4 .any (Rows.fnExactEventCostSpec.pre6 enc Try.prog Try.f4 Rows.fnExactEventCostRow.domain false) (Rows.fnExactEventCostSpec.post enc Try.prog Try.f4 false true false false) := by
  refine returnsInHanded_of_change (C := Try.checked) own started (by kernel_rfl) Try.func4
    (ChangeSpec.witness6 (enc := enc) (C := Try.checked) false ⟨#[], #[.agg #[.int .i64 0, .int .i64 0, .int .i64 0, .int .i64 0, .string ByteArray.empty, .int .i64 0]], []⟩ 8 (by kernel_rfl) (by kernel_rfl) (by kernel_rfl) (by kernel_rfl)) ?_
  intro W base args ds gs before hval0 hW hcnd _
  have hval : ∀ (j : Nat) t v, Try.f4.params[j]? = some t → args[j]? = some v → Value.okWide Try.prog W .any base t v := hval0
  have hW' := hW
  obtain ⟨p, q, hA0, hV, rfl, hfz, hnd⟩ := hW
  have hA : DataW.TrodAll enc Try.prog W 0 (fun _ => true) true Try.f4.params.toList args.toList ds p := hA0
  rw [Try.params4] at hA hval
  obtain ⟨v0, vs0, d0, ds0, p0, q0, hargs, rfl, rfl, h0, r0⟩ := trodAll_cons hA
  obtain ⟨rfl, rfl, rfl⟩ := trodAll_nil r0
  obtain rfl : args = #[v0] := by cases args; simp_all
  obtain ⟨rfl, rfl⟩ := trodVars_none hV
  have k0 := h0
  have lt0 : ∀ x ∈ p0, x.block < W.heap.size := by obtain ⟨m, hm⟩ := k0; exact DataW.trod_lt m _ _ _ hm
  obtain ⟨e0, rfl, w0⟩ := open_event (hval 0 23 v0 rfl rfl) h0
  clear hA0 hval0
  refine (walk e0 W w0).mono fun e W' ⟨he, bel⟩ => ?_
  subst he
  exact ⟨_, rfl, _, _, _, [], _, [], hW', trodAll_mk1 (shut_bool Try.underlying4 _), (trodAll_cons_mk (Below.trod laidOut (by kernel_rfl) (of_decide_eq_true (by kernel_rfl)) k0 bel lt0) trodAll_mk0), rfl, bel.frame _, fun h => by cases h⟩

theorem over : Rows.fnExactEventCostRow.holds Try.pinned (OpenSpec.ofChange Rows.fnExactEventCostSpec) :=
  OpenClaim.holds_of_wide 4 Try.f4 rfl rfl rfl rfl rfl rfl rfl ⟨rfl, rfl, rfl, rfl, rfl⟩ rfl rfl rfl rfl rfl (by kernel_rfl) Try.func4 (by kernel_rfl)
    (of_decide_eq_true (by kernel_rfl)) (by unfold Func.isWrapper; first | (rw [if_pos (by decide +kernel)]; kernel_rfl) | (rw [if_neg (by decide +kernel)]; exact ⟨rfl, rfl⟩))
    (fun os started H enc _ => lifted os started H enc)

theorem proved : Rows.FnExactEventCostSaid := over
#print axioms proved
end Go.Proofs.Ytdpclbmcmgknjaa.fnExactEventCost
