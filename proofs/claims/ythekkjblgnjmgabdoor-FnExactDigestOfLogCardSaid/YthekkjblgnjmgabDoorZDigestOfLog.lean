/-
  DigestOfLog answers as its model for every log, and leaves its argument as it was: the law returns true for every log. The row's own condition 'laid' (strconv's table of powers and math/bits' tables hold what Go lays) is tied to the program's text by the card.
-/
import Derived.Test.YthekkjblgnjmgabDoorRows
import Derived.Test.YthekkjblgnjmgabDoorTie
import Derived.Test.YthekkjblgnjmgabDoorCards
import Derived.SevenTiedAt
import Derived.LaidMore
import Derived.Lay
import Derived.Stop.Joined
import Derived.WalkKit
import Derived.ProofKit
import Derived.OpenShut
import Derived.ShutString
import Derived.ChangeOld
import Derived.Below
import Derived.Lib.Hide
import Derived.Deep.RegionHeld3
import Derived.Test.YthekkjblgnjmgabDoorZDigSL
import Derived.Test.YthekkjblgnjmgabDoorZDigIL
import Derived.Test.YthekkjblgnjmgabDoorZLaidP
import Derived.Test.YthekkjblgnjmgabDoorZMsgA
namespace Go.Proofs.YthekkjblgnjmgabDoor.fnExactDigestOfLog
open Go.ChangeShapes Go.WideShapes Go.ChangeAt Go.RowKit
open Go.ChangeMaps (open_string shut_string)
set_option linter.unusedVariables false
set_option maxRecDepth 100000
set_option maxHeartbeats 3200000 in
theorem walk_all (x : Int) (A : Option Addr) (n c : Nat) (rs : List Rm) (w : World) (h0 : LogOk w A n rs) (wfx : (Lit.int .i64 x).wf = true) (hT : Pow10 w) :
    Calls Tryd.prog 3 #[.agg #[.int .i64 x, .slice A n c]] w fun e w' => e = .returned (.bool true) ∧ Below w.heap.size w w' := by
  obtain ⟨z0, hz0⟩ : ∃ z, digS x (mgs rs) = z := ⟨_, rfl⟩
  have HR0 := Lib.hid hz0
  clear hz0
  obtain ⟨z1, hz1⟩ : ∃ z, digB x (mgs rs) = z := ⟨_, rfl⟩
  have HR1 := Lib.hid hz1
  clear hz1
  by_cases hs : logSize rs ≤ 1048576
  · have HFIT := Lib.hid (fit_of h0.1 hs)
    go_enter Tryd.func3, Tryd.ntmps3
    go_wp2_with fail
    obtain ⟨k0, hb0⟩ := one_box w 24 #[.int .i64 x, .slice A n c]
    generalize w.alloc (.cells #[.int .i64 x, .slice A n c] 24) = W at *
    have h := (h0.1.below hb0).more hb0.size
    have x1 : ¬ ((1048576 : Int) - (logSize rs : Int) < 0) := by omega
    go_at_call 4; refine (szLog_ok _ _ _ _ _ _ _ h (by omega) (by omega)).mono ?_; rintro e w1 ⟨rfl, hb1⟩
    have h := h.to hb1
    have k0 := k0.below hb1 k0.lt
    have hb0 := hb0.trans (hb1.mono hb0.size)
    clear hb1
    have l0 := k0.cell 0; have l1 := k0.cell 1; have lt0 := k0.lt
    go_wp2_with fail
    go_at_call 6; refine (toLog_any _ _ _ _ _ _ h hs).mono ?_; rintro e w2 ⟨g1, ts, rfl, hts, ho2, hb1⟩
    have HTS := Lib.hid hts
    clear hts
    have h := h.to hb1
    have k0 := k0.below hb1 k0.lt
    have hb0 := hb0.trans (hb1.mono hb0.size)
    clear hb1
    clear l0 l1 lt0
    go_wp2_with fail
    go_at_call 5; refine (spec_DigestOfLog_any _ _ _ _ _ _ ho2.at_ (by rw [HTS.out]; exact HFIT.out)).mono ?_; rw [HTS.out]; rw [HR0.out, HR1.out]; rintro e w3 ⟨rfl, hb1⟩
    have h := h.to hb1
    have k0 := k0.below hb1 k0.lt
    have hb0 := hb0.trans (hb1.mono hb0.size)
    clear hb1
    clear ho2
    have l0 := k0.cell 0; have l1 := k0.cell 1; have lt0 := k0.lt
    go_wp2_with fail
    go_at_call 6; refine (toLog_any _ _ _ _ _ _ h hs).mono ?_; rintro e w4 ⟨g2, us, rfl, hus, ho4, hb1⟩
    have HUS := Lib.hid hus
    clear hus
    have h := h.to hb1
    have k0 := k0.below hb1 k0.lt
    have hb0 := hb0.trans (hb1.mono hb0.size)
    clear hb1
    clear l0 l1 lt0
    go_wp2_with fail
    obtain ⟨kx, hb1⟩ := one_box w4 30 #[.int .i64 x, .slice (some ⟨g2, 0, none⟩) n n]
    generalize w4.alloc (.cells #[.int .i64 x, .slice (some ⟨g2, 0, none⟩) n n] 30) = w5 at *
    have h := h.to hb1
    have k0 := k0.below hb1 k0.lt
    have ho := ho4.below hb1 (Nat.le_refl _)
    have hb0 := hb0.trans (hb1.mono hb0.size)
    clear hb1 ho4
    go_at_call 7; refine (impl_DigestOfLog_any _ _ _ _ _ _ ho.at_ (by rw [HUS.out]; exact HFIT.out) (hT.to hb0)).mono ?_; rw [HUS.out]; rw [HR0.out, HR1.out]; rintro e w6 ⟨rfl, hb1⟩
    have h := h.to hb1
    have k0 := k0.below hb1 k0.lt
    have kx := kx.below hb1 kx.lt
    have ho := ho.below hb1 (Nat.le_refl _)
    have hb0 := hb0.trans (hb1.mono hb0.size)
    clear hb1
    go_wp2_with fail
    have h : LogAt w6.drew w6.drew.heap.size A n rs := h
    have k0 : Blk w6.drew w.heap.size 24 #[.int .i64 x, .slice A n c] := k0
    have kx : Blk w6.drew w4.heap.size 30 #[.int .i64 x, .slice (some ⟨g2, 0, none⟩) n n] := kx
    have ho : LogOwn w6.drew w3.heap.size (some ⟨g2, 0, none⟩) n n us := ho
    have hb0 : Below w.heap.size w w6.drew := hb0.drew
    go_region_held3 (fun w' => (w'.cell? ⟨w.heap.size, 0, none⟩ = some (.int .i64 x) ∧ w'.cell? ⟨w.heap.size, 1, none⟩ = some (.slice A n c)) ∧ (w'.cell? ⟨w4.heap.size, 0, none⟩ = some (.int .i64 x) ∧ w'.cell? ⟨w4.heap.size, 1, none⟩ = some (.slice (some ⟨g2, 0, none⟩) n n))) (first | exact ⟨⟨k8.cell 0, k8.cell 1⟩, kx8.cell 0, kx8.cell 1⟩ | exact ⟨⟨k7.cell 0, k7.cell 1⟩, kx7.cell 0, kx7.cell 1⟩ | exact ⟨⟨k0.cell 0, k0.cell 1⟩, kx.cell 0, kx.cell 1⟩) ((first | (go_at_call 6; refine (toLog_any _ _ _ _ _ _ h hs).mono ?_; rintro e w7 ⟨g7, vs, rfl, hvs, ho7, hb7⟩; have k7 := k0.below hb7 k0.lt; have kx7 := kx.below hb7 kx.lt; have hx7 := ho.below hb7 (Nat.le_refl _); have hb07 := hb0.trans (hb7.mono hb0.size); have HVS := Lib.hid hvs; clear hvs) | (go_at_call 8; refine (eqLog_same _ _ _ _ _ _ _ _ _ _ hx7.at_ ho7.at_ (HUS.out.trans HVS.out.symm) (by rw [HUS.out]; exact HFIT.out)).mono ?_; rintro e w8 ⟨rfl, hb8⟩; have k8 := k7.below hb8 k7.lt; have kx8 := kx7.below hb8 kx7.lt; have hb08 := hb07.trans (hb8.mono hb07.size))))
    go_wp2
    go_ret
    exact ⟨rfl, hb08⟩
  · have hb1 : (n : Int) ≤ 9223372036854775807 := by have := h0.2.1; unfold maxLen at this; omega
    go_enter Tryd.func3, Tryd.ntmps3
    go_wp2_with fail
    obtain ⟨k0, hb0⟩ := one_box w 24 #[.int .i64 x, .slice A n c]
    generalize w.alloc (.cells #[.int .i64 x, .slice A n c] 24) = W at *
    go_at_call 4; refine (szLog_no _ _ _ _ _ _ _ ((h0.1.below hb0).more hb0.size) (by omega) (by omega) (by omega) hb1 h0.2.2).mono ?_; rintro e w1 ⟨rfl, hb4⟩
    have hb0 := hb0.trans (hb4.mono hb0.size)
    go_wp2
    go_ret
    exact ⟨rfl, hb0⟩
theorem walk {W : World} (hL : laidMetH Tryd.prog Rows.fnExactDigestOfLogRow.laid W) (x : Int) (A : Option Addr) (n c : Nat) (rs : List Rm) (h0 : LogOk W A n rs) (wfx : (Lit.int .i64 x).wf = true) :
    Calls Tryd.prog 3 #[.agg #[.int .i64 x, .slice A n c]] W fun e w' => e = .returned (.bool true) ∧ Below W.heap.size W w' := by
  rw [MakeChecks.laidMetH_plain _ _ _ (by kernel_rfl)] at hL
  exact walk_all x A n c rs W h0 wfx (pow10_of_laid (x := _) (y := _) (rest := []) hL)

theorem own : ownKnob Tryd.prog.godebug = none := by kernel_rfl
theorem laidOut : laidOutB Tryd.prog = true := by kernel_rfl
theorem door_met (os : Os) (args : Array Value) : laidMetH Tryd.prog Rows.fnExactDigestOfLogRow.laid ((World.doorLaid Tryd.prog 400 os).forCall (fun _ _ => 0) ⟨#[], args, []⟩).memory :=
  laidMetH_of_parts3 (fuel := 8) (laidMet_of_run' 8 (by kernel_rfl) (by kernel_rfl)) (by kernel_rfl) (by kernel_rfl)
set_option maxRecDepth 100000 in
theorem lifted (os : Os) (started : os.Started) (H : Type) (enc : TypeId × Value → H) :
    ReturnsInHanded {} Tryd.checked os 3 .any (fun w args => (Rows.fnExactDigestOfLogSpec.pre enc Tryd.prog Tryd.f3 [] false w args ∧ laidMetH Tryd.prog Rows.fnExactDigestOfLogRow.laid w) ∧ sizedMet enc Tryd.prog Tryd.f3 (OpenSpec.ofChange Rows.fnExactDigestOfLogSpec) false w args)
      (Rows.fnExactDigestOfLogSpec.post enc Tryd.prog Tryd.f3 false true false false) := by
  refine returnsInHanded_of_change_and (C := Tryd.checked) (X := fun w _ => laidMetH Tryd.prog Rows.fnExactDigestOfLogRow.laid w) (fun _ _ _ hh h => h.of_heap hh) own started (by kernel_rfl) Tryd.func3
    (ChangeSpec.witness_shaped (enc := enc) (C := Tryd.checked) (os := os) (X := fun w _ => laidMetH Tryd.prog Rows.fnExactDigestOfLogRow.laid w) false (World.doorLaid Tryd.prog 400 os) #[.agg #[.int .i64 0, .slice none 0 0]] 8 rfl (World.shaped_of_RefB (by kernel_rfl) (by kernel_rfl)) (by kernel_rfl) (by kernel_rfl) (by kernel_rfl) (door_met os _)) ?_
  intro W base args ds gs before hval0 hW hcnd _ hL _
  have hval : ∀ (j : Nat) t v, Tryd.f3.params[j]? = some t → args[j]? = some v → Value.okWide Tryd.prog W .any base t v := hval0
  have hW' := hW
  obtain ⟨p, q, hA0, hV, rfl, hfz, hnd⟩ := hW
  have hA : DataW.TrodAll enc Tryd.prog W 0 (fun _ => true) true Tryd.f3.params.toList args.toList ds p := hA0
  rw [Tryd.params3] at hA hval
  obtain ⟨v0, vs0, d0, ds0, p0, q0, hargs, rfl, rfl, h0, r0⟩ := trodAll_cons hA
  obtain ⟨rfl, rfl, rfl⟩ := trodAll_nil r0
  obtain rfl : args = #[v0] := by cases args; simp_all
  obtain ⟨rfl, rfl⟩ := trodVars_none hV
  have k0 := h0
  have lt0 : ∀ x ∈ p0, x.block < W.heap.size := by obtain ⟨m, hm⟩ := k0; exact DataW.trod_lt m _ _ _ hm
  obtain ⟨x0, A0, n0, c0, rs0, rfl, w0, u0⟩ := open_log (hval 0 24 v0 rfl rfl) h0
  clear hA0 hval0
  refine (walk hL x0 A0 n0 c0 rs0 w0 u0).mono fun e W' ⟨he, bel⟩ => ?_
  subst he
  exact ⟨_, rfl, _, _, _, [], _, [], hW', trodAll_mk1 (shut_bool Tryd.underlying4 _), (trodAll_cons_mk (Below.trod laidOut (by kernel_rfl) (of_decide_eq_true (by kernel_rfl)) k0 bel lt0) trodAll_mk0), rfl, bel.frame _, fun h => by cases h⟩

theorem over : Rows.fnExactDigestOfLogRow.holds Tryd.pinned (OpenSpec.ofChange Rows.fnExactDigestOfLogSpec) :=
  OpenClaim.holds_of_wide 3 Tryd.f3 rfl rfl rfl rfl rfl rfl rfl ⟨rfl, rfl, rfl, rfl, rfl⟩ rfl rfl rfl rfl rfl (by kernel_rfl) Tryd.func3 (by kernel_rfl)
    (of_decide_eq_true (by kernel_rfl)) (by unfold Func.isWrapper; first | (rw [if_pos (by decide +kernel)]; kernel_rfl) | (rw [if_neg (by decide +kernel)]; exact ⟨rfl, rfl⟩))
    (fun os started H enc _ => lifted os started H enc)

theorem proved : Rows.FnExactDigestOfLogCardSaid :=
  Claim7.holds_tied_plain_at .later [] _ true _ false
    over (fun _ h => by cases h) (by kernel_rfl) (fun _ h => by cases h) fnExactDigestOfLog_row_tie rfl ⟨rfl, rfl⟩ (by kernel_rfl) rfl
    (fun f fn hf hfn => by
      obtain rfl : f = 3 := Option.some.inj ((show Tryd.prog.funcNamed Rows.fnExactDigestOfLogRow.func = some 3 by kernel_rfl).symm.trans hf) |>.symm
      obtain rfl : fn = Tryd.f3 := (Option.some.inj (Tryd.func3.symm.trans hfn)).symm
      exact ⟨by kernel_rfl, fun j t ht => by
        rw [Tryd.params3] at ht
        have hm : t ∈ [24] := by simpa using Array.mem_of_getElem? ht
        have hall : ([24].all fun u => !Tryd.prog.wantsStandIn u) = true := by kernel_rfl
        exact (show Tryd.prog.wantsStandIn t = false by simpa using List.all_eq_true.1 hall t hm)⟩)
    (by kernel_rfl)
#print axioms proved
end Go.Proofs.YthekkjblgnjmgabDoor.fnExactDigestOfLog
