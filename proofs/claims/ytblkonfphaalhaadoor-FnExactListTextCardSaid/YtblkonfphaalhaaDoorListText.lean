/-
  ListText answers as its model for every list of numbers, and leaves its argument as it was: the law returns true for every slice. The row's own condition 'laid' (strconv's tables hold what Go lays) is tied to the program's text by the card.
-/
import Derived.Test.YtblkonfphaalhaaDoorRows
import Derived.Test.YtblkonfphaalhaaDoorTie
import Derived.Test.YtblkonfphaalhaaDoorCards
import Derived.SevenTiedAt
import Derived.LaidMore
import Derived.Stop.Joined
import Derived.WalkKit
import Derived.ProofKit
import Derived.OpenShut
import Derived.ShutString
import Derived.ChangeOld
import Derived.Below
import Derived.Lib.Hide
import Derived.Test.YtblkonfphaalhaaDoorListI
namespace Go.Proofs.YtblkonfphaalhaaDoor.fnExactListText
open Go.ChangeShapes Go.WideShapes Go.ChangeAt Go.RowKit
open Go.ChangeMaps (open_string shut_string)
set_option linter.unusedVariables false
theorem list_any {W : World} (hT : Pow10 W) (A : Option Addr) (n c m : Nat) (xs : List Int) (h : Row i64v W W.heap.size A n xs) (hn : n ≤ 1048576) (hm : FewAt xs m) :
    Calls Tryd.prog 5 #[.slice A n c] W fun e w' => e = .returned (.bool true) ∧ Below W.heap.size W w' := by
  by_cases hy : m = n ∧ n ≤ 300
  · obtain ⟨rfl, h3⟩ := hy
    have HM := Lib.hid hm
    clear hm
    go_enter Tryd.func5, Tryd.ntmps5
    go_wp2_with fail
    go_at_call 13; refine (toInt64S_any _ _ _ _ _ h hn).mono ?_; rintro e w1 ⟨g1, rfl, ho1, hb⟩
    go_wp2_with fail
    go_at_call 12; refine (spec_ListText_yes _ _ _ xs _ (Row.of_own ho1) h3 HM.out).mono ?_; rintro e w2 ⟨rfl, hbn⟩
    clear ho1
    have hb := hb.trans (hbn.mono hb.size)
    clear hbn
    go_wp2_with fail
    go_at_call 13; refine (toInt64S_any _ _ _ _ _ (h.to hb) hn).mono ?_; rintro e w3 ⟨g3, rfl, hx, hbn⟩
    have hb := hb.trans (hbn.mono hb.size)
    clear hbn
    go_wp2_with fail
    go_at_call 14; refine (impl_ListText_yes _ _ _ xs _ (Row.of_own hx) h3 HM.out (hT.below hb)).mono ?_; rintro e w4 ⟨rfl, hbn⟩
    have hx := own_below hx hbn (Nat.le_refl _)
    have hb := hb.trans (hbn.mono hb.size)
    clear hbn
    go_wp2_with fail
    go_at_call 13; refine (toInt64S_any _ _ _ _ _ (h.to hb) hn).mono ?_; rintro e w5 ⟨g5, rfl, ht, hbn⟩
    have hx := own_below hx hbn (Nat.le_refl _)
    have hb := hb.trans (hbn.mono hb.size)
    clear hbn
    go_wp2_with fail
    go_at_call 15; refine (eqInt64S_same _ _ _ _ _ _ _ _ _ (Row.of_own hx) (Row.of_own ht) (by omega)).mono ?_; rintro e wq ⟨rfl, hq⟩
    have hb := hb.trans ((drew_below hq).mono hb.size)
    clear hq hx ht
    go_wp2
    go_ret
    exact ⟨rfl, hb⟩
  · have HM := Lib.hid hm
    have HY := Lib.hid hy
    clear hm hy
    go_enter Tryd.func5, Tryd.ntmps5
    go_wp2_with fail
    go_at_call 13; refine (toInt64S_any _ _ _ _ _ h hn).mono ?_; rintro e w1 ⟨g1, rfl, ho1, hb⟩
    go_wp2_with fail
    go_at_call 12; refine (spec_ListText_no _ _ _ m xs _ (Row.of_own ho1) hn HM.out HY.out).mono ?_; rintro e w2 ⟨rfl, hbn⟩
    clear ho1
    have hb := hb.trans (hbn.mono hb.size)
    clear hbn
    go_wp2_with fail
    go_at_call 13; refine (toInt64S_any _ _ _ _ _ (h.to hb) hn).mono ?_; rintro e w3 ⟨g3, rfl, hx, hbn⟩
    have hb := hb.trans (hbn.mono hb.size)
    clear hbn
    go_wp2_with fail
    go_at_call 14; refine (impl_ListText_no _ _ _ m xs _ (Row.of_own hx) hn HM.out HY.out (hT.below hb)).mono ?_; rintro e w4 ⟨rfl, hbn⟩
    have hx := own_below hx hbn (Nat.le_refl _)
    have hb := hb.trans (hbn.mono hb.size)
    clear hbn
    go_wp2_with fail
    go_at_call 13; refine (toInt64S_any _ _ _ _ _ (h.to hb) hn).mono ?_; rintro e w5 ⟨g5, rfl, ht, hbn⟩
    have hx := own_below hx hbn (Nat.le_refl _)
    have hb := hb.trans (hbn.mono hb.size)
    clear hbn
    go_wp2_with fail
    go_at_call 15; refine (eqInt64S_same _ _ _ _ _ _ _ _ _ (Row.of_own hx) (Row.of_own ht) (by omega)).mono ?_; rintro e wq ⟨rfl, hq⟩
    have hb := hb.trans ((drew_below hq).mono hb.size)
    clear hq hx ht
    go_wp2
    go_ret
    exact ⟨rfl, hb⟩
theorem walk {W : World} (hL : laidMetH Tryd.prog Rows.fnExactListTextRow.laid W) (A : Option Addr) (n c : Nat) (z : List Int) (w0 : IsRow .i64 W A n c z) :
    Calls Tryd.prog 5 #[.slice A n c] W fun e w' => e = .returned (.bool true) ∧ Below W.heap.size W w' := by
  rw [MakeChecks.laidMetH_plain _ _ _ (by kernel_rfl)] at hL
  have hT : Pow10 W := pow10_of_laid (x := _) (y := _) (rest := []) hL
  clear hL
  by_cases hn : n ≤ 1048576
  · obtain ⟨m, hm⟩ := fewAt_ex (z.take n)
    exact list_any hT A n c m _ (row_of_isRow w0) hn hm
  · have h2 : 1048576 < n := by omega
    clear hn
    go_enter Tryd.func5, Tryd.ntmps5
    go_wp2
    go_ret
    exact ⟨rfl, Below.refl _ _⟩

theorem own : ownKnob Tryd.prog.godebug = none := by kernel_rfl
theorem laidOut : laidOutB Tryd.prog = true := by kernel_rfl
theorem door_met (os : Os) (args : Array Value) : laidMetH Tryd.prog Rows.fnExactListTextRow.laid ((World.doorLaid Tryd.prog 400 os).forCall (fun _ _ => 0) ⟨#[], args, []⟩).memory :=
  laidMetH_of_parts3 (fuel := 8) (laidMet_of_run' 8 (by kernel_rfl) (by kernel_rfl)) (by kernel_rfl) (by kernel_rfl)
set_option maxRecDepth 100000 in
theorem lifted (os : Os) (started : os.Started) (H : Type) (enc : TypeId × Value → H) :
    ReturnsInHanded {} Tryd.checked os 5 .any (fun w args => (Rows.fnExactListTextSpec.pre enc Tryd.prog Tryd.f5 [] false w args ∧ laidMetH Tryd.prog Rows.fnExactListTextRow.laid w) ∧ sizedMet enc Tryd.prog Tryd.f5 (OpenSpec.ofChange Rows.fnExactListTextSpec) false w args)
      (Rows.fnExactListTextSpec.post enc Tryd.prog Tryd.f5 false true false false) := by
  refine returnsInHanded_of_change_and (C := Tryd.checked) (X := fun w _ => laidMetH Tryd.prog Rows.fnExactListTextRow.laid w) (fun _ _ _ hh h => h.of_heap hh) own started (by kernel_rfl) Tryd.func5
    (ChangeSpec.witness_shaped (enc := enc) (C := Tryd.checked) (os := os) (X := fun w _ => laidMetH Tryd.prog Rows.fnExactListTextRow.laid w) false (World.doorLaid Tryd.prog 400 os) #[.slice none 0 0] 8 rfl (World.shaped_of_RefB (by kernel_rfl) (by kernel_rfl)) (by kernel_rfl) (by kernel_rfl) (by kernel_rfl) (door_met os _)) ?_
  intro W base args ds gs before hval0 hW hcnd _ hL _
  have hval : ∀ (j : Nat) t v, Tryd.f5.params[j]? = some t → args[j]? = some v → Value.okWide Tryd.prog W .any base t v := hval0
  have hW' := hW
  obtain ⟨p, q, hA0, hV, rfl, hfz, hnd⟩ := hW
  have hA : DataW.TrodAll enc Tryd.prog W 0 (fun _ => true) true Tryd.f5.params.toList args.toList ds p := hA0
  rw [Tryd.params5] at hA hval
  obtain ⟨v0, vs0, d0, ds0, p0, q0, hargs, rfl, rfl, h0, r0⟩ := trodAll_cons hA
  obtain ⟨rfl, rfl, rfl⟩ := trodAll_nil r0
  obtain rfl : args = #[v0] := by cases args; simp_all
  obtain ⟨rfl, rfl⟩ := trodVars_none hV
  obtain ⟨a0, len0, cap0, rfl⟩ := okWide_slice Tryd.underlying27 (hval 0 27 v0 rfl rfl)
  have k0 := h0
  have lt0 : ∀ x ∈ p0, x.block < W.heap.size := by obtain ⟨m, hm⟩ := k0; exact DataW.trod_lt m _ _ _ hm
  obtain ⟨z0, w0⟩ : ∃ zs, IsRow .i64 W a0 len0 cap0 zs := by
    obtain ⟨fuel, hf⟩ := h0
    rcases open_ints Tryd.underlying27 Tryd.underlying2 (by kernel_rfl) hf with ⟨hcs, _⟩ | ⟨x, l, c, zs, hcs, _, hl, hm, hz, _, hcell, hwz⟩
    · simp [Value.cells] at hcs
      obtain ⟨rfl, rfl, rfl⟩ := hcs
      exact ⟨[], .inl ⟨rfl, rfl, rfl, rfl⟩⟩
    · simp [Value.cells] at hcs
      obtain ⟨rfl, rfl, rfl⟩ := hcs
      exact ⟨zs, .inr ⟨_, rfl, hl, hm, by simpa using hz, hcell, hwz⟩⟩
  clear hA0 hval0
  refine (walk hL a0 len0 cap0 z0 w0).mono fun e W' ⟨he, bel⟩ => ?_
  subst he
  exact ⟨_, rfl, _, _, _, [], _, [], hW', trodAll_mk1 (shut_bool Tryd.underlying4 _), (trodAll_cons_mk (Below.trod laidOut (by kernel_rfl) (of_decide_eq_true (by kernel_rfl)) k0 bel lt0) trodAll_mk0), rfl, bel.frame _, fun h => by cases h⟩

theorem over : Rows.fnExactListTextRow.holds Tryd.pinned (OpenSpec.ofChange Rows.fnExactListTextSpec) :=
  OpenClaim.holds_of_wide 5 Tryd.f5 rfl rfl rfl rfl rfl rfl rfl ⟨rfl, rfl, rfl, rfl, rfl⟩ rfl rfl rfl rfl rfl (by kernel_rfl) Tryd.func5 (by kernel_rfl)
    (of_decide_eq_true (by kernel_rfl)) (by unfold Func.isWrapper; first | (rw [if_pos (by decide +kernel)]; kernel_rfl) | (rw [if_neg (by decide +kernel)]; exact ⟨rfl, rfl⟩))
    (fun os started H enc _ => lifted os started H enc)

theorem proved : Rows.FnExactListTextCardSaid :=
  Claim7.holds_tied_plain_at .later [] _ true _ true
    over (fun _ h => by cases h) (by kernel_rfl) (fun _ h => by cases h) fnExactListText_row_tie rfl ⟨rfl, rfl⟩ (by kernel_rfl) rfl
    (fun f fn hf hfn => by
      obtain rfl : f = 5 := Option.some.inj ((show Tryd.prog.funcNamed Rows.fnExactListTextRow.func = some 5 by kernel_rfl).symm.trans hf) |>.symm
      obtain rfl : fn = Tryd.f5 := (Option.some.inj (Tryd.func5.symm.trans hfn)).symm
      exact ⟨by kernel_rfl, fun j t ht => by
        rw [Tryd.params5] at ht
        have hm : t ∈ [27] := by simpa using Array.mem_of_getElem? ht
        have hall : ([27].all fun u => !Tryd.prog.wantsStandIn u) = true := by kernel_rfl
        exact (show Tryd.prog.wantsStandIn t = false by simpa using List.all_eq_true.1 hall t hm)⟩)
    (by kernel_rfl)
#print axioms proved
end Go.Proofs.YtblkonfphaalhaaDoor.fnExactListText
