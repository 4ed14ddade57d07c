/-
  RunWindow answers as its model for all ticks and numbers, every field, leaves its arguments as they were, and its answer is memory of its own: the law returns true for all arguments. No condition.
-/
import Derived.Test.YtmdoddikaaaamaaRows
import Derived.WalkKit
import Derived.ProofKit
import Derived.OpenShut
import Derived.ShutString
import Derived.ChangeOld
import Derived.Below
import Derived.Lib.Hide
import Derived.Deep.RegionHeld3
import Derived.Test.YtmdoddikaaaamaaZWinS
import Derived.Test.YtmdoddikaaaamaaZRunG
import Derived.Test.YtmdoddikaaaamaaZOwnF
namespace Go.Proofs.Ytmdoddikaaaamaa.fnExactRunWindow
open Go.ChangeShapes Go.WideShapes Go.ChangeAt Go.RowKit
open Go.ChangeMaps (open_string shut_string)
set_option linter.unusedVariables false
set_option maxRecDepth 100000
set_option maxHeartbeats 12800000 in
theorem law_all (A : Option Addr) (n c : Nat) (xs : List Int) (win : Int) (most : Int) (w : World) (h0 : Row i64v w w.heap.size A n xs) (hm : n ≤ maxLen) :
    Calls Try.prog 10 #[.slice A n c, .int .i64 win, .int .i64 most] w fun e w' => e = .returned (.bool true) ∧ Below w.heap.size w w' := by
  obtain ⟨r, hr⟩ : ∃ z, okWin xs win most = z := ⟨_, rfl⟩
  have HR := Lib.hid hr
  clear hr
  by_cases hn : n ≤ 1048576
  · clear hm
    go_enter Try.func10, Try.ntmps10
    have x1 : decide ((1048576 : Int) < (n : Int)) = false := decide_eq_false (by omega)
    go_wp2_with fail
    have hb := Below.refl w.heap.size w
    have BXhot := Lib.hid hb.size
    have hh := h0.to hb
    go_at_call 30; refine (toInt64S_any _ _ _ _ _ hh hn).mono ?_; rintro e W1 ⟨ghot, rfl, hot, hbn⟩
    clear hh
    have hb := hb.trans (hbn.mono hb.size); clear hbn
    go_wp2_with fail
    go_at_call 37; refine (spec_RunWindow_any _ _ _ xs win most _ (Row.of_own_any hot) hn).mono ?_; rw [HR.out]; rintro e W2 ⟨AV, nV, cV, zV, rfl, hzV, hoV, hbn⟩
    obtain rfl : nV = zV.length := by simpa using hoV.1.symm
    clear hot
    have hb := hb.trans (hbn.mono hb.size); clear hbn
    have HN := Lib.hid (show zV.length ≤ 1073741824 by rw [hzV]; split <;> first | (rw [runG_len, h0.1]; omega) | simp)
    have HzV := Lib.hid hzV; clear hzV
    go_wp2_with fail
    have BXhox := Lib.hid hb.size
    have hh := h0.to hb
    go_at_call 30; refine (toInt64S_any _ _ _ _ _ hh hn).mono ?_; rintro e W3 ⟨ghox, rfl, hox, hbn⟩
    clear hh
    have hoV := own_below hoV hbn (Nat.le_refl _)
    have hb := hb.trans (hbn.mono hb.size); clear hbn
    go_wp2_with fail
    have BXhoG := Lib.hid hb.size
    go_at_call 38; refine (impl_RunWindow_any _ _ _ xs win most _ (Row.of_own_any hox) hn).mono ?_; rw [HR.out]; rintro e W4 ⟨AG, nG, cG, zG, rfl, hzG, hoG, hbn⟩
    obtain rfl : nG = zG.length := by simpa using hoG.1.symm
    have EG : zG = zV := hzG.trans HzV.out.symm; clear hzG; subst EG
    have offG := Lib.hid (own_offF hoV hoG)
    have hoV := own_below hoV hbn (Nat.le_refl _)
    have hox := own_below hox hbn (Nat.le_refl _)
    have hb := hb.trans (hbn.mono hb.size); clear hbn
    go_wp2_with fail
    go_at_call 32; refine (eqBoolS_same _ _ _ _ _ _ _ _ _ (Row.of_own_any hoG) (Row.of_own_any hoV) HN.out).mono ?_; rintro e W5 ⟨rfl, hq⟩
    have hbn := drew_below hq; clear hq
    have hoV := own_below hoV hbn (Nat.le_refl _)
    have hox := own_below hox hbn (Nat.le_refl _)
    have hoG := own_below hoG hbn (Nat.le_refl _)
    have hb := hb.trans (hbn.mono hb.size); clear hbn
    go_wp2_with fail
    have hh := h0.to hb
    go_at_call 30; refine (toInt64S_any _ _ _ _ _ hh hn).mono ?_; rintro e W6 ⟨ghop, rfl, hop, hbn⟩
    clear hh
    have hoV := own_below hoV hbn (Nat.le_refl _)
    have hox := own_below hox hbn (Nat.le_refl _)
    have hoG := own_below hoG hbn (Nat.le_refl _)
    have hb := hb.trans (hbn.mono hb.size); clear hbn
    go_wp2_with fail
    go_at_call 33; refine (eqInt64S_same _ _ _ _ _ _ _ _ _ (Row.of_own_any hox) (Row.of_own_any hop) (by omega)).mono ?_; rintro e W7 ⟨rfl, hq⟩
    have hbn := drew_below hq; clear hq hop
    have hoV := own_below hoV hbn (Nat.le_refl _)
    have hox := own_below hox hbn (Nat.le_refl _)
    have hoG := own_below hoG hbn (Nat.le_refl _)
    have hb := hb.trans (hbn.mono hb.size); clear hbn
    go_wp2_with fail
    go_at_call 34; refine (markI_g _ _ _ 1 _ _ _ hox (by omega) (by omega)).mono ?_; rintro e W8 ⟨rfl, hmk, hmg⟩
    have hoV := hoV.kept hmg (own_typesB hoV hox (by decide))
    have hoG := hoG.kept hmg (own_typesB hoG hox (by decide))
    have hb := hb.grown hmg hb.size (fun g hg => Nat.le_trans BXhox.out (hox.lt g hg).1)
    have hox := hmk; clear hmk hmg
    clear hox
    have xk : ¬ (((1 + n : Nat) : Int) < 0) := by omega
    go_wp2_with fail
    go_at_call 32; refine (eqBoolS_same _ _ _ _ _ _ _ _ _ (Row.of_own_any hoG) (Row.of_own_any hoV) HN.out).mono ?_; rintro e W9 ⟨rfl, hq⟩
    have hbn := drew_below hq; clear hq
    have hoV := own_below hoV hbn (Nat.le_refl _)
    have hoG := own_below hoG hbn (Nat.le_refl _)
    have hb := hb.trans (hbn.mono hb.size); clear hbn
    go_wp2_with fail
    go_at_call 35; refine (markB_g _ _ _ 1 _ _ _ hoG HN.out (by omega)).mono ?_; rintro e W10 ⟨rfl, hmk, hmg⟩
    have hoV := hoV.kept hmg offG.out
    have hb := hb.grown hmg hb.size (fun g hg => Nat.le_trans BXhoG.out (hoG.lt g hg).1)
    have hoG := hmk; clear hmk hmg
    go_wp2_with fail
    go_at_call 36; refine (heldBoolS_any _ _ _ 1 _ _ (Row.of_own_any hoG) HN.out (by omega)).mono ?_; rintro e W11 ⟨rfl, rfl⟩
    have xh : ¬ (((1 + zG.length : Nat) : Int) < 0) := by omega
    go_wp2_with fail
    have hh := h0.to hb
    go_at_call 30; refine (toInt64S_any _ _ _ _ _ hh hn).mono ?_; rintro e W12 ⟨ghoy, rfl, hoy, hbn⟩
    clear hh
    have hoV := own_below hoV hbn (Nat.le_refl _)
    have hoG := own_below hoG hbn (Nat.le_refl _)
    have hb := hb.trans (hbn.mono hb.size); clear hbn
    go_wp2_with fail
    go_at_call 38; refine (impl_RunWindow_any _ _ _ xs win most _ (Row.of_own_any hoy) hn).mono ?_; rw [HR.out]; rintro e W13 ⟨AH, nH, cH, zH, rfl, hzH, hoH, hbn⟩
    obtain rfl : nH = zH.length := by simpa using hoH.1.symm
    clear hoy
    have EH : zH = zG := hzH.trans HzV.out.symm; clear hzH; subst EH
    have hoV := own_below hoV hbn (Nat.le_refl _)
    have hoG := own_below hoG hbn (Nat.le_refl _)
    have hb := hb.trans (hbn.mono hb.size); clear hbn
    go_wp2_with fail
    go_at_call 32; refine (eqBoolS_same _ _ _ _ _ _ _ _ _ (Row.of_own_any hoH) (Row.of_own_any hoV) HN.out).mono ?_; rintro e W14 ⟨rfl, hq⟩
    have hbn := drew_below hq; clear hq
    have hoV := own_below hoV hbn (Nat.le_refl _)
    have hoG := own_below hoG hbn (Nat.le_refl _)
    have hoH := own_below hoH hbn (Nat.le_refl _)
    have hb := hb.trans (hbn.mono hb.size); clear hbn
    go_wp2_with fail
    go_at_call 36; refine (heldBoolS_any _ _ _ 1 _ _ (Row.of_own_any hoG) HN.out (by omega)).mono ?_; rintro e W15 ⟨rfl, rfl⟩
    go_wp2
    go_ret
    exact ⟨rfl, hb⟩
  · have x1 : decide ((1048576 : Int) < (n : Int)) = true := decide_eq_true (by omega)
    go_enter Try.func10, Try.ntmps10
    go_wp2
    go_ret
    exact ⟨rfl, by repeat (first | exact Below.refl _ _ | refine Below.alloc ?_ (by simp) _)⟩
theorem walk (A : Option Addr) (n c : Nat) (z : List Int) (win : Int) (most : Int) (w : World) (w0 : IsRow .i64 w A n c z) (wfwin : (Lit.int .i64 win).wf = true) (wfmost : (Lit.int .i64 most).wf = true) :
    Calls Try.prog 10 #[.slice A n c, .int .i64 win, .int .i64 most] w fun e w' => e = .returned (.bool true) ∧ Below w.heap.size w w' :=
  law_all A n c (z.take n) win most w (row_of_isRow w0) (len_of_isRow w0)

theorem own : ownKnob Try.prog.godebug = none := by kernel_rfl
theorem laidOut : laidOutB Try.prog = true := by kernel_rfl
set_option maxRecDepth 100000 in
theorem lifted (os : Os) (started : os.Started) (H : Type) (enc : TypeId × Value → H) :
    ReturnsInHanded {} Try.checked os 10 .any (Rows.fnExactRunWindowSpec.pre6 enc Try.prog Try.f10 Rows.fnExactRunWindowRow.domain false) (Rows.fnExactRunWindowSpec.post enc Try.prog Try.f10 false true false false) := by
  refine returnsInHanded_of_change (C := Try.checked) own started (by kernel_rfl) Try.func10
    (ChangeSpec.witness6 (enc := enc) (C := Try.checked) false ⟨#[], #[.slice none 0 0, .int .i64 0, .int .i64 0], []⟩ 8 (by kernel_rfl) (by kernel_rfl) (by kernel_rfl) (by kernel_rfl)) ?_
  intro W base args ds gs before hval0 hW hcnd _
  have hval : ∀ (j : Nat) t v, Try.f10.params[j]? = some t → args[j]? = some v → Value.okWide Try.prog W .any base t v := hval0
  have hW' := hW
  obtain ⟨p, q, hA0, hV, rfl, hfz, hnd⟩ := hW
  have hA : DataW.TrodAll enc Try.prog W 0 (fun _ => true) true Try.f10.params.toList args.toList ds p := hA0
  rw [Try.params10] at hA hval
  obtain ⟨v0, vs0, d0, ds0, p0, q0, hargs, rfl, rfl, h0, r0⟩ := trodAll_cons hA
  obtain ⟨v1, vs1, d1, ds1, p1, q1, rfl, rfl, rfl, h1, r1⟩ := trodAll_cons r0
  obtain ⟨v2, vs2, d2, ds2, p2, q2, rfl, rfl, rfl, h2, r2⟩ := trodAll_cons r1
  obtain ⟨rfl, rfl, rfl⟩ := trodAll_nil r2
  obtain rfl : args = #[v0, v1, v2] := by cases args; simp_all
  obtain ⟨rfl, rfl⟩ := trodVars_none hV
  obtain ⟨a0, len0, cap0, rfl⟩ := okWide_slice Try.underlying41 (hval 0 41 v0 rfl rfl)
  have k0 := h0
  have lt0 : ∀ x ∈ p0, x.block < W.heap.size := by obtain ⟨m, hm⟩ := k0; exact DataW.trod_lt m _ _ _ hm
  obtain ⟨z0, w0⟩ : ∃ zs, IsRow .i64 W a0 len0 cap0 zs := by
    obtain ⟨fuel, hf⟩ := h0
    rcases open_ints Try.underlying41 Try.underlying2 (by kernel_rfl) hf with ⟨hcs, _⟩ | ⟨x, l, c, zs, hcs, _, hl, hm, hz, _, hcell, hwz⟩
    · simp [Value.cells] at hcs
      obtain ⟨rfl, rfl, rfl⟩ := hcs
      exact ⟨[], .inl ⟨rfl, rfl, rfl, rfl⟩⟩
    · simp [Value.cells] at hcs
      obtain ⟨rfl, rfl, rfl⟩ := hcs
      exact ⟨zs, .inr ⟨_, rfl, hl, hm, by simpa using hz, hcell, hwz⟩⟩
  obtain ⟨a1, rfl, rfl, rfl, w1⟩ := open_int Try.underlying2 (hval 1 2 v1 rfl rfl) h1
  obtain ⟨a2, rfl, rfl, rfl, w2⟩ := open_int Try.underlying2 (hval 2 2 v2 rfl rfl) h2
  clear hA0 hval0
  refine (walk a0 len0 cap0 z0 a1 a2 W w0 w1 w2).mono fun e W' ⟨he, bel⟩ => ?_
  subst he
  exact ⟨_, rfl, _, _, _, [], _, [], hW', trodAll_mk1 (shut_bool Try.underlying4 _), (trodAll_cons_mk (Below.trod laidOut (by kernel_rfl) (of_decide_eq_true (by kernel_rfl)) k0 bel lt0) (trodAll_cons_mk (shut_int Try.underlying2 w1) (trodAll_cons_mk (shut_int Try.underlying2 w2) trodAll_mk0))), rfl, bel.frame _, fun h => by cases h⟩

theorem over : Rows.fnExactRunWindowRow.holds Try.pinned (OpenSpec.ofChange Rows.fnExactRunWindowSpec) :=
  OpenClaim.holds_of_wide 10 Try.f10 rfl rfl rfl rfl rfl rfl rfl ⟨rfl, rfl, rfl, rfl, rfl⟩ rfl rfl rfl rfl rfl (by kernel_rfl) Try.func10 (by kernel_rfl)
    (of_decide_eq_true (by kernel_rfl)) (by unfold Func.isWrapper; first | (rw [if_pos (by decide +kernel)]; kernel_rfl) | (rw [if_neg (by decide +kernel)]; exact ⟨rfl, rfl⟩))
    (fun os started H enc _ => lifted os started H enc)

theorem proved : Rows.FnExactRunWindowSaid := over
#print axioms proved
end Go.Proofs.Ytmdoddikaaaamaa.fnExactRunWindow
