/-
  PointsOf answers as its model for every list of strikes and all numbers, and leaves its argument as it was: the law returns true for all arguments. No condition.
-/
import Derived.Test.YtmdoddikaaaamaaRows
import Derived.WalkKit
import Derived.ProofKit
import Derived.OpenShut
import Derived.ShutString
import Derived.ChangeOld
import Derived.Below
import Derived.Lib.Hide
import Derived.Test.YtmdoddikaaaamaaZPtsT
import Derived.Test.YtmdoddikaaaamaaZPtsI
import Derived.Test.YtmdoddikaaaamaaZStrA
namespace Go.Proofs.Ytmdoddikaaaamaa.fnExactPointsOf
open Go.ChangeShapes Go.WideShapes Go.ChangeAt Go.RowKit
open Go.ChangeMaps (open_string shut_string)
set_option linter.unusedVariables false
set_option maxRecDepth 100000
set_option maxHeartbeats 6400000 in
theorem walk (A : Option Addr) (n c : Nat) (xs : List Iv) (mem : Int) (at_ : Int) (fade : Int) (w : World) (h0 : SRow 3 ivC w w.heap.size A n xs) (hm : n ≤ maxLen) (wfmem : (Lit.int .i64 mem).wf = true) (wfat_ : (Lit.int .i64 at_).wf = true) (wffade : (Lit.int .i64 fade).wf = true) :
    Calls Try.prog 14 #[.slice A n c, .int .i64 mem, .int .i64 at_, .int .i64 fade] w fun e w' => e = .returned (.bool true) ∧ Below w.heap.size w w' := by
  obtain ⟨r0, hr0⟩ : ∃ z, (ptsR mem at_ fade xs) = z := ⟨_, rfl⟩
  have HR0 := Lib.hid hr0
  clear hr0
  obtain ⟨r1, hr1⟩ : ∃ z, (ptsOk mem at_ fade xs) = z := ⟨_, rfl⟩
  have HR1 := Lib.hid hr1
  clear hr1
  by_cases hn : n ≤ 1048576
  · clear hm
    go_enter Try.func14, Try.ntmps14
    go_wp2_with fail
    have hb := Below.refl w.heap.size w
    have x1 : ¬ ((1048576 : Int) - (n : Int) < 0) := by omega
    go_at_call 44; refine (szStrikeS_ok _ _ _ _ _ (by omega) (by omega)).mono ?_; rintro e w0 ⟨rfl, rfl⟩
    go_wp2_with fail
    have h := (h0.below hb).more hb.size
    go_at_call 46; refine (toStrikeS_any _ _ _ _ _ h hn).mono ?_; rintro e w11 ⟨ghot, rfl, hot, hbn⟩
    have hb := hb.trans (hbn.mono hb.size)
    clear hbn
    clear h
    go_wp2_with fail
    go_at_call 54; refine (spec_PointsOf_any _ _ _ xs mem at_ fade _ (SRow.of_own_any ivC_len (by omega) hot) hn).mono ?_; rw [HR0.out]; rw [HR1.out]; rintro e w12 ⟨rfl, hbn⟩
    have hot := own_below hot hbn (Nat.le_refl _)
    have hb := hb.trans (hbn.mono hb.size)
    clear hbn
    clear hot
    go_wp2_with fail
    have h := (h0.below hb).more hb.size
    go_at_call 46; refine (toStrikeS_any _ _ _ _ _ h hn).mono ?_; rintro e w13 ⟨ghox, rfl, hox, hbn⟩
    have hb := hb.trans (hbn.mono hb.size)
    clear hbn
    clear h
    go_wp2_with fail
    go_at_call 55; refine (impl_PointsOf_any _ _ _ xs mem at_ fade _ (SRow.of_own_any ivC_len (by omega) hox) hn).mono ?_; rw [HR0.out]; rw [HR1.out]; rintro e w14 ⟨rfl, hbn⟩
    have hox := own_below hox hbn (Nat.le_refl _)
    have hb := hb.trans (hbn.mono hb.size)
    clear hbn
    go_wp2_with fail
    have h := (h0.below hb).more hb.size
    go_at_call 46; refine (toStrikeS_any _ _ _ _ _ h hn).mono ?_; rintro e w15 ⟨ghop, rfl, hop, hbn⟩
    have hox := own_below hox hbn (Nat.le_refl _)
    have hb := hb.trans (hbn.mono hb.size)
    clear hbn
    clear h
    go_wp2_with fail
    go_at_call 48; refine (eqStrikeS_same _ _ _ _ _ _ _ _ (SRow.of_own_any ivC_len (by omega) hox) (SRow.of_own_any ivC_len (by omega) hop) hn).mono ?_; rintro e w16 ⟨rfl, hbn⟩
    have hox := own_below hox hbn (Nat.le_refl _)
    have hop := own_below hop hbn (Nat.le_refl _)
    have hb := hb.trans (hbn.mono hb.size)
    clear hbn
    go_wp2
    go_ret
    exact ⟨rfl, hb⟩
  · have hx : (n : Int) ≤ 9223372036854775807 := by unfold maxLen at hm; omega
    go_enter Try.func14, Try.ntmps14
    go_wp2_with fail
    go_at_call 44; refine (szStrikeS_no _ _ _ _ _ (by omega) (by omega) hx).mono ?_; rintro e w0 ⟨rfl, rfl⟩
    go_wp2
    go_ret
    exact ⟨rfl, Below.refl _ _⟩

theorem own : ownKnob Try.prog.godebug = none := by kernel_rfl
theorem laidOut : laidOutB Try.prog = true := by kernel_rfl
set_option maxRecDepth 100000 in
theorem lifted (os : Os) (started : os.Started) (H : Type) (enc : TypeId × Value → H) :
    ReturnsInHanded {} Try.checked os 14 .any (Rows.fnExactPointsOfSpec.pre6 enc Try.prog Try.f14 Rows.fnExactPointsOfRow.domain false) (Rows.fnExactPointsOfSpec.post enc Try.prog Try.f14 false true false false) := by
  refine returnsInHanded_of_change (C := Try.checked) own started (by kernel_rfl) Try.func14
    (ChangeSpec.witness6 (enc := enc) (C := Try.checked) false ⟨#[], #[.slice none 0 0, .int .i64 0, .int .i64 0, .int .i64 0], []⟩ 8 (by kernel_rfl) (by kernel_rfl) (by kernel_rfl) (by kernel_rfl)) ?_
  intro W base args ds gs before hval0 hW hcnd _
  have hval : ∀ (j : Nat) t v, Try.f14.params[j]? = some t → args[j]? = some v → Value.okWide Try.prog W .any base t v := hval0
  have hW' := hW
  obtain ⟨p, q, hA0, hV, rfl, hfz, hnd⟩ := hW
  have hA : DataW.TrodAll enc Try.prog W 0 (fun _ => true) true Try.f14.params.toList args.toList ds p := hA0
  rw [Try.params14] at hA hval
  obtain ⟨v0, vs0, d0, ds0, p0, q0, hargs, rfl, rfl, h0, r0⟩ := trodAll_cons hA
  obtain ⟨v1, vs1, d1, ds1, p1, q1, rfl, rfl, rfl, h1, r1⟩ := trodAll_cons r0
  obtain ⟨v2, vs2, d2, ds2, p2, q2, rfl, rfl, rfl, h2, r2⟩ := trodAll_cons r1
  obtain ⟨v3, vs3, d3, ds3, p3, q3, rfl, rfl, rfl, h3, r3⟩ := trodAll_cons r2
  obtain ⟨rfl, rfl, rfl⟩ := trodAll_nil r3
  obtain rfl : args = #[v0, v1, v2, v3] := by cases args; simp_all
  obtain ⟨rfl, rfl⟩ := trodVars_none hV
  have k0 := h0
  have lt0 : ∀ x ∈ p0, x.block < W.heap.size := by obtain ⟨m, hm⟩ := k0; exact DataW.trod_lt m _ _ _ hm
  obtain ⟨A0, n0, c0, xs0, rfl, w0, u0⟩ := open_strikes (hval 0 59 v0 rfl rfl) h0
  obtain ⟨a1, rfl, rfl, rfl, w1⟩ := open_int Try.underlying2 (hval 1 2 v1 rfl rfl) h1
  obtain ⟨a2, rfl, rfl, rfl, w2⟩ := open_int Try.underlying2 (hval 2 2 v2 rfl rfl) h2
  obtain ⟨a3, rfl, rfl, rfl, w3⟩ := open_int Try.underlying2 (hval 3 2 v3 rfl rfl) h3
  clear hA0 hval0
  refine (walk A0 n0 c0 xs0 a1 a2 a3 W w0 u0 w1 w2 w3).mono fun e W' ⟨he, bel⟩ => ?_
  subst he
  exact ⟨_, rfl, _, _, _, [], _, [], hW', trodAll_mk1 (shut_bool Try.underlying4 _), (trodAll_cons_mk (Below.trod laidOut (by kernel_rfl) (of_decide_eq_true (by kernel_rfl)) k0 bel lt0) (trodAll_cons_mk (shut_int Try.underlying2 w1) (trodAll_cons_mk (shut_int Try.underlying2 w2) (trodAll_cons_mk (shut_int Try.underlying2 w3) trodAll_mk0)))), rfl, bel.frame _, fun h => by cases h⟩

theorem over : Rows.fnExactPointsOfRow.holds Try.pinned (OpenSpec.ofChange Rows.fnExactPointsOfSpec) :=
  OpenClaim.holds_of_wide 14 Try.f14 rfl rfl rfl rfl rfl rfl rfl ⟨rfl, rfl, rfl, rfl, rfl⟩ rfl rfl rfl rfl rfl (by kernel_rfl) Try.func14 (by kernel_rfl)
    (of_decide_eq_true (by kernel_rfl)) (by unfold Func.isWrapper; first | (rw [if_pos (by decide +kernel)]; kernel_rfl) | (rw [if_neg (by decide +kernel)]; exact ⟨rfl, rfl⟩))
    (fun os started H enc _ => lifted os started H enc)

theorem proved : Rows.FnExactPointsOfSaid := over
#print axioms proved
end Go.Proofs.Ytmdoddikaaaamaa.fnExactPointsOf
