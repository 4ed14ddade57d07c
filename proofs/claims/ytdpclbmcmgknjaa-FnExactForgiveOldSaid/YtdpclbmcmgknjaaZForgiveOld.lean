/-
  ForgiveOld answers as its model for every list of strikes and every number, leaves its arguments as they were, and its answer is memory of its own: the law returns true for all arguments. No condition.
-/
import Derived.Test.YtdpclbmcmgknjaaRows
import Derived.WalkKit
import Derived.ProofKit
import Derived.OpenShut
import Derived.ShutString
import Derived.ChangeOld
import Derived.Below
import Derived.Lib.Hide
import Derived.Test.YtdpclbmcmgknjaaZForI
import Derived.Test.YtdpclbmcmgknjaaZForS
import Derived.Test.YtdpclbmcmgknjaaZRowO
import Derived.Test.YtdpclbmcmgknjaaZStrA
namespace Go.Proofs.Ytdpclbmcmgknjaa.fnExactForgiveOld
open Go.ChangeShapes Go.WideShapes Go.ChangeAt Go.RowKit
open Go.ChangeMaps (open_string shut_string)
set_option linter.unusedVariables false
set_option maxRecDepth 100000
set_option maxHeartbeats 6400000 in
theorem walk (A : Option Addr) (n c : Nat) (xs : List Iv) (before : Int) (w : World) (h0 : SRow 3 ivC w w.heap.size A n xs) (hm : n ≤ maxLen) (wfbefore : (Lit.int .i64 before).wf = true) :
    Calls Try.prog 7 #[.slice A n c, .int .i64 before] w fun e w' => e = .returned (.bool true) ∧ Below w.heap.size w w' := by
  obtain ⟨zs, hzs⟩ : ∃ z, (if forOk before xs = true then forL before xs else []) = z := ⟨_, rfl⟩
  obtain ⟨r0, hr0⟩ : ∃ z, (forOk before xs) = z := ⟨_, rfl⟩
  have HR := Lib.hid hr0
  have HZ := Lib.hid hzs
  by_cases hn : n ≤ 1048576
  · have HLEN := Lib.hid (show zs.length ≤ 1048576 by rw [← hzs]; have h1 := List.length_filter_le (fun x => !oldB before x) xs; have h2 := h0.1; unfold forL; split <;> simp <;> omega)
    clear hr0 hzs hm
    go_enter Try.func7, Try.ntmps7
    go_wp2_with fail
    have hb := Below.refl w.heap.size w
    have x1 : ¬ ((1048576 : Int) - (n : Int) < 0) := by omega
    go_at_call 24; refine (szStrikeS_ok _ _ _ _ _ (by omega) (by omega)).mono ?_; rintro e w0 ⟨rfl, rfl⟩
    go_wp2_with fail
    have h := (h0.below hb).more hb.size
    go_at_call 26; refine (toStrikeS_any _ _ _ _ _ h hn).mono ?_; rintro e w11 ⟨ghot, rfl, hot, hbn⟩
    clear h
    have shot := Lib.hid (span_own hot)
    have bhot := Lib.hid hb.size
    have hb := hb.trans (hbn.mono hb.size)
    clear hbn
    have zhot := Nat.le_refl w11.heap.size
    go_wp2_with fail
    go_at_call 32; refine (spec_ForgiveOld_any _ _ _ xs before _ (SRow.of_own_any ivC_len (by omega) hot) hn).mono ?_; rw [HZ.out, HR.out]; rintro e w12 ⟨VA, Vn, Vc, rfl, hoV, hbn⟩
    have eV : zs.length = Vn := by have q := hoV.1; rw [flat_len ivC_len] at q; omega
    have hnV : Vn ≤ 1048576 := by have := HLEN.out; omega
    clear eV
    have shoV := Lib.hid (span_own hoV)
    have bhoV := Lib.hid hb.size
    have ohot_hoV := Lib.hid zhot
    have hot := own_below hot hbn (Nat.le_refl _)
    have zhot := Nat.le_trans zhot hbn.size
    have hb := hb.trans (hbn.mono hb.size)
    clear hbn
    have zhoV := Nat.le_refl w12.heap.size
    clear hot zhot shot
    go_wp2_with fail
    have h := (h0.below hb).more hb.size
    go_at_call 26; refine (toStrikeS_any _ _ _ _ _ h hn).mono ?_; rintro e w13 ⟨ghox, rfl, hox, hbn⟩
    clear h
    have shox := Lib.hid (span_own hox)
    have bhox := Lib.hid hb.size
    have ohoV_hox := Lib.hid zhoV
    have hoV := own_below hoV hbn (Nat.le_refl _)
    have zhoV := Nat.le_trans zhoV hbn.size
    have hb := hb.trans (hbn.mono hb.size)
    clear hbn
    have zhox := Nat.le_refl w13.heap.size
    go_wp2_with fail
    go_at_call 33; refine (impl_ForgiveOld_any _ _ _ xs before _ (SRow.of_own_any ivC_len (by omega) hox) hn).mono ?_; rw [HZ.out, HR.out]; rintro e w14 ⟨GA, Gn, Gc, rfl, hoG, hbn⟩
    have eG : zs.length = Gn := by have q := hoG.1; rw [flat_len ivC_len] at q; omega
    have hnG : Gn ≤ 1048576 := by have := HLEN.out; omega
    clear eG
    have shoG := Lib.hid (span_own hoG)
    have bhoG := Lib.hid hb.size
    have ohoV_hoG := Lib.hid zhoV
    have ohox_hoG := Lib.hid zhox
    have hoV := own_below hoV hbn (Nat.le_refl _)
    have zhoV := Nat.le_trans zhoV hbn.size
    have hox := own_below hox hbn (Nat.le_refl _)
    have zhox := Nat.le_trans zhox hbn.size
    have hb := hb.trans (hbn.mono hb.size)
    clear hbn
    have zhoG := Nat.le_refl w14.heap.size
    go_wp2_with fail
    go_at_call 29; refine (eqStrikeS_same _ _ _ _ _ _ _ _ (SRow.of_own_any ivC_len (by omega) hoG) (SRow.of_own_any ivC_len (by omega) hoV) hnG).mono ?_; rintro e w15 ⟨rfl, hbn⟩
    have hoV := own_below hoV hbn (Nat.le_refl _)
    have zhoV := Nat.le_trans zhoV hbn.size
    have hox := own_below hox hbn (Nat.le_refl _)
    have zhox := Nat.le_trans zhox hbn.size
    have hoG := own_below hoG hbn (Nat.le_refl _)
    have zhoG := Nat.le_trans zhoG hbn.size
    have hb := hb.trans (hbn.mono hb.size)
    clear hbn
    go_wp2_with fail
    have h := (h0.below hb).more hb.size
    go_at_call 26; refine (toStrikeS_any _ _ _ _ _ h hn).mono ?_; rintro e w16 ⟨ghop, rfl, hop, hbn⟩
    clear h
    have shop := Lib.hid (span_own hop)
    have bhop := Lib.hid hb.size
    have ohoV_hop := Lib.hid zhoV
    have ohox_hop := Lib.hid zhox
    have ohoG_hop := Lib.hid zhoG
    have hoV := own_below hoV hbn (Nat.le_refl _)
    have zhoV := Nat.le_trans zhoV hbn.size
    have hox := own_below hox hbn (Nat.le_refl _)
    have zhox := Nat.le_trans zhox hbn.size
    have hoG := own_below hoG hbn (Nat.le_refl _)
    have zhoG := Nat.le_trans zhoG hbn.size
    have hb := hb.trans (hbn.mono hb.size)
    clear hbn
    have zhop := Nat.le_refl w16.heap.size
    go_wp2_with fail
    go_at_call 29; refine (eqStrikeS_same _ _ _ _ _ _ _ _ (SRow.of_own_any ivC_len (by omega) hox) (SRow.of_own_any ivC_len (by omega) hop) hn).mono ?_; rintro e w17 ⟨rfl, hbn⟩
    have hoV := own_below hoV hbn (Nat.le_refl _)
    have zhoV := Nat.le_trans zhoV hbn.size
    have hox := own_below hox hbn (Nat.le_refl _)
    have zhox := Nat.le_trans zhox hbn.size
    have hoG := own_below hoG hbn (Nat.le_refl _)
    have zhoG := Nat.le_trans zhoG hbn.size
    have hop := own_below hop hbn (Nat.le_refl _)
    have zhop := Nat.le_trans zhop hbn.size
    have hb := hb.trans (hbn.mono hb.size)
    clear hbn
    clear hop zhop shop
    go_wp2_with fail
    go_at_call 30; refine (markStrikeS_any _ _ _ 1 _ _ _ hox hn (by omega)).mono ?_; rintro e w18 ⟨rfl, hmk, hg9, hz9⟩; have hmv := Moved.of_grown hg9 (fun k hk => shox.out k hk); clear hg9 hz9
    have hoV := hmv.own hoV shoV.out (.inl ohoV_hox.out)
    have zhoV := Nat.le_trans zhoV hmv.size
    have hoG := hmv.own hoG shoG.out (.inr ohox_hoG.out)
    have zhoG := Nat.le_trans zhoG hmv.size
    have hb := hmv.below hb bhox.out hb.size
    have zhox := Nat.le_trans zhox hmv.size
    clear hmk hmv
    clear hox zhox shox
    have xk : ¬ (((1 + n * 3 : Nat) : Int) < 0) := by omega
    go_wp2_with fail
    go_at_call 29; refine (eqStrikeS_same _ _ _ _ _ _ _ _ (SRow.of_own_any ivC_len (by omega) hoG) (SRow.of_own_any ivC_len (by omega) hoV) hnG).mono ?_; rintro e w19 ⟨rfl, hbn⟩
    have hoV := own_below hoV hbn (Nat.le_refl _)
    have zhoV := Nat.le_trans zhoV hbn.size
    have hoG := own_below hoG hbn (Nat.le_refl _)
    have zhoG := Nat.le_trans zhoG hbn.size
    have hb := hb.trans (hbn.mono hb.size)
    clear hbn
    go_wp2_with fail
    go_at_call 30; refine (markStrikeS_any _ _ _ 1 _ _ _ hoG hnG (by omega)).mono ?_; rintro e w20 ⟨rfl, hmk, hg9, hz9⟩; have hmv := Moved.of_grown hg9 (fun k hk => shoG.out k hk); clear hg9 hz9
    have hoV := hmv.own hoV shoV.out (.inl ohoV_hoG.out)
    have zhoV := Nat.le_trans zhoV hmv.size
    have hb := hmv.below hb bhoG.out hb.size
    have zhoG := Nat.le_trans zhoG hmv.size
    clear hmv
    clear hoG
    have hoG := hmk
    clear hmk
    go_wp2_with fail
    go_at_call 31; refine (heldStrikeS_any _ _ _ _ _ _ (SRow.of_own_any ivC_len (by omega) hoG) hnG (by omega)).mono ?_; rintro e _ ⟨rfl, rfl⟩
    have xq : ¬ (((1 + Gn * 3 : Nat) : Int) < 0) := by omega
    go_wp2_with fail
    clear xq
    have h := (h0.below hb).more hb.size
    go_at_call 26; refine (toStrikeS_any _ _ _ _ _ h hn).mono ?_; rintro e w22 ⟨ghoy, rfl, hoy, hbn⟩
    clear h
    have shoy := Lib.hid (span_own hoy)
    have bhoy := Lib.hid hb.size
    have ohoV_hoy := Lib.hid zhoV
    have ohoG_hoy := Lib.hid zhoG
    have hoV := own_below hoV hbn (Nat.le_refl _)
    have zhoV := Nat.le_trans zhoV hbn.size
    have hoG := own_below hoG hbn (Nat.le_refl _)
    have zhoG := Nat.le_trans zhoG hbn.size
    have hb := hb.trans (hbn.mono hb.size)
    clear hbn
    have zhoy := Nat.le_refl w22.heap.size
    go_wp2_with fail
    go_at_call 33; refine (impl_ForgiveOld_any _ _ _ xs before _ (SRow.of_own_any ivC_len (by omega) hoy) hn).mono ?_; rw [HZ.out, HR.out]; rintro e w23 ⟨HA, Hn, Hc, rfl, hoH, hbn⟩
    have eH : zs.length = Hn := by have q := hoH.1; rw [flat_len ivC_len] at q; omega
    have hnH : Hn ≤ 1048576 := by have := HLEN.out; omega
    clear eH
    have shoH := Lib.hid (span_own hoH)
    have bhoH := Lib.hid hb.size
    have ohoV_hoH := Lib.hid zhoV
    have ohoG_hoH := Lib.hid zhoG
    have ohoy_hoH := Lib.hid zhoy
    have hoV := own_below hoV hbn (Nat.le_refl _)
    have zhoV := Nat.le_trans zhoV hbn.size
    have hoG := own_below hoG hbn (Nat.le_refl _)
    have zhoG := Nat.le_trans zhoG hbn.size
    have hoy := own_below hoy hbn (Nat.le_refl _)
    have zhoy := Nat.le_trans zhoy hbn.size
    have hb := hb.trans (hbn.mono hb.size)
    clear hbn
    have zhoH := Nat.le_refl w23.heap.size
    clear hoy zhoy shoy
    go_wp2_with fail
    go_at_call 29; refine (eqStrikeS_same _ _ _ _ _ _ _ _ (SRow.of_own_any ivC_len (by omega) hoH) (SRow.of_own_any ivC_len (by omega) hoV) hnH).mono ?_; rintro e w24 ⟨rfl, hbn⟩
    have hoV := own_below hoV hbn (Nat.le_refl _)
    have zhoV := Nat.le_trans zhoV hbn.size
    have hoG := own_below hoG hbn (Nat.le_refl _)
    have zhoG := Nat.le_trans zhoG hbn.size
    have hoH := own_below hoH hbn (Nat.le_refl _)
    have zhoH := Nat.le_trans zhoH hbn.size
    have hb := hb.trans (hbn.mono hb.size)
    clear hbn
    go_wp2_with fail
    go_at_call 31; refine (heldStrikeS_any _ _ _ _ _ _ (SRow.of_own_any ivC_len (by omega) hoG) hnG (by omega)).mono ?_; rintro e _ ⟨rfl, rfl⟩
    have xq : ¬ (((1 + Gn * 3 : Nat) : Int) < 0) := by omega
    go_wp2
    go_ret
    exact ⟨rfl, hb⟩
  · have hx : (n : Int) ≤ 9223372036854775807 := by unfold maxLen at hm; omega
    go_enter Try.func7, Try.ntmps7
    go_wp2_with fail
    go_at_call 24; refine (szStrikeS_no _ _ _ _ _ (by omega) (by omega) hx).mono ?_; rintro e w0 ⟨rfl, rfl⟩
    go_wp2
    go_ret
    exact ⟨rfl, Below.refl _ _⟩

theorem own : ownKnob Try.prog.godebug = none := by kernel_rfl
theorem laidOut : laidOutB Try.prog = true := by kernel_rfl
set_option maxRecDepth 100000 in
theorem lifted (os : Os) (started : os.Started) (H : Type) (enc : TypeId × Value → H) :
    ReturnsInHanded {} Try.checked os 7 .any (Rows.fnExactForgiveOldSpec.pre6 enc Try.prog Try.f7 Rows.fnExactForgiveOldRow.domain false) (Rows.fnExactForgiveOldSpec.post enc Try.prog Try.f7 false true false false) := by
  refine returnsInHanded_of_change (C := Try.checked) own started (by kernel_rfl) Try.func7
    (ChangeSpec.witness6 (enc := enc) (C := Try.checked) false ⟨#[], #[.slice none 0 0, .int .i64 0], []⟩ 8 (by kernel_rfl) (by kernel_rfl) (by kernel_rfl) (by kernel_rfl)) ?_
  intro W base args ds gs before hval0 hW hcnd _
  have hval : ∀ (j : Nat) t v, Try.f7.params[j]? = some t → args[j]? = some v → Value.okWide Try.prog W .any base t v := hval0
  have hW' := hW
  obtain ⟨p, q, hA0, hV, rfl, hfz, hnd⟩ := hW
  have hA : DataW.TrodAll enc Try.prog W 0 (fun _ => true) true Try.f7.params.toList args.toList ds p := hA0
  rw [Try.params7] at hA hval
  obtain ⟨v0, vs0, d0, ds0, p0, q0, hargs, rfl, rfl, h0, r0⟩ := trodAll_cons hA
  obtain ⟨v1, vs1, d1, ds1, p1, q1, rfl, rfl, rfl, h1, r1⟩ := trodAll_cons r0
  obtain ⟨rfl, rfl, rfl⟩ := trodAll_nil r1
  obtain rfl : args = #[v0, v1] := by cases args; simp_all
  obtain ⟨rfl, rfl⟩ := trodVars_none hV
  have k0 := h0
  have lt0 : ∀ x ∈ p0, x.block < W.heap.size := by obtain ⟨m, hm⟩ := k0; exact DataW.trod_lt m _ _ _ hm
  obtain ⟨A0, n0, c0, xs0, rfl, w0, u0⟩ := open_strikes (hval 0 42 v0 rfl rfl) h0
  obtain ⟨a1, rfl, rfl, rfl, w1⟩ := open_int Try.underlying2 (hval 1 2 v1 rfl rfl) h1
  clear hA0 hval0
  refine (walk A0 n0 c0 xs0 a1 W w0 u0 w1).mono fun e W' ⟨he, bel⟩ => ?_
  subst he
  exact ⟨_, rfl, _, _, _, [], _, [], hW', trodAll_mk1 (shut_bool Try.underlying4 _), (trodAll_cons_mk (Below.trod laidOut (by kernel_rfl) (of_decide_eq_true (by kernel_rfl)) k0 bel lt0) (trodAll_cons_mk (shut_int Try.underlying2 w1) trodAll_mk0)), rfl, bel.frame _, fun h => by cases h⟩

theorem over : Rows.fnExactForgiveOldRow.holds Try.pinned (OpenSpec.ofChange Rows.fnExactForgiveOldSpec) :=
  OpenClaim.holds_of_wide 7 Try.f7 rfl rfl rfl rfl rfl rfl rfl ⟨rfl, rfl, rfl, rfl, rfl⟩ rfl rfl rfl rfl rfl (by kernel_rfl) Try.func7 (by kernel_rfl)
    (of_decide_eq_true (by kernel_rfl)) (by unfold Func.isWrapper; first | (rw [if_pos (by decide +kernel)]; kernel_rfl) | (rw [if_neg (by decide +kernel)]; exact ⟨rfl, rfl⟩))
    (fun os started H enc _ => lifted os started H enc)

theorem proved : Rows.FnExactForgiveOldSaid := over
#print axioms proved
end Go.Proofs.Ytdpclbmcmgknjaa.fnExactForgiveOld
