/-
  AddStrike answers as its model for every list of strikes and every strike, leaves its arguments as they were, and its answer is memory of its own: the law returns true for all arguments. No condition.
-/
import Derived.Test.YtdpclbmcmgknjaaRows
import Derived.WalkKit
import Derived.ProofKit
import Derived.OpenShut
import Derived.ShutString
import Derived.ChangeOld
import Derived.Below
import Derived.Lib.Hide
import Derived.Test.YtdpclbmcmgknjaaZAddI
import Derived.Test.YtdpclbmcmgknjaaZAddS
import Derived.Test.YtdpclbmcmgknjaaZRowO
import Derived.Test.YtdpclbmcmgknjaaZStrA
namespace Go.Proofs.Ytdpclbmcmgknjaa.fnExactAddStrike
open Go.ChangeShapes Go.WideShapes Go.ChangeAt Go.RowKit
open Go.ChangeMaps (open_string shut_string)
set_option linter.unusedVariables false
set_option maxRecDepth 100000
set_option maxHeartbeats 6400000 in
theorem walk (A : Option Addr) (n c : Nat) (xs : List Iv) (s : Iv) (w : World) (h0 : SRow 3 ivC w w.heap.size A n xs) (hm : n ≤ maxLen) (wfs : (Lit.int .i64 s.id).wf = true) :
    Calls Try.prog 6 #[.slice A n c, .agg #[.int .i64 s.id, .int .i64 s.byy, .int .i64 s.til]] w fun e w' => e = .returned (.bool true) ∧ Below w.heap.size w w' := by
  obtain ⟨zs, hzs⟩ : ∃ z, (if addOk xs s = true then xs ++ [s] else []) = z := ⟨_, rfl⟩
  obtain ⟨r0, hr0⟩ : ∃ z, (addOk xs s) = z := ⟨_, rfl⟩
  have HR := Lib.hid hr0
  have HZ := Lib.hid hzs
  by_cases hn : n ≤ 1048576
  · have HLEN := Lib.hid (show zs.length ≤ 1048576 by rw [← hzs]; exact add_len xs s)
    clear hr0 hzs hm
    go_enter Try.func6, Try.ntmps6
    go_wp2_with fail
    obtain ⟨k0, hb⟩ := one_box w 44 #[.int .i64 s.id, .int .i64 s.byy, .int .i64 s.til]
    generalize w.alloc (.cells #[.int .i64 s.id, .int .i64 s.byy, .int .i64 s.til] 44) = W0 at *
    have x1 : ¬ ((1048576 : Int) - (n : Int) < 0) := by omega
    go_at_call 24; refine (szStrikeS_ok _ _ _ _ _ (by omega) (by omega)).mono ?_; rintro e w0 ⟨rfl, rfl⟩
    go_wp2_with fail
    have hbn : Below W0.heap.size W0 W0.drew := (Below.refl _ _).drew
    have k0 := k0.below hbn k0.lt
    have hb := hb.trans (hbn.mono hb.size)
    clear hbn
    have h := (h0.below hb).more hb.size
    go_region_held3 (fun w' => w'.cell? ⟨w.heap.size, 0, none⟩ = some (.int .i64 s.id) ∧ w'.cell? ⟨w.heap.size, 1, none⟩ = some (.int .i64 s.byy) ∧ w'.cell? ⟨w.heap.size, 2, none⟩ = some (.int .i64 s.til)) (first | exact ⟨k0_3.cell 0, k0_3.cell 1, k0_3.cell 2⟩ | exact ⟨k0_2.cell 0, k0_2.cell 1, k0_2.cell 2⟩ | exact ⟨k0_1.cell 0, k0_1.cell 1, k0_1.cell 2⟩ | exact ⟨k0.cell 0, k0.cell 1, k0.cell 2⟩) ((first | (go_at_call 26; refine (toStrikeS_any _ _ _ _ _ h hn).mono ?_; rintro e w11 ⟨ghot, rfl, hot, hq1⟩; have k0_1 := k0.below hq1 k0.lt; have hb_1 := hb.trans (hq1.mono hb.size)) | (go_at_call 27; refine (toStrike_any s _).mono ?_; rintro e w12 ⟨rfl, hq2⟩; have k0_2 := k0_1.below hq2 k0_1.lt; have hot_2 := own_below hot hq2 (Nat.le_refl _); have hb_2 := hb_1.trans (hq2.mono hb_1.size)) | (go_at_call 25; refine (spec_AddStrike_any _ _ _ xs s _ (SRow.of_own_any ivC_len (by omega) hot_2) hn).mono ?_; rw [HZ.out, HR.out]; rintro e w13 ⟨VA, Vn, Vc, rfl, hoV, hq3⟩; have k0_3 := k0_2.below hq3 k0_2.lt; have hb_3 := hb_2.trans (hq3.mono hb_2.size))))
    have eV : zs.length = Vn := by have q := hoV.1; rw [flat_len ivC_len] at q; omega
    have hnV : Vn ≤ 1048576 := by have := HLEN.out; omega
    clear eV
    have shoV := Lib.hid (span_own hoV)
    have bhoV := Lib.hid hb_2.size
    have qhoV := Lib.hid k0_2.lt
    clear h hot hot_2 hb hb_1 hb_2 k0 k0_1 k0_2 hq1 hq2 hq3
    have hb := hb_3
    have k0 := k0_3
    clear hb_3 k0_3
    have zhoV := Nat.le_refl w13.heap.size
    go_wp2_with fail
    have h := (h0.below hb).more hb.size
    go_at_call 26; refine (toStrikeS_any _ _ _ _ _ h hn).mono ?_; rintro e w14 ⟨ghox, rfl, hox, hbn⟩
    clear h
    have shox := Lib.hid (span_own hox)
    have bhox := Lib.hid hb.size
    have qhox := Lib.hid k0.lt
    have ohoV_hox := Lib.hid zhoV
    have k0 := k0.below hbn k0.lt
    have hoV := own_below hoV hbn (Nat.le_refl _)
    have zhoV := Nat.le_trans zhoV hbn.size
    have hb := hb.trans (hbn.mono hb.size)
    clear hbn
    have zhox := Nat.le_refl w14.heap.size
    have l0 := k0.cell 0; have l1 := k0.cell 1; have l2 := k0.cell 2; have llt := k0.lt
    go_wp2_with fail
    clear l0 l1 l2 llt
    go_at_call 27; refine (toStrike_any s _).mono ?_; rintro e w15 ⟨rfl, hbn⟩
    have k0 := k0.below hbn k0.lt
    have hoV := own_below hoV hbn (Nat.le_refl _)
    have zhoV := Nat.le_trans zhoV hbn.size
    have hox := own_below hox hbn (Nat.le_refl _)
    have zhox := Nat.le_trans zhox hbn.size
    have hb := hb.trans (hbn.mono hb.size)
    clear hbn
    go_wp2_with fail
    go_at_call 28; refine (impl_AddStrike_any _ _ _ xs s _ (SRow.of_own_any ivC_len (by omega) hox) hn).mono ?_; rw [HZ.out, HR.out]; rintro e w16 ⟨GA, Gn, Gc, rfl, hoG, hbn⟩
    have eG : zs.length = Gn := by have q := hoG.1; rw [flat_len ivC_len] at q; omega
    have hnG : Gn ≤ 1048576 := by have := HLEN.out; omega
    clear eG
    have shoG := Lib.hid (span_own hoG)
    have bhoG := Lib.hid hb.size
    have qhoG := Lib.hid k0.lt
    have ohoV_hoG := Lib.hid zhoV
    have ohox_hoG := Lib.hid zhox
    have k0 := k0.below hbn k0.lt
    have hoV := own_below hoV hbn (Nat.le_refl _)
    have zhoV := Nat.le_trans zhoV hbn.size
    have hox := own_below hox hbn (Nat.le_refl _)
    have zhox := Nat.le_trans zhox hbn.size
    have hb := hb.trans (hbn.mono hb.size)
    clear hbn
    have zhoG := Nat.le_refl w16.heap.size
    go_wp2_with fail
    go_at_call 29; refine (eqStrikeS_same _ _ _ _ _ _ _ _ (SRow.of_own_any ivC_len (by omega) hoG) (SRow.of_own_any ivC_len (by omega) hoV) hnG).mono ?_; rintro e w17 ⟨rfl, hbn⟩
    have k0 := k0.below hbn k0.lt
    have hoV := own_below hoV hbn (Nat.le_refl _)
    have zhoV := Nat.le_trans zhoV hbn.size
    have hox := own_below hox hbn (Nat.le_refl _)
    have zhox := Nat.le_trans zhox hbn.size
    have hoG := own_below hoG hbn (Nat.le_refl _)
    have zhoG := Nat.le_trans zhoG hbn.size
    have hb := hb.trans (hbn.mono hb.size)
    clear hbn
    go_wp2_with fail
    have h := (h0.below hb).more hb.size
    go_at_call 26; refine (toStrikeS_any _ _ _ _ _ h hn).mono ?_; rintro e w18 ⟨ghop, rfl, hop, hbn⟩
    clear h
    have shop := Lib.hid (span_own hop)
    have bhop := Lib.hid hb.size
    have qhop := Lib.hid k0.lt
    have ohoV_hop := Lib.hid zhoV
    have ohox_hop := Lib.hid zhox
    have ohoG_hop := Lib.hid zhoG
    have k0 := k0.below hbn k0.lt
    have hoV := own_below hoV hbn (Nat.le_refl _)
    have zhoV := Nat.le_trans zhoV hbn.size
    have hox := own_below hox hbn (Nat.le_refl _)
    have zhox := Nat.le_trans zhox hbn.size
    have hoG := own_below hoG hbn (Nat.le_refl _)
    have zhoG := Nat.le_trans zhoG hbn.size
    have hb := hb.trans (hbn.mono hb.size)
    clear hbn
    have zhop := Nat.le_refl w18.heap.size
    go_wp2_with fail
    go_at_call 29; refine (eqStrikeS_same _ _ _ _ _ _ _ _ (SRow.of_own_any ivC_len (by omega) hox) (SRow.of_own_any ivC_len (by omega) hop) hn).mono ?_; rintro e w19 ⟨rfl, hbn⟩
    have k0 := k0.below hbn k0.lt
    have hoV := own_below hoV hbn (Nat.le_refl _)
    have zhoV := Nat.le_trans zhoV hbn.size
    have hox := own_below hox hbn (Nat.le_refl _)
    have zhox := Nat.le_trans zhox hbn.size
    have hoG := own_below hoG hbn (Nat.le_refl _)
    have zhoG := Nat.le_trans zhoG hbn.size
    have hop := own_below hop hbn (Nat.le_refl _)
    have zhop := Nat.le_trans zhop hbn.size
    have hb := hb.trans (hbn.mono hb.size)
    clear hbn
    clear hop zhop shop
    go_wp2_with fail
    go_at_call 30; refine (markStrikeS_any _ _ _ 1 _ _ _ hox hn (by omega)).mono ?_; rintro e w20 ⟨rfl, hmk, hg9, hz9⟩; have hmv := Moved.of_grown hg9 (fun k hk => shox.out k hk); clear hg9 hz9
    have hoV := hmv.own hoV shoV.out (.inl ohoV_hox.out)
    have zhoV := Nat.le_trans zhoV hmv.size
    have hoG := hmv.own hoG shoG.out (.inr ohox_hoG.out)
    have zhoG := Nat.le_trans zhoG hmv.size
    have k0 := hmv.blk k0 (.inl qhox.out)
    have hb := hmv.below hb bhox.out hb.size
    have zhox := Nat.le_trans zhox hmv.size
    clear hmk hmv
    clear hox zhox shox
    have xk : ¬ (((1 + n * 3 : Nat) : Int) < 0) := by omega
    go_wp2_with fail
    go_at_call 29; refine (eqStrikeS_same _ _ _ _ _ _ _ _ (SRow.of_own_any ivC_len (by omega) hoG) (SRow.of_own_any ivC_len (by omega) hoV) hnG).mono ?_; rintro e w21 ⟨rfl, hbn⟩
    have k0 := k0.below hbn k0.lt
    have hoV := own_below hoV hbn (Nat.le_refl _)
    have zhoV := Nat.le_trans zhoV hbn.size
    have hoG := own_below hoG hbn (Nat.le_refl _)
    have zhoG := Nat.le_trans zhoG hbn.size
    have hb := hb.trans (hbn.mono hb.size)
    clear hbn
    go_wp2_with fail
    go_at_call 30; refine (markStrikeS_any _ _ _ 1 _ _ _ hoG hnG (by omega)).mono ?_; rintro e w22 ⟨rfl, hmk, hg9, hz9⟩; have hmv := Moved.of_grown hg9 (fun k hk => shoG.out k hk); clear hg9 hz9
    have hoV := hmv.own hoV shoV.out (.inl ohoV_hoG.out)
    have zhoV := Nat.le_trans zhoV hmv.size
    have k0 := hmv.blk k0 (.inl qhoG.out)
    have hb := hmv.below hb bhoG.out hb.size
    have zhoG := Nat.le_trans zhoG hmv.size
    clear hmv
    clear hoG
    have hoG := hmk
    clear hmk
    go_wp2_with fail
    go_at_call 31; refine (heldStrikeS_any _ _ _ _ _ _ (SRow.of_own_any ivC_len (by omega) hoG) hnG (by omega)).mono ?_; rintro e _ ⟨rfl, rfl⟩
    have xq : ¬ (((1 + Gn * 3 : Nat) : Int) < 0) := by omega
    go_wp2_with fail
    clear xq
    go_wp2_with fail
    have hbn : Below w22.heap.size w22 w22.drew := (Below.refl _ _).drew
    have k0 := k0.below hbn k0.lt
    have hoV := own_below hoV hbn (Nat.le_refl _)
    have zhoV := Nat.le_trans zhoV hbn.size
    have hoG := own_below hoG hbn (Nat.le_refl _)
    have zhoG := Nat.le_trans zhoG hbn.size
    have hb := hb.trans (hbn.mono hb.size)
    clear hbn
    have h := (h0.below hb).more hb.size
    go_region_held3 (fun w' => w'.cell? ⟨w.heap.size, 0, none⟩ = some (.int .i64 s.id) ∧ w'.cell? ⟨w.heap.size, 1, none⟩ = some (.int .i64 s.byy) ∧ w'.cell? ⟨w.heap.size, 2, none⟩ = some (.int .i64 s.til)) (first | exact ⟨k0_3.cell 0, k0_3.cell 1, k0_3.cell 2⟩ | exact ⟨k0_2.cell 0, k0_2.cell 1, k0_2.cell 2⟩ | exact ⟨k0_1.cell 0, k0_1.cell 1, k0_1.cell 2⟩ | exact ⟨k0.cell 0, k0.cell 1, k0.cell 2⟩) ((first | (go_at_call 26; refine (toStrikeS_any _ _ _ _ _ h hn).mono ?_; rintro e w24 ⟨ghoy, rfl, hoy, hq1⟩; have k0_1 := k0.below hq1 k0.lt; have hoV_1 := own_below hoV hq1 (Nat.le_refl _); have zhoV_1 := Nat.le_trans zhoV hq1.size; have hoG_1 := own_below hoG hq1 (Nat.le_refl _); have zhoG_1 := Nat.le_trans zhoG hq1.size; have hb_1 := hb.trans (hq1.mono hb.size)) | (go_at_call 27; refine (toStrike_any s _).mono ?_; rintro e w25 ⟨rfl, hq2⟩; have k0_2 := k0_1.below hq2 k0_1.lt; have hoV_2 := own_below hoV_1 hq2 (Nat.le_refl _); have zhoV_2 := Nat.le_trans zhoV_1 hq2.size; have hoG_2 := own_below hoG_1 hq2 (Nat.le_refl _); have zhoG_2 := Nat.le_trans zhoG_1 hq2.size; have hoy_2 := own_below hoy hq2 (Nat.le_refl _); have hb_2 := hb_1.trans (hq2.mono hb_1.size)) | (go_at_call 28; refine (impl_AddStrike_any _ _ _ xs s _ (SRow.of_own_any ivC_len (by omega) hoy_2) hn).mono ?_; rw [HZ.out, HR.out]; rintro e w26 ⟨HA, Hn, Hc, rfl, hoH, hq3⟩; have k0_3 := k0_2.below hq3 k0_2.lt; have hoV_3 := own_below hoV_2 hq3 (Nat.le_refl _); have zhoV_3 := Nat.le_trans zhoV_2 hq3.size; have hoG_3 := own_below hoG_2 hq3 (Nat.le_refl _); have zhoG_3 := Nat.le_trans zhoG_2 hq3.size; have hb_3 := hb_2.trans (hq3.mono hb_2.size))))
    have eH : zs.length = Hn := by have q := hoH.1; rw [flat_len ivC_len] at q; omega
    have hnH : Hn ≤ 1048576 := by have := HLEN.out; omega
    clear eH
    have shoH := Lib.hid (span_own hoH)
    have bhoH := Lib.hid hb_2.size
    have qhoH := Lib.hid k0_2.lt
    have ohoV_hoH := Lib.hid zhoV_2
    have ohoG_hoH := Lib.hid zhoG_2
    clear h hoy hoy_2 hoV hoV_1 hoV_2 hoG hoG_1 hoG_2 zhoV zhoV_1 zhoV_2 zhoG zhoG_1 zhoG_2 hb hb_1 hb_2 k0 k0_1 k0_2 hq1 hq2 hq3
    have hoV := hoV_3
    have hoG := hoG_3
    have zhoV := zhoV_3
    have zhoG := zhoG_3
    have hb := hb_3
    have k0 := k0_3
    clear hoV_3 hoG_3 zhoV_3 zhoG_3 hb_3 k0_3
    have zhoH := Nat.le_refl w26.heap.size
    go_wp2_with fail
    go_at_call 29; refine (eqStrikeS_same _ _ _ _ _ _ _ _ (SRow.of_own_any ivC_len (by omega) hoH) (SRow.of_own_any ivC_len (by omega) hoV) hnH).mono ?_; rintro e w27 ⟨rfl, hbn⟩
    have k0 := k0.below hbn k0.lt
    have hoV := own_below hoV hbn (Nat.le_refl _)
    have zhoV := Nat.le_trans zhoV hbn.size
    have hoG := own_below hoG hbn (Nat.le_refl _)
    have zhoG := Nat.le_trans zhoG hbn.size
    have hoH := own_below hoH hbn (Nat.le_refl _)
    have zhoH := Nat.le_trans zhoH hbn.size
    have hb := hb.trans (hbn.mono hb.size)
    clear hbn
    go_wp2_with fail
    go_at_call 31; refine (heldStrikeS_any _ _ _ _ _ _ (SRow.of_own_any ivC_len (by omega) hoG) hnG (by omega)).mono ?_; rintro e _ ⟨rfl, rfl⟩
    have xq : ¬ (((1 + Gn * 3 : Nat) : Int) < 0) := by omega
    go_wp2
    go_ret
    exact ⟨rfl, hb⟩
  · have hx : (n : Int) ≤ 9223372036854775807 := by unfold maxLen at hm; omega
    go_enter Try.func6, Try.ntmps6
    go_wp2_with fail
    go_at_call 24; refine (szStrikeS_no _ _ _ _ _ (by omega) (by omega) hx).mono ?_; rintro e w0 ⟨rfl, rfl⟩
    go_wp2
    go_ret
    exact ⟨rfl, by first | exact Below.refl _ _ | exact (Below.refl _ _).alloc (Nat.le_refl _) _⟩

theorem own : ownKnob Try.prog.godebug = none := by kernel_rfl
theorem laidOut : laidOutB Try.prog = true := by kernel_rfl
set_option maxRecDepth 100000 in
theorem lifted (os : Os) (started : os.Started) (H : Type) (enc : TypeId × Value → H) :
    ReturnsInHanded {} Try.checked os 6 .any (Rows.fnExactAddStrikeSpec.pre6 enc Try.prog Try.f6 Rows.fnExactAddStrikeRow.domain false) (Rows.fnExactAddStrikeSpec.post enc Try.prog Try.f6 false true false false) := by
  refine returnsInHanded_of_change (C := Try.checked) own started (by kernel_rfl) Try.func6
    (ChangeSpec.witness6 (enc := enc) (C := Try.checked) false ⟨#[], #[.slice none 0 0, .agg #[.int .i64 0, .int .i64 0, .int .i64 0]], []⟩ 8 (by kernel_rfl) (by kernel_rfl) (by kernel_rfl) (by kernel_rfl)) ?_
  intro W base args ds gs before hval0 hW hcnd _
  have hval : ∀ (j : Nat) t v, Try.f6.params[j]? = some t → args[j]? = some v → Value.okWide Try.prog W .any base t v := hval0
  have hW' := hW
  obtain ⟨p, q, hA0, hV, rfl, hfz, hnd⟩ := hW
  have hA : DataW.TrodAll enc Try.prog W 0 (fun _ => true) true Try.f6.params.toList args.toList ds p := hA0
  rw [Try.params6] at hA hval
  obtain ⟨v0, vs0, d0, ds0, p0, q0, hargs, rfl, rfl, h0, r0⟩ := trodAll_cons hA
  obtain ⟨v1, vs1, d1, ds1, p1, q1, rfl, rfl, rfl, h1, r1⟩ := trodAll_cons r0
  obtain ⟨rfl, rfl, rfl⟩ := trodAll_nil r1
  obtain rfl : args = #[v0, v1] := by cases args; simp_all
  obtain ⟨rfl, rfl⟩ := trodVars_none hV
  have k0 := h0
  have lt0 : ∀ x ∈ p0, x.block < W.heap.size := by obtain ⟨m, hm⟩ := k0; exact DataW.trod_lt m _ _ _ hm
  obtain ⟨A0, n0, c0, xs0, rfl, w0, u0⟩ := open_strikes (hval 0 42 v0 rfl rfl) h0
  have k1 := h1
  have lt1 : ∀ x ∈ p1, x.block < W.heap.size := by obtain ⟨m, hm⟩ := k1; exact DataW.trod_lt m _ _ _ hm
  obtain ⟨s1, rfl, w1⟩ := open_strike (hval 1 44 v1 rfl rfl) h1
  clear hA0 hval0
  refine (walk A0 n0 c0 xs0 s1 W w0 u0 w1).mono fun e W' ⟨he, bel⟩ => ?_
  subst he
  exact ⟨_, rfl, _, _, _, [], _, [], hW', trodAll_mk1 (shut_bool Try.underlying4 _), (trodAll_cons_mk (Below.trod laidOut (by kernel_rfl) (of_decide_eq_true (by kernel_rfl)) k0 bel lt0) (trodAll_cons_mk (Below.trod laidOut (by kernel_rfl) (of_decide_eq_true (by kernel_rfl)) k1 bel lt1) trodAll_mk0)), rfl, bel.frame _, fun h => by cases h⟩

theorem over : Rows.fnExactAddStrikeRow.holds Try.pinned (OpenSpec.ofChange Rows.fnExactAddStrikeSpec) :=
  OpenClaim.holds_of_wide 6 Try.f6 rfl rfl rfl rfl rfl rfl rfl ⟨rfl, rfl, rfl, rfl, rfl⟩ rfl rfl rfl rfl rfl (by kernel_rfl) Try.func6 (by kernel_rfl)
    (of_decide_eq_true (by kernel_rfl)) (by unfold Func.isWrapper; first | (rw [if_pos (by decide +kernel)]; kernel_rfl) | (rw [if_neg (by decide +kernel)]; exact ⟨rfl, rfl⟩))
    (fun os started H enc _ => lifted os started H enc)

theorem proved : Rows.FnExactAddStrikeSaid := over
#print axioms proved
end Go.Proofs.Ytdpclbmcmgknjaa.fnExactAddStrike
