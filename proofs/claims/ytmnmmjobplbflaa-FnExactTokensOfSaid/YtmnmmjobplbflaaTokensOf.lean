/-
  TokensOf answers as its model for every post and number, leaves its arguments as they were, and its answer is memory of its own: the law returns true for all arguments. No condition.
-/
import Derived.Test.YtmnmmjobplbflaaRows
import Derived.WalkKit
import Derived.ProofKit
import Derived.OpenShut
import Derived.ShutString
import Derived.ChangeOld
import Derived.Below
import Derived.Lib.Hide
import Derived.Deep.RegionHeld3
import Derived.Test.YtmnmmjobplbflaaPostN
import Derived.Test.YtmnmmjobplbflaaPostA
import Derived.Test.YtmnmmjobplbflaaPostK
import Derived.Test.YtmnmmjobplbflaaOwnF
import Derived.Test.YtmnmmjobplbflaaStrs2
namespace Go.Proofs.Ytmnmmjobplbflaa.fnExactTokensOf
open Go.ChangeShapes Go.WideShapes Go.ChangeAt Go.RowKit
open Go.ChangeMaps (open_string shut_string)
set_option linter.unusedVariables false
set_option maxRecDepth 100000
set_option maxHeartbeats 6400000 in
theorem walk (x : Int) (A : Option Addr) (n c : Nat) (rs : List Rb) (m : Int) (w : World) (h0 : PostOk w A n rs) (wfx : (Lit.int .i64 x).wf = true) (wfm : (Lit.int .i64 m).wf = true) :
    Calls Try.prog 6 #[.agg #[.int .i64 x, .slice A n c], .int .i64 m] w fun e w' => e = .returned (.bool true) ∧ Below w.heap.size w w' := by
  obtain ⟨rb, hrb⟩ : ∃ z, (postB x (bxs rs) && idB m) = z := ⟨_, rfl⟩
  have HB := Lib.hid hrb
  clear hrb
  by_cases hs : postSize rs ≤ 1048576
  · have HFIT := Lib.hid (fitP_of h0.1 hs)
    have HSUM := Lib.hid (show boxSum (bxs rs) ≤ 1048576 by have := boxSum_of h0.1; omega)
    have hnn := fitP_n h0.1 HFIT.out
    have HLen := Lib.hid (fun (zs : List ByteArray) (h : zs = toksL x m (bxs rs)) => show zs.length ≤ 1073741824 by subst h; have := HFIT.out.1; have := toks_len x m (bxs rs); omega)
    go_enter Try.func6, Try.ntmps6
    go_wp2_with fail
    obtain ⟨k00, hb⟩ := one_box w 24 #[.int .i64 x, .slice A n c]
    have hc := Below.refl (w.heap.size + 1) (w.alloc (.cells #[.int .i64 x, .slice A n c] 24))
    have hcz : w.heap.size + 1 ≤ (w.alloc (.cells #[.int .i64 x, .slice A n c] 24)).heap.size := by simp
    generalize w.alloc (.cells #[.int .i64 x, .slice A n c] 24) = W1 at *
    have x1 : ¬ ((1048576 : Int) - (postSize rs : Int) < 0) := by omega
    go_at_call 9; refine (szPost_ok _ _ _ _ _ _ _ ((h0.1.below hb).more hb.size) (by omega) (by omega)).mono ?_; rintro e w11 ⟨rfl, hbn⟩
    have hc := hc.trans (hbn.mono (Nat.le_trans hcz hc.size))
    have hb := hb.trans (hbn.mono hb.size)
    clear hbn
    have k0 := k00.below hc (Nat.lt_succ_self _)
    have al0 := k0.cell 0
    have al1 := k0.cell 1
    have alt := k0.lt
    go_wp2_with fail
    clear al0 al1 alt k0
    have h := (h0.1.below hb).more hb.size
    go_at_call 11; refine (toPost_any _ _ _ _ _ _ h hs).mono ?_; rintro e w12 ⟨gt, tt, rfl, htt, hot, hbn⟩
    have Htt := Lib.hid htt
    clear htt
    have hc := hc.trans (hbn.mono (Nat.le_trans hcz hc.size))
    have hb := hb.trans (hbn.mono hb.size)
    clear hbn
    clear h
    go_wp2_with fail
    go_at_call 20; refine (spec_TokensOf_any _ _ _ _ _ _ _ hot.at_ (by rw [Htt.out]; exact HFIT.out)).mono ?_; rw [Htt.out]; rw [HB.out]; rintro e w13 ⟨V, Vn, Vc, Vz, rfl, hVz, how, hbn⟩
    obtain rfl : Vn = Vz.length := by simpa using how.1.symm
    have hot := hot.below hbn (Nat.le_refl _)
    have hc := hc.trans (hbn.mono (Nat.le_trans hcz hc.size))
    have hb := hb.trans (hbn.mono hb.size)
    clear hbn
    clear hot
    have HN := Lib.hid (show Vz.length ≤ 1073741824 from HLen.out Vz hVz)
    have HVz := Lib.hid hVz
    clear hVz
    have k0 := k00.below hc (Nat.lt_succ_self _)
    have al0 := k0.cell 0
    have al1 := k0.cell 1
    have alt := k0.lt
    go_wp2_with fail
    clear al0 al1 alt k0
    have h := (h0.1.below hb).more hb.size
    have xB0 : w.heap.size + 1 ≤ w13.heap.size := Nat.le_trans hcz hc.size
    go_at_call 11; refine (toPost_any _ _ _ _ _ _ h hs).mono ?_; rintro e w14 ⟨gx, tx, rfl, htx, hox, hbn⟩
    have Htx := Lib.hid htx
    clear htx
    have how := own_below how hbn (Nat.le_refl _)
    have hc := hc.trans (hbn.mono (Nat.le_trans hcz hc.size))
    have hb := hb.trans (hbn.mono hb.size)
    clear hbn
    clear h
    have HXB := Lib.hid (show w.heap.size + 1 ≤ w13.heap.size from xB0)
    go_wp2_with fail
    obtain ⟨kx, hbn⟩ := one_box w14 29 #[.int .i64 x, .slice (some ⟨gx, 0, none⟩) n n]
    generalize w14.alloc (.cells #[.int .i64 x, .slice (some ⟨gx, 0, none⟩) n n] 29) = w15 at *
    have how := own_below how hbn (Nat.le_refl _)
    have hox := hox.below hbn (Nat.le_refl _)
    have hc := hc.trans (hbn.mono (Nat.le_trans hcz hc.size))
    have hb := hb.trans (hbn.mono hb.size)
    clear hbn
    go_at_call 21; refine (impl_TokensOf_any _ _ _ _ _ _ _ hox.at_ (by rw [Htx.out]; exact HFIT.out)).mono ?_; rw [Htx.out]; rw [HB.out]; rintro e w16 ⟨G, Gn, Gc, Gz, rfl, hGz, hog, hbn⟩
    obtain rfl : Gn = Gz.length := by simpa using hog.1.symm
    have EGz : Gz = Vz := hGz.trans HVz.out.symm
    clear hGz
    subst EGz
    have nwg := own_offF how hog
    have gB : w.heap.size + 1 ≤ w15.heap.size := Nat.le_trans hcz hc.size
    have kx := kx.below hbn kx.lt
    have how := own_below how hbn (Nat.le_refl _)
    have hox := hox.below hbn (Nat.le_refl _)
    have hc := hc.trans (hbn.mono (Nat.le_trans hcz hc.size))
    have hb := hb.trans (hbn.mono hb.size)
    clear hbn
    go_wp2_with fail
    go_at_call 22; refine (eqStringS_same _ _ _ _ _ _ _ _ _ (Row.of_own_any hog) (Row.of_own_any how) HN.out).mono ?_; rintro e w17 ⟨rfl, hq⟩
    have hbn := drew_below hq
    clear hq
    have kx := kx.below hbn kx.lt
    have how := own_below how hbn (Nat.le_refl _)
    have hox := hox.below hbn (Nat.le_refl _)
    have hog := own_below hog hbn (Nat.le_refl _)
    have hc := hc.trans (hbn.mono (Nat.le_trans hcz hc.size))
    have hb := hb.trans (hbn.mono hb.size)
    clear hbn
    have k0 := k00.below hc (Nat.lt_succ_self _)
    have al0 := k0.cell 0
    have al1 := k0.cell 1
    have alt := k0.lt
    have kxl0 := kx.cell 0
    have kxl1 := kx.cell 1
    have kxlt := kx.lt
    go_wp2_with fail
    clear kxl0 kxl1 kxlt
    clear al0 al1 alt k0
    have k0 := k00.below hc (Nat.lt_succ_self _)
    have h := (h0.1.below hb).more hb.size
    have hbn : Below w17.heap.size w17 w17.drew := (Below.refl _ _).drew
    have k0 := k0.below hbn k0.lt
    have kx := kx.below hbn kx.lt
    have how := own_below how hbn (Nat.le_refl _)
    have hox := hox.below hbn (Nat.le_refl _)
    have hog := own_below hog hbn (Nat.le_refl _)
    have hc := hc.trans (hbn.mono (Nat.le_trans hcz hc.size))
    have hb := hb.trans (hbn.mono hb.size)
    have h : PostAt w17.drew w17.drew.heap.size A n rs := h
    clear hbn
    go_region_held3 (fun w' => (w'.cell? ⟨w.heap.size, 0, none⟩ = some (.int .i64 x) ∧ w'.cell? ⟨w.heap.size, 1, none⟩ = some (.slice A n c)) ∧ (w'.cell? ⟨w14.heap.size, 0, none⟩ = some (.int .i64 x) ∧ w'.cell? ⟨w14.heap.size, 1, none⟩ = some (.slice (some ⟨gx, 0, none⟩) n n))) (first | exact ⟨⟨k0_8.cell 0, k0_8.cell 1⟩, kx_8.cell 0, kx_8.cell 1⟩ | exact ⟨⟨k0_7.cell 0, k0_7.cell 1⟩, kx_7.cell 0, kx_7.cell 1⟩ | exact ⟨⟨k0.cell 0, k0.cell 1⟩, kx.cell 0, kx.cell 1⟩) ((first | (go_at_call 11; refine (toPost_any _ _ _ _ _ _ h hs).mono ?_; rintro e w18 ⟨y1, ty, rfl, hty, ho7, hq7⟩; have HTY := Lib.hid hty; clear hty; have k0_7 := k0.below hq7 k0.lt; have kx_7 := kx.below hq7 kx.lt; have how_7 := own_below how hq7 (Nat.le_refl _); have hox_7 := hox.below hq7 (Nat.le_refl _); have hog_7 := own_below hog hq7 (Nat.le_refl _); have hc_7 := hc.trans (hq7.mono (Nat.le_trans hcz hc.size)); have hb_7 := hb.trans (hq7.mono hb.size)) | (go_at_call 13; refine (eqPost_same _ _ _ _ _ _ _ _ _ _ hox_7.at_ ho7.at_ (Htx.out.trans HTY.out.symm) (by rw [Htx.out]; exact HFIT.out)).mono ?_; rintro e w19 ⟨rfl, hq8⟩; have k0_8 := k0_7.below hq8 k0_7.lt; have kx_8 := kx_7.below hq8 kx_7.lt; have how_8 := own_below how_7 hq8 (Nat.le_refl _); have hox_8 := hox_7.below hq8 (Nat.le_refl _); have hog_8 := own_below hog_7 hq8 (Nat.le_refl _); have hc_8 := hc_7.trans (hq8.mono (Nat.le_trans hcz hc_7.size)); have hb_8 := hb_7.trans (hq8.mono hb_7.size))))
    clear k0 h kx how hox hog hc hb k0_7 kx_7 how_7 hox_7 hog_7 hc_7 hb_7 ho7 hq7 hq8 HTY
    have kx := kx_8
    have how := how_8
    have hox := hox_8
    have hog := hog_8
    have hc := hc_8
    have hb := hb_8
    clear k0_8 kx_8 how_8 hox_8 hog_8 hc_8 hb_8
    have kxl0 := kx.cell 0
    have kxl1 := kx.cell 1
    have kxlt := kx.lt
    go_wp2_with fail
    clear kxl0 kxl1 kxlt
    have xB := HXB.out
    go_at_call 18; refine (markPost_loose _ _ _ _ 1 _ _ _ hox (by rw [Htx.out]; exact HSUM.out) hnn (by omega) (by omega)).mono ?_; rintro e w20 ⟨zk, rfl, hzk, hkp, hbl, hsz, hbk⟩
    have kx := hbk _ _ _ kx (by decide) (by decide)
    have how := hkp _ _ _ _ _ _ how (by decide) (by decide)
    have hog := hkp _ _ _ _ _ _ hog (by decide) (by decide)
    have hb := hbl _ _ hb (Nat.le_trans (Nat.le_succ _) xB) hb.size
    have hc := hbl _ _ hc xB (Nat.le_trans hcz hc.size)
    clear hkp hbl hsz hbk hox
    have xk : ¬ (zk < 0) := by omega
    go_wp2_with fail
    go_at_call 22; refine (eqStringS_same _ _ _ _ _ _ _ _ _ (Row.of_own_any hog) (Row.of_own_any how) HN.out).mono ?_; rintro e w21 ⟨rfl, hq⟩
    have hbn := drew_below hq
    clear hq
    have kx := kx.below hbn kx.lt
    have how := own_below how hbn (Nat.le_refl _)
    have hog := own_below hog hbn (Nat.le_refl _)
    have hc := hc.trans (hbn.mono (Nat.le_trans hcz hc.size))
    have hb := hb.trans (hbn.mono hb.size)
    clear hbn
    go_wp2_with fail
    go_at_call 23; refine (markS_any _ _ _ 1 _ _ _ hog HN.out (by omega) (by omega)).mono ?_; rintro e w22 ⟨rfl, hm, hkp, hbl, hsz⟩
    have how := hkp _ _ _ _ _ _ how nwg
    have hb := hbl _ _ hb (Nat.le_trans (Nat.le_succ _) gB) hb.size
    have hc := hbl _ _ hc gB (Nat.le_trans hcz hc.size)
    have hog := hm
    clear hm hkp hbl hsz kx
    go_wp2_with fail
    go_at_call 24; refine (heldStringS_any _ _ _ 1 _ (Row.of_own_any hog) HN.out (by omega) (by omega)).mono ?_; rintro e w23 ⟨rfl, hbn⟩
    have how := own_below how hbn (Nat.le_refl _)
    have hog := own_below hog hbn (Nat.le_refl _)
    have hc := hc.trans (hbn.mono (Nat.le_trans hcz hc.size))
    have hb := hb.trans (hbn.mono hb.size)
    clear hbn
    have k0 := k00.below hc (Nat.lt_succ_self _)
    have al0 := k0.cell 0
    have al1 := k0.cell 1
    have alt := k0.lt
    go_wp2_with fail
    clear al0 al1 alt k0
    have h := (h0.1.below hb).more hb.size
    go_at_call 11; refine (toPost_any _ _ _ _ _ _ h hs).mono ?_; rintro e w24 ⟨gy, tz, rfl, htz, hoy, hbn⟩
    have Htz := Lib.hid htz
    clear htz
    have how := own_below how hbn (Nat.le_refl _)
    have hog := own_below hog hbn (Nat.le_refl _)
    have hc := hc.trans (hbn.mono (Nat.le_trans hcz hc.size))
    have hb := hb.trans (hbn.mono hb.size)
    clear hbn
    clear h
    go_wp2_with fail
    go_at_call 21; refine (impl_TokensOf_any _ _ _ _ _ _ _ hoy.at_ (by rw [Htz.out]; exact HFIT.out)).mono ?_; rw [Htz.out]; rw [HB.out]; rintro e w25 ⟨H, Hn, Hc, Hz, rfl, hHz, hoh, hbn⟩
    obtain rfl : Hn = Hz.length := by simpa using hoh.1.symm
    have EHz := hHz.trans HVz.out.symm
    clear hHz
    subst EHz
    have how := own_below how hbn (Nat.le_refl _)
    have hog := own_below hog hbn (Nat.le_refl _)
    have hoy := hoy.below hbn (Nat.le_refl _)
    have hc := hc.trans (hbn.mono (Nat.le_trans hcz hc.size))
    have hb := hb.trans (hbn.mono hb.size)
    clear hbn
    clear hoy
    go_wp2_with fail
    go_at_call 22; refine (eqStringS_same _ _ _ _ _ _ _ _ _ (Row.of_own_any hoh) (Row.of_own_any how) HN.out).mono ?_; rintro e w26 ⟨rfl, hq⟩
    have hbn := drew_below hq
    clear hq
    have how := own_below how hbn (Nat.le_refl _)
    have hog := own_below hog hbn (Nat.le_refl _)
    have hoh := own_below hoh hbn (Nat.le_refl _)
    have hc := hc.trans (hbn.mono (Nat.le_trans hcz hc.size))
    have hb := hb.trans (hbn.mono hb.size)
    clear hbn
    go_wp2_with fail
    go_at_call 24; refine (heldStringS_any _ _ _ 1 _ (Row.of_own_any hog) HN.out (by omega) (by omega)).mono ?_; rintro e w27 ⟨rfl, hbn⟩
    have how := own_below how hbn (Nat.le_refl _)
    have hog := own_below hog hbn (Nat.le_refl _)
    have hoh := own_below hoh hbn (Nat.le_refl _)
    have hc := hc.trans (hbn.mono (Nat.le_trans hcz hc.size))
    have hb := hb.trans (hbn.mono hb.size)
    clear hbn
    go_wp2
    go_ret
    exact ⟨rfl, hb⟩
  · have hb1 : (n : Int) ≤ 9223372036854775807 := by have := h0.2.1; unfold maxLen at this; omega
    go_enter Try.func6, Try.ntmps6
    go_wp2_with fail
    obtain ⟨k0, hb0⟩ := one_box w 24 #[.int .i64 x, .slice A n c]
    generalize w.alloc (.cells #[.int .i64 x, .slice A n c] 24) = W at *
    go_at_call 9; refine (szPost_no _ _ _ _ _ _ _ ((h0.1.below hb0).more hb0.size) (by omega) (by omega) (by omega) hb1 h0.2.2).mono ?_; rintro e w1 ⟨rfl, hb4⟩
    have hb0 := hb0.trans (hb4.mono hb0.size)
    go_wp2
    go_ret
    exact ⟨rfl, hb0⟩

theorem own : ownKnob Try.prog.godebug = none := by kernel_rfl
theorem laidOut : laidOutB Try.prog = true := by kernel_rfl
set_option maxRecDepth 100000 in
theorem lifted (os : Os) (started : os.Started) (H : Type) (enc : TypeId × Value → H) :
    ReturnsInHanded {} Try.checked os 6 .any (Rows.fnExactTokensOfSpec.pre6 enc Try.prog Try.f6 Rows.fnExactTokensOfRow.domain false) (Rows.fnExactTokensOfSpec.post enc Try.prog Try.f6 false true false false) := by
  refine returnsInHanded_of_change (C := Try.checked) own started (by kernel_rfl) Try.func6
    (ChangeSpec.witness6 (enc := enc) (C := Try.checked) false ⟨#[], #[.agg #[.int .i64 0, .slice none 0 0], .int .i64 0], []⟩ 8 (by kernel_rfl) (by kernel_rfl) (by kernel_rfl) (by kernel_rfl)) ?_
  intro W base args ds gs before hval0 hW hcnd _
  have hval : ∀ (j : Nat) t v, Try.f6.params[j]? = some t → args[j]? = some v → Value.okWide Try.prog W .any base t v := hval0
  have hW' := hW
  obtain ⟨p, q, hA0, hV, rfl, hfz, hnd⟩ := hW
  have hA : DataW.TrodAll enc Try.prog W 0 (fun _ => true) true Try.f6.params.toList args.toList ds p := hA0
  rw [Try.params6] at hA hval
  obtain ⟨v0, vs0, d0, ds0, p0, q0, hargs, rfl, rfl, h0, r0⟩ := trodAll_cons hA
  obtain ⟨v1, vs1, d1, ds1, p1, q1, rfl, rfl, rfl, h1, r1⟩ := trodAll_cons r0
  obtain ⟨rfl, rfl, rfl⟩ := trodAll_nil r1
  obtain rfl : args = #[v0, v1] := by cases args; simp_all
  obtain ⟨rfl, rfl⟩ := trodVars_none hV
  have k0 := h0
  have lt0 : ∀ x ∈ p0, x.block < W.heap.size := by obtain ⟨m, hm⟩ := k0; exact DataW.trod_lt m _ _ _ hm
  obtain ⟨x0, A0, n0, c0, rs0, rfl, w0, u0⟩ := open_post (hval 0 24 v0 rfl rfl) h0
  obtain ⟨a1, rfl, rfl, rfl, w1⟩ := open_int Try.underlying2 (hval 1 2 v1 rfl rfl) h1
  clear hA0 hval0
  refine (walk x0 A0 n0 c0 rs0 a1 W w0 u0 w1).mono fun e W' ⟨he, bel⟩ => ?_
  subst he
  exact ⟨_, rfl, _, _, _, [], _, [], hW', trodAll_mk1 (shut_bool Try.underlying4 _), (trodAll_cons_mk (Below.trod laidOut (by kernel_rfl) (of_decide_eq_true (by kernel_rfl)) k0 bel lt0) (trodAll_cons_mk (shut_int Try.underlying2 w1) trodAll_mk0)), rfl, bel.frame _, fun h => by cases h⟩

theorem over : Rows.fnExactTokensOfRow.holds Try.pinned (OpenSpec.ofChange Rows.fnExactTokensOfSpec) :=
  OpenClaim.holds_of_wide 6 Try.f6 rfl rfl rfl rfl rfl rfl rfl ⟨rfl, rfl, rfl, rfl, rfl⟩ rfl rfl rfl rfl rfl (by kernel_rfl) Try.func6 (by kernel_rfl)
    (of_decide_eq_true (by kernel_rfl)) (by unfold Func.isWrapper; first | (rw [if_pos (by decide +kernel)]; kernel_rfl) | (rw [if_neg (by decide +kernel)]; exact ⟨rfl, rfl⟩))
    (fun os started H enc _ => lifted os started H enc)

theorem proved : Rows.FnExactTokensOfSaid := over
#print axioms proved
end Go.Proofs.Ytmnmmjobplbflaa.fnExactTokensOf
