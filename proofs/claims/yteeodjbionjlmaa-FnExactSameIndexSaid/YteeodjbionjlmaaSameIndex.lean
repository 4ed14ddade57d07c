/-
  SameIndex answers as its model for every two indices, and leaves both as they were: the law returns true for every two indices. No condition.
-/
import Derived.Test.YteeodjbionjlmaaRows
import Derived.WalkKit
import Derived.ProofKit
import Derived.OpenShut
import Derived.ShutString
import Derived.ChangeOld
import Derived.Below
import Derived.Lib.Hide
import Derived.Deep.RegionHeld3
import Derived.Test.YteeodjbionjlmaaSamY
import Derived.Test.YteeodjbionjlmaaIdxA
namespace Go.Proofs.Yteeodjbionjlmaa.fnExactSameIndex
open Go.ChangeShapes Go.WideShapes Go.ChangeAt Go.RowKit
open Go.ChangeMaps (open_string shut_string)
set_option linter.unusedVariables false
set_option maxRecDepth 100000
set_option maxHeartbeats 6400000 in
theorem walk (A : Option Addr) (n c : Nat) (rs : List Re) (A' : Option Addr) (n' c' : Nat) (ts : List Re) (w : World) (h0 : IdxOk w A n rs) (h0' : IdxOk w A' n' ts) :
    Calls Try.prog 11 #[.agg #[.slice A n c], .agg #[.slice A' n' c']] w fun e w' => e = .returned (.bool true) ∧ Below w.heap.size w w' := by
  obtain ⟨r, hr⟩ : ∃ z, decide (ens rs = ens ts) = z := ⟨_, rfl⟩
  have HR := Lib.hid hr
  clear hr
  have hb1 : (n : Int) ≤ 9223372036854775807 := by have := h0.2.1; unfold maxLen at this; omega
  have hb1' : (n' : Int) ≤ 9223372036854775807 := by have := h0'.2.1; unfold maxLen at this; omega
  by_cases hA : idxSize rs + idxSize ts ≤ 1048576
  · have hn1 : idxSize rs ≤ 1048576 := by omega
    have hn2 : idxSize ts ≤ 1048576 := by omega
    have HFIT := Lib.hid (fitE_of h0.1 hn1)
    have HFIT' := Lib.hid (fitE_of h0'.1 hn2)
    clear hb1 hb1'
    go_enter Try.func11, Try.ntmps11
    go_wp2_with fail
    obtain ⟨k0, k1, hb⟩ := two_boxes w 47 47 #[.slice A n c] #[.slice A' n' c']
    generalize ((w.alloc (.cells #[.slice A n c] 47)).alloc (.cells #[.slice A' n' c'] 47)) = W at *
    have x1 : ¬ ((1048576 : Int) - (idxSize rs : Int) < 0) := by omega
    have x2 : ¬ ((1048576 : Int) - (idxSize rs : Int) - (idxSize ts : Int) < 0) := by omega
    have h := (h0.1.below hb).more hb.size
    have h' := (h0'.1.below hb).more hb.size
    go_at_call 37; refine (szIndex_ok _ _ _ _ _ _ h (by omega) (by omega)).mono ?_; rintro e w11 ⟨rfl, hbn⟩
    clear h h'
    have k0 := k0.below hbn k0.lt
    have k1 := k1.below hbn k1.lt
    have hb := hb.trans (hbn.mono hb.size)
    clear hbn
    have h := (h0.1.below hb).more hb.size
    have h' := (h0'.1.below hb).more hb.size
    have k1l0 := k1.cell 0; have k1lt := k1.lt
    go_wp2_with fail
    clear k1l0 k1lt
    go_at_call 37; refine (szIndex_ok _ _ _ _ _ _ h' (by omega) (by omega)).mono ?_; rintro e w12 ⟨rfl, hbn⟩
    clear h h'
    have k0 := k0.below hbn k0.lt
    have k1 := k1.below hbn k1.lt
    have hb := hb.trans (hbn.mono hb.size)
    clear hbn
    have k0l0 := k0.cell 0; have k0lt := k0.lt
    have k1l0 := k1.cell 0; have k1lt := k1.lt
    go_wp2_with fail
    clear k0l0 k0lt
    clear k1l0 k1lt
    have hbn : Below w12.heap.size w12 w12.drew := (Below.refl _ _).drew
    have k0 := k0.below hbn k0.lt
    have k1 := k1.below hbn k1.lt
    have hb := hb.trans (hbn.mono hb.size)
    clear hbn
    have h : IdxAt w12.drew w12.drew.heap.size A n rs := (h0.1.below hb).more hb.size
    have h' : IdxAt w12.drew w12.drew.heap.size A' n' ts := (h0'.1.below hb).more hb.size
    go_region_held3 (fun w' => (w'.cell? ⟨w.heap.size, 0, none⟩ = some (.slice A n c)) ∧ (w'.cell? ⟨w.heap.size + 1, 0, none⟩ = some (.slice A' n' c'))) (first | exact ⟨k0_3.cell 0, k1_3.cell 0⟩ | exact ⟨k0_2.cell 0, k1_2.cell 0⟩ | exact ⟨k0_1.cell 0, k1_1.cell 0⟩ | exact ⟨k0.cell 0, k1.cell 0⟩) ((first | (go_at_call 39; refine (toIndex_any _ _ _ _ _ h'_1 hn2).mono ?_; rintro e w14 ⟨g14, us, rfl, hus, hou, hq2⟩; have HUS := Lib.hid hus; clear hus; have k0_2 := k0_1.below hq2 k0_1.lt; have k1_2 := k1_1.below hq2 k1_1.lt; have hot_2 := hot.below hq2 (Nat.le_refl _); have hb_2 := hb_1.trans (hq2.mono hb_1.size)) | (go_at_call 39; refine (toIndex_any _ _ _ _ _ h hn1).mono ?_; rintro e w13 ⟨g13, ts1, rfl, hts, hot, hq1⟩; have HTS := Lib.hid hts; clear hts; have k0_1 := k0.below hq1 k0.lt; have k1_1 := k1.below hq1 k1.lt; have hb_1 := hb.trans (hq1.mono hb.size); have h'_1 := h'.to hq1) | (go_at_call 42; refine (spec_SameIndex_any _ _ _ _ _ _ _ _ _ hot_2.at_ hou.at_ (by rw [HTS.out]; exact HFIT.out) (by rw [HUS.out]; exact HFIT'.out)).mono ?_; rw [HTS.out, HUS.out, HR.out]; rintro e w15 ⟨rfl, hq3⟩; have k0_3 := k0_2.below hq3 k0_2.lt; have k1_3 := k1_2.below hq3 k1_2.lt; have hb_3 := hb_2.trans (hq3.mono hb_2.size))))
    clear h h' k0 k1 hb k0_1 k1_1 hb_1 k0_2 k1_2 hb_2 hot h'_1 hou hot_2 hq1 hq2 hq3 HTS HUS
    have k0 := k0_3
    have k1 := k1_3
    have hb := hb_3
    clear k0_3 k1_3 hb_3
    have k0l0 := k0.cell 0; have k0lt := k0.lt
    go_wp2_with fail
    clear k0l0 k0lt
    have h := (h0.1.below hb).more hb.size
    have h' := (h0'.1.below hb).more hb.size
    go_at_call 39; refine (toIndex_any _ _ _ _ _ h hn1).mono ?_; rintro e w16 ⟨gX, rX, rfl, hrx, hox, hbn⟩
    have HX := Lib.hid hrx
    clear hrx h h'
    have k0 := k0.below hbn k0.lt
    have k1 := k1.below hbn k1.lt
    have hb := hb.trans (hbn.mono hb.size)
    clear hbn
    have k1l0 := k1.cell 0; have k1lt := k1.lt
    go_wp2_with fail
    clear k1l0 k1lt
    obtain ⟨kx, hbn⟩ := one_box w16 52 #[.slice (some ⟨gX, 0, none⟩) n n]
    generalize w16.alloc (.cells #[.slice (some ⟨gX, 0, none⟩) n n] 52) = w17 at *
    have k0 := k0.below hbn k0.lt
    have k1 := k1.below hbn k1.lt
    have hox := hox.below hbn (Nat.le_refl _)
    have hb := hb.trans (hbn.mono hb.size)
    clear hbn
    have h := (h0.1.below hb).more hb.size
    have h' := (h0'.1.below hb).more hb.size
    go_at_call 39; refine (toIndex_any _ _ _ _ _ h' hn2).mono ?_; rintro e w18 ⟨gY, rY, rfl, hry, hoy, hbn⟩
    have HY := Lib.hid hry
    clear hry h h'
    have k0 := k0.below hbn k0.lt
    have k1 := k1.below hbn k1.lt
    have kx := kx.below hbn kx.lt
    have hox := hox.below hbn (Nat.le_refl _)
    have hb := hb.trans (hbn.mono hb.size)
    clear hbn
    have kxl0 := kx.cell 0; have kxlt := kx.lt
    go_wp2_with fail
    clear kxl0 kxlt
    obtain ⟨ky, hbn⟩ := one_box w18 52 #[.slice (some ⟨gY, 0, none⟩) n' n']
    generalize w18.alloc (.cells #[.slice (some ⟨gY, 0, none⟩) n' n'] 52) = w19 at *
    have k0 := k0.below hbn k0.lt
    have k1 := k1.below hbn k1.lt
    have kx := kx.below hbn kx.lt
    have hox := hox.below hbn (Nat.le_refl _)
    have hoy := hoy.below hbn (Nat.le_refl _)
    have hb := hb.trans (hbn.mono hb.size)
    clear hbn
    go_at_call 43; refine (impl_SameIndex_any _ _ _ _ _ _ _ _ _ hox.at_ hoy.at_ (by rw [HX.out]; exact HFIT.out) (by rw [HY.out]; exact HFIT'.out)).mono ?_; rw [HX.out, HY.out, HR.out]; rintro e w20 ⟨rfl, hbn⟩
    have k0 := k0.below hbn k0.lt
    have k1 := k1.below hbn k1.lt
    have kx := kx.below hbn kx.lt
    have ky := ky.below hbn ky.lt
    have hox := hox.below hbn (Nat.le_refl _)
    have hoy := hoy.below hbn (Nat.le_refl _)
    have hb := hb.trans (hbn.mono hb.size)
    clear hbn
    have k0l0 := k0.cell 0; have k0lt := k0.lt
    have kxl0 := kx.cell 0; have kxlt := kx.lt
    go_wp2_with fail
    clear k0l0 k0lt
    clear kxl0 kxlt
    have hbn : Below w20.heap.size w20 w20.drew := (Below.refl _ _).drew
    have k0 := k0.below hbn k0.lt
    have k1 := k1.below hbn k1.lt
    have kx := kx.below hbn kx.lt
    have ky := ky.below hbn ky.lt
    have hox := hox.below hbn (Nat.le_refl _)
    have hoy := hoy.below hbn (Nat.le_refl _)
    have hb := hb.trans (hbn.mono hb.size)
    clear hbn
    have h : IdxAt w20.drew w20.drew.heap.size A n rs := (h0.1.below hb).more hb.size
    have h' : IdxAt w20.drew w20.drew.heap.size A' n' ts := (h0'.1.below hb).more hb.size
    go_region_held3 (fun w' => (w'.cell? ⟨w.heap.size, 0, none⟩ = some (.slice A n c)) ∧ (w'.cell? ⟨w16.heap.size, 0, none⟩ = some (.slice (some ⟨gX, 0, none⟩) n n))) (first | exact ⟨k0_2.cell 0, kx_2.cell 0⟩ | exact ⟨k0_1.cell 0, kx_1.cell 0⟩ | exact ⟨k0.cell 0, kx.cell 0⟩) ((first | (go_at_call 39; refine (toIndex_any _ _ _ _ _ h hn1).mono ?_; rintro e w21 ⟨r21g, r21, rfl, hr21, hop, hq1⟩; have HV := Lib.hid hr21; clear hr21; have k0_1 := k0.below hq1 k0.lt; have k1_1 := k1.below hq1 k1.lt; have kx_1 := kx.below hq1 kx.lt; have ky_1 := ky.below hq1 ky.lt; have hox_1 := hox.below hq1 (Nat.le_refl _); have hoy_1 := hoy.below hq1 (Nat.le_refl _); have hb_1 := hb.trans (hq1.mono hb.size)) | (go_at_call 41; refine (eqIndex_same _ _ _ _ _ _ _ _ _ hox_1.at_ hop.at_ (HX.out.trans HV.out.symm) (by rw [HX.out]; exact HFIT.out)).mono ?_; rintro e w22 ⟨rfl, hq2⟩; have k0_2 := k0_1.below hq2 k0_1.lt; have k1_2 := k1_1.below hq2 k1_1.lt; have kx_2 := kx_1.below hq2 kx_1.lt; have ky_2 := ky_1.below hq2 ky_1.lt; have hox_2 := hox_1.below hq2 (Nat.le_refl _); have hoy_2 := hoy_1.below hq2 (Nat.le_refl _); have hb_2 := hb_1.trans (hq2.mono hb_1.size))))
    clear h h' k0 k1 kx ky hox hoy hb k0_1 k1_1 kx_1 ky_1 hox_1 hoy_1 hb_1 hop hq1 hq2 HV
    have k0 := k0_2
    have k1 := k1_2
    have kx := kx_2
    have ky := ky_2
    have hox := hox_2
    have hoy := hoy_2
    have hb := hb_2
    clear k0_2 k1_2 kx_2 ky_2 hox_2 hoy_2 hb_2
    have k1l0 := k1.cell 0; have k1lt := k1.lt
    have kyl0 := ky.cell 0; have kylt := ky.lt
    go_wp2_with fail
    clear k1l0 k1lt
    clear kyl0 kylt
    have hbn : Below w22.heap.size w22 w22.drew := (Below.refl _ _).drew
    have k0 := k0.below hbn k0.lt
    have k1 := k1.below hbn k1.lt
    have kx := kx.below hbn kx.lt
    have ky := ky.below hbn ky.lt
    have hox := hox.below hbn (Nat.le_refl _)
    have hoy := hoy.below hbn (Nat.le_refl _)
    have hb := hb.trans (hbn.mono hb.size)
    clear hbn
    have h : IdxAt w22.drew w22.drew.heap.size A n rs := (h0.1.below hb).more hb.size
    have h' : IdxAt w22.drew w22.drew.heap.size A' n' ts := (h0'.1.below hb).more hb.size
    go_region_held3 (fun w' => (w'.cell? ⟨w.heap.size + 1, 0, none⟩ = some (.slice A' n' c')) ∧ (w'.cell? ⟨w18.heap.size, 0, none⟩ = some (.slice (some ⟨gY, 0, none⟩) n' n'))) (first | exact ⟨k1_2.cell 0, ky_2.cell 0⟩ | exact ⟨k1_1.cell 0, ky_1.cell 0⟩ | exact ⟨k1.cell 0, ky.cell 0⟩) ((first | (go_at_call 39; refine (toIndex_any _ _ _ _ _ h' hn2).mono ?_; rintro e w23 ⟨r23g, r23, rfl, hr23, hop, hq1⟩; have HV := Lib.hid hr23; clear hr23; have k0_1 := k0.below hq1 k0.lt; have k1_1 := k1.below hq1 k1.lt; have kx_1 := kx.below hq1 kx.lt; have ky_1 := ky.below hq1 ky.lt; have hox_1 := hox.below hq1 (Nat.le_refl _); have hoy_1 := hoy.below hq1 (Nat.le_refl _); have hb_1 := hb.trans (hq1.mono hb.size)) | (go_at_call 41; refine (eqIndex_same _ _ _ _ _ _ _ _ _ hoy_1.at_ hop.at_ (HY.out.trans HV.out.symm) (by rw [HY.out]; exact HFIT'.out)).mono ?_; rintro e w24 ⟨rfl, hq2⟩; have k0_2 := k0_1.below hq2 k0_1.lt; have k1_2 := k1_1.below hq2 k1_1.lt; have kx_2 := kx_1.below hq2 kx_1.lt; have ky_2 := ky_1.below hq2 ky_1.lt; have hox_2 := hox_1.below hq2 (Nat.le_refl _); have hoy_2 := hoy_1.below hq2 (Nat.le_refl _); have hb_2 := hb_1.trans (hq2.mono hb_1.size))))
    go_wp2
    go_ret
    exact ⟨rfl, hb_2⟩
  by_cases hn1 : idxSize rs ≤ 1048576
  · go_enter Try.func11, Try.ntmps11
    go_wp2_with fail
    obtain ⟨k0, k1, hb⟩ := two_boxes w 47 47 #[.slice A n c] #[.slice A' n' c']
    generalize ((w.alloc (.cells #[.slice A n c] 47)).alloc (.cells #[.slice A' n' c'] 47)) = W at *
    have x1 : ¬ ((1048576 : Int) - (idxSize rs : Int) < 0) := by omega
    have h := (h0.1.below hb).more hb.size
    have h' := (h0'.1.below hb).more hb.size
    go_at_call 37; refine (szIndex_ok _ _ _ _ _ _ h (by omega) (by omega)).mono ?_; rintro e w11 ⟨rfl, hbn⟩
    clear h h'
    have k0 := k0.below hbn k0.lt
    have k1 := k1.below hbn k1.lt
    have hb := hb.trans (hbn.mono hb.size)
    clear hbn
    have h := (h0.1.below hb).more hb.size
    have h' := (h0'.1.below hb).more hb.size
    have k1l0 := k1.cell 0; have k1lt := k1.lt
    go_wp2_with fail
    go_at_call 37; refine (szIndex_no _ _ _ _ _ _ h' (by omega) (by omega) (by omega) hb1' h0'.2.2).mono ?_; rintro e w12 ⟨rfl, hbn⟩
    go_wp2
    go_ret
    exact ⟨rfl, hb.trans (hbn.mono hb.size)⟩
  · go_enter Try.func11, Try.ntmps11
    go_wp2_with fail
    obtain ⟨k0, k1, hb⟩ := two_boxes w 47 47 #[.slice A n c] #[.slice A' n' c']
    generalize ((w.alloc (.cells #[.slice A n c] 47)).alloc (.cells #[.slice A' n' c'] 47)) = W at *
    have h := (h0.1.below hb).more hb.size
    have h' := (h0'.1.below hb).more hb.size
    go_at_call 37; refine (szIndex_no _ _ _ _ _ _ h (by omega) (by omega) (by omega) hb1 h0.2.2).mono ?_; rintro e w12 ⟨rfl, hbn⟩
    go_wp2
    go_ret
    exact ⟨rfl, hb.trans (hbn.mono hb.size)⟩

theorem own : ownKnob Try.prog.godebug = none := by kernel_rfl
theorem laidOut : laidOutB Try.prog = true := by kernel_rfl
set_option maxRecDepth 100000 in
theorem lifted (os : Os) (started : os.Started) (H : Type) (enc : TypeId × Value → H) :
    ReturnsInHanded {} Try.checked os 11 .any (Rows.fnExactSameIndexSpec.pre6 enc Try.prog Try.f11 Rows.fnExactSameIndexRow.domain false) (Rows.fnExactSameIndexSpec.post enc Try.prog Try.f11 false true false false) := by
  refine returnsInHanded_of_change (C := Try.checked) own started (by kernel_rfl) Try.func11
    (ChangeSpec.witness6 (enc := enc) (C := Try.checked) false ⟨#[], #[.agg #[.slice none 0 0], .agg #[.slice none 0 0]], []⟩ 8 (by kernel_rfl) (by kernel_rfl) (by kernel_rfl) (by kernel_rfl)) ?_
  intro W base args ds gs before hval0 hW hcnd _
  have hval : ∀ (j : Nat) t v, Try.f11.params[j]? = some t → args[j]? = some v → Value.okWide Try.prog W .any base t v := hval0
  have hW' := hW
  obtain ⟨p, q, hA0, hV, rfl, hfz, hnd⟩ := hW
  have hA : DataW.TrodAll enc Try.prog W 0 (fun _ => true) true Try.f11.params.toList args.toList ds p := hA0
  rw [Try.params11] at hA hval
  obtain ⟨v0, vs0, d0, ds0, p0, q0, hargs, rfl, rfl, h0, r0⟩ := trodAll_cons hA
  obtain ⟨v1, vs1, d1, ds1, p1, q1, rfl, rfl, rfl, h1, r1⟩ := trodAll_cons r0
  obtain ⟨rfl, rfl, rfl⟩ := trodAll_nil r1
  obtain rfl : args = #[v0, v1] := by cases args; simp_all
  obtain ⟨rfl, rfl⟩ := trodVars_none hV
  have k0 := h0
  have lt0 : ∀ x ∈ p0, x.block < W.heap.size := by obtain ⟨m, hm⟩ := k0; exact DataW.trod_lt m _ _ _ hm
  obtain ⟨A0, n0, c0, rs0, rfl, w0⟩ := open_index (hval 0 47 v0 rfl rfl) h0
  have k1 := h1
  have lt1 : ∀ x ∈ p1, x.block < W.heap.size := by obtain ⟨m, hm⟩ := k1; exact DataW.trod_lt m _ _ _ hm
  obtain ⟨A1, n1, c1, rs1, rfl, w1⟩ := open_index (hval 1 47 v1 rfl rfl) h1
  clear hA0 hval0
  refine (walk A0 n0 c0 rs0 A1 n1 c1 rs1 W w0 w1).mono fun e W' ⟨he, bel⟩ => ?_
  subst he
  exact ⟨_, rfl, _, _, _, [], _, [], hW', trodAll_mk1 (shut_bool Try.underlying4 _), (trodAll_cons_mk (Below.trod laidOut (by kernel_rfl) (of_decide_eq_true (by kernel_rfl)) k0 bel lt0) (trodAll_cons_mk (Below.trod laidOut (by kernel_rfl) (of_decide_eq_true (by kernel_rfl)) k1 bel lt1) trodAll_mk0)), rfl, bel.frame _, fun h => by cases h⟩

theorem over : Rows.fnExactSameIndexRow.holds Try.pinned (OpenSpec.ofChange Rows.fnExactSameIndexSpec) :=
  OpenClaim.holds_of_wide 11 Try.f11 rfl rfl rfl rfl rfl rfl rfl ⟨rfl, rfl, rfl, rfl, rfl⟩ rfl rfl rfl rfl rfl (by kernel_rfl) Try.func11 (by kernel_rfl)
    (of_decide_eq_true (by kernel_rfl)) (by unfold Func.isWrapper; first | (rw [if_pos (by decide +kernel)]; kernel_rfl) | (rw [if_neg (by decide +kernel)]; exact ⟨rfl, rfl⟩))
    (fun os started H enc _ => lifted os started H enc)

theorem proved : Rows.FnExactSameIndexSaid := over
#print axioms proved
end Go.Proofs.Yteeodjbionjlmaa.fnExactSameIndex
