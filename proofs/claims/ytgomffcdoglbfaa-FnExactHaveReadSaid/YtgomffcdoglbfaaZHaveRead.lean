/-
  HaveRead answers as its model for every presence and number, leaves its arguments as they were, and its answer is memory of its own: the law returns true for all arguments. No condition.
-/
import Derived.Test.YtgomffcdoglbfaaRows
import Derived.WalkKit
import Derived.ProofKit
import Derived.OpenShut
import Derived.ShutString
import Derived.ChangeOld
import Derived.Below
import Derived.Lib.Hide
import Derived.Deep.RegionHeld3
import Derived.Test.YtgomffcdoglbfaaZPresH
import Derived.Test.YtgomffcdoglbfaaZPresA
namespace Go.Proofs.Ytgomffcdoglbfaa.fnExactHaveRead
open Go.ChangeShapes Go.WideShapes Go.ChangeAt Go.RowKit
open Go.ChangeMaps (open_string shut_string)
set_option linter.unusedVariables false
set_option maxRecDepth 100000
set_option maxHeartbeats 6400000 in
theorem walk (A1 : Option Addr) (n1 c1 : Nat) (A2 : Option Addr) (n2 c2 : Nat) (A3 : Option Addr) (n3 c3 : Nat) (hs ts ks : List Bn) (m : Int) (w : World) (h00 : PresAt w w.heap.size A1 n1 A2 n2 A3 n3 hs ts ks) (hm0 : n1 ≤ maxLen ∧ n2 ≤ maxLen ∧ n3 ≤ maxLen) (wfm : (Lit.int .i64 m).wf = true) :
    Calls Try.prog 6 #[.agg #[.slice A1 n1 c1, .slice A2 n2 c2, .slice A3 n3 c3], .int .i64 m] w fun e w' => e = .returned (.bool true) ∧ Below w.heap.size w w' := by
  obtain ⟨r1, hr1⟩ : ∃ z, (presB hs ts ks && amtB m) = z := ⟨_, rfl⟩
  have HR1 := Lib.hid hr1
  clear hr1
  by_cases hn0 : n1 + n2 + n3 ≤ 1048576
  · have HLen0 := Lib.hid (fun (zs : List Int) (b : Bool) (h : zs = if b = true then readL m ks else []) => show zs.length ≤ 1073741824 by subst h; split <;> (have h1 := readL_len m ks; have h2 := h00.2.2.1; simp <;> omega))
    go_enter Try.func6, Try.ntmps6
    go_wp2_with fail
    obtain ⟨k000, hb⟩ := one_box w 25 #[.slice A1 n1 c1, .slice A2 n2 c2, .slice A3 n3 c3]
    have hc := Below.refl (w.heap.size + 1) (w.alloc (.cells #[.slice A1 n1 c1, .slice A2 n2 c2, .slice A3 n3 c3] 25))
    have hcz : w.heap.size + 1 ≤ (w.alloc (.cells #[.slice A1 n1 c1, .slice A2 n2 c2, .slice A3 n3 c3] 25)).heap.size := by simp
    generalize w.alloc (.cells #[.slice A1 n1 c1, .slice A2 n2 c2, .slice A3 n3 c3] 25) = W1 at *
    have x0 : ¬ ((1048576 : Int) - (n1 : Int) - (n2 : Int) - (n3 : Int) < 0) := by omega
    have h0 := (h00.below hb).more hb.size
    go_at_call 12; refine (szPresence_ok _ _ _ _ _ _ _ _ _ _ _ (by omega) (by omega)).mono ?_; rintro e w11 ⟨rfl, hbn⟩
    clear h0
    have hc := hc.trans (hbn.mono (Nat.le_trans hcz hc.size))
    have hb := hb.trans (hbn.mono hb.size)
    clear hbn
    have k00 := k000.below hc (by omega)
    have al0_0 := k00.cell 0
    have al0_1 := k00.cell 1
    have al0_2 := k00.cell 2
    have alt0 := k00.lt
    go_wp2_with fail
    clear al0_0 al0_1 al0_2 alt0 k00
    have h0 := (h00.below hb).more hb.size
    have bhot := Lib.hid (Nat.le_trans hcz hc.size)
    go_at_call 14; refine (toPresence_any _ _ _ _ _ _ _ _ _ _ _ _ _ h0 hn0).mono ?_; rintro e w12 ⟨t1, t2, t3, rfl, hot, hbn⟩
    have shot := Lib.hid (hot.span)
    have zhot := Nat.le_refl w12.heap.size
    clear h0
    have hc := hc.trans (hbn.mono (Nat.le_trans hcz hc.size))
    have hb := hb.trans (hbn.mono hb.size)
    clear hbn
    go_wp2_with fail
    have ohot_hoV0 := Lib.hid zhot
    have bhoV0 := Lib.hid (Nat.le_trans hcz hc.size)
    go_at_call 21; refine (spec_HaveRead_any _ _ _ _ _ _ _ _ _ _ _ _ _ _ hot.at_ hn0).mono ?_; rw [HR1.out]; rintro e w13 ⟨V0A, V0n, V0c, V0z, rfl, hV0z, hoV0, hbn⟩
    obtain rfl : V0n = V0z.length := by simpa using hoV0.1.symm
    have shoV0 := Lib.hid (span_own hoV0)
    have zhoV0 := Nat.le_refl w13.heap.size
    have hot := hot.below hbn (Nat.le_refl _)
    have zhot := Nat.le_trans zhot hbn.size
    have hc := hc.trans (hbn.mono (Nat.le_trans hcz hc.size))
    have hb := hb.trans (hbn.mono hb.size)
    clear hbn
    clear hot
    have HN0 := Lib.hid (show V0z.length ≤ 1073741824 from HLen0.out V0z _ hV0z)
    have HV0z := Lib.hid hV0z
    clear hV0z
    have k00 := k000.below hc (by omega)
    have al0_0 := k00.cell 0
    have al0_1 := k00.cell 1
    have al0_2 := k00.cell 2
    have alt0 := k00.lt
    go_wp2_with fail
    clear al0_0 al0_1 al0_2 alt0 k00
    have h0 := (h00.below hb).more hb.size
    have ohoV0_hox0 := Lib.hid zhoV0
    have bhox0 := Lib.hid (Nat.le_trans hcz hc.size)
    go_at_call 14; refine (toPresence_any _ _ _ _ _ _ _ _ _ _ _ _ _ h0 hn0).mono ?_; rintro e w14 ⟨x01, x02, x03, rfl, hox0, hbn⟩
    have shox0 := Lib.hid (hox0.span)
    have zhox0 := Nat.le_refl w14.heap.size
    clear h0
    have hoV0 := own_below hoV0 hbn (Nat.le_refl _)
    have zhoV0 := Nat.le_trans zhoV0 hbn.size
    have hc := hc.trans (hbn.mono (Nat.le_trans hcz hc.size))
    have hb := hb.trans (hbn.mono hb.size)
    clear hbn
    go_wp2_with fail
    have ohoV0_kx0 := Lib.hid zhoV0
    have ohox0_kx0 := Lib.hid zhox0
    have bkx0 := Lib.hid (Nat.le_trans hcz hc.size)
    obtain ⟨kx0, hbn⟩ := one_box w14 31 #[.slice (some ⟨x01, 0, none⟩) n1 n1, .slice (some ⟨x02, 0, none⟩) n2 n2, .slice (some ⟨x03, 0, none⟩) n3 n3]
    generalize w14.alloc (.cells #[.slice (some ⟨x01, 0, none⟩) n1 n1, .slice (some ⟨x02, 0, none⟩) n2 n2, .slice (some ⟨x03, 0, none⟩) n3 n3] 31) = w15 at *
    have hoV0 := own_below hoV0 hbn (Nat.le_refl _)
    have zhoV0 := Nat.le_trans zhoV0 hbn.size
    have hox0 := hox0.below hbn (Nat.le_refl _)
    have zhox0 := Nat.le_trans zhox0 hbn.size
    have hc := hc.trans (hbn.mono (Nat.le_trans hcz hc.size))
    have hb := hb.trans (hbn.mono hb.size)
    clear hbn
    have ohoV0_hoG0 := Lib.hid zhoV0
    have ohox0_hoG0 := Lib.hid zhox0
    have okx0_hoG0 := Lib.hid kx0.lt
    have bhoG0 := Lib.hid (Nat.le_trans hcz hc.size)
    go_at_call 22; refine (impl_HaveRead_any _ _ _ _ _ _ _ _ _ _ _ _ _ _ hox0.at_ hn0).mono ?_; rw [HR1.out]; rintro e w16 ⟨G0A, G0n, G0c, G0z, rfl, hG0z, hoG0, hbn⟩
    obtain rfl : G0n = G0z.length := by simpa using hoG0.1.symm
    have shoG0 := Lib.hid (span_own hoG0)
    have zhoG0 := Nat.le_refl w16.heap.size
    have hoV0 := own_below hoV0 hbn (Nat.le_refl _)
    have zhoV0 := Nat.le_trans zhoV0 hbn.size
    have hox0 := hox0.below hbn (Nat.le_refl _)
    have zhox0 := Nat.le_trans zhox0 hbn.size
    have kx0 := kx0.below hbn kx0.lt
    have hc := hc.trans (hbn.mono (Nat.le_trans hcz hc.size))
    have hb := hb.trans (hbn.mono hb.size)
    clear hbn
    have EG0z : G0z = V0z := hG0z.trans HV0z.out.symm
    clear hG0z
    subst EG0z
    go_wp2_with fail
    go_at_call 23; refine (eqInt64S_same _ _ _ _ _ _ _ _ _ (Row.of_own_any hoG0) (Row.of_own_any hoV0) HN0.out).mono ?_; rintro e w17 ⟨rfl, hq⟩
    have hbn := drew_below hq
    clear hq
    have hoV0 := own_below hoV0 hbn (Nat.le_refl _)
    have zhoV0 := Nat.le_trans zhoV0 hbn.size
    have hox0 := hox0.below hbn (Nat.le_refl _)
    have zhox0 := Nat.le_trans zhox0 hbn.size
    have kx0 := kx0.below hbn kx0.lt
    have hoG0 := own_below hoG0 hbn (Nat.le_refl _)
    have zhoG0 := Nat.le_trans zhoG0 hbn.size
    have hc := hc.trans (hbn.mono (Nat.le_trans hcz hc.size))
    have hb := hb.trans (hbn.mono hb.size)
    clear hbn
    go_wp2_with fail
    have k00 := k000.below hc (by omega)
    have al0_0 := k00.cell 0
    have al0_1 := k00.cell 1
    have al0_2 := k00.cell 2
    have alt0 := k00.lt
    have kx0l0 := kx0.cell 0; have kx0l1 := kx0.cell 1; have kx0l2 := kx0.cell 2; have kx0lt := kx0.lt
    go_wp2_with fail
    clear kx0l0 kx0l1 kx0l2 kx0lt
    clear al0_0 al0_1 al0_2 alt0 k00
    have hbn : Below w17.heap.size w17 w17.drew := (Below.refl _ _).drew
    have hoV0 := own_below hoV0 hbn (Nat.le_refl _)
    have zhoV0 := Nat.le_trans zhoV0 hbn.size
    have hox0 := hox0.below hbn (Nat.le_refl _)
    have zhox0 := Nat.le_trans zhox0 hbn.size
    have kx0 := kx0.below hbn kx0.lt
    have hoG0 := own_below hoG0 hbn (Nat.le_refl _)
    have zhoG0 := Nat.le_trans zhoG0 hbn.size
    have hc := hc.trans (hbn.mono (Nat.le_trans hcz hc.size))
    have hb := hb.trans (hbn.mono hb.size)
    clear hbn
    have k0 := k000.below hc (by omega)
    have h : PresAt w17.drew w17.drew.heap.size A1 n1 A2 n2 A3 n3 hs ts ks := (h00.below hb).more hb.size
    go_region_held3 (fun w' => (w'.cell? ⟨w.heap.size, 0, none⟩ = some (.slice A1 n1 c1) ∧ w'.cell? ⟨w.heap.size, 1, none⟩ = some (.slice A2 n2 c2) ∧ w'.cell? ⟨w.heap.size, 2, none⟩ = some (.slice A3 n3 c3)) ∧ (w'.cell? ⟨w14.heap.size, 0, none⟩ = some (.slice (some ⟨x01, 0, none⟩) n1 n1) ∧ w'.cell? ⟨w14.heap.size, 1, none⟩ = some (.slice (some ⟨x02, 0, none⟩) n2 n2) ∧ w'.cell? ⟨w14.heap.size, 2, none⟩ = some (.slice (some ⟨x03, 0, none⟩) n3 n3))) (first | exact ⟨⟨k0_8.cell 0, k0_8.cell 1, k0_8.cell 2⟩, kx0_8.cell 0, kx0_8.cell 1, kx0_8.cell 2⟩ | exact ⟨⟨k0_7.cell 0, k0_7.cell 1, k0_7.cell 2⟩, kx0_7.cell 0, kx0_7.cell 1, kx0_7.cell 2⟩ | exact ⟨⟨k0.cell 0, k0.cell 1, k0.cell 2⟩, kx0.cell 0, kx0.cell 1, kx0.cell 2⟩) ((first | (go_at_call 14; refine (toPresence_any _ _ _ _ _ _ _ _ _ _ _ _ _ h hn0).mono ?_; rintro e w18 ⟨y1, y2, y3, rfl, ho7, hq7⟩; have k0_7 := k0.below hq7 k0.lt; have hoV0_7 := own_below hoV0 hq7 (Nat.le_refl _); have zhoV0_7 := Nat.le_trans zhoV0 hq7.size; have hox0_7 := hox0.below hq7 (Nat.le_refl _); have zhox0_7 := Nat.le_trans zhox0 hq7.size; have kx0_7 := kx0.below hq7 kx0.lt; have hoG0_7 := own_below hoG0 hq7 (Nat.le_refl _); have zhoG0_7 := Nat.le_trans zhoG0 hq7.size; have hc_7 := hc.trans (hq7.mono (Nat.le_trans hcz hc.size)); have hb_7 := hb.trans (hq7.mono hb.size)) | (go_at_call 16; refine (eqPresence_same _ _ _ _ _ _ _ _ _ _ _ _ _ _ _ _ _ _ _ _ _ _ hox0_7.at_ ho7.at_ hn0).mono ?_; rintro e w19 ⟨rfl, hq8⟩; have k0_8 := k0_7.below hq8 k0_7.lt; have hoV0_8 := own_below hoV0_7 hq8 (Nat.le_refl _); have zhoV0_8 := Nat.le_trans zhoV0_7 hq8.size; have hox0_8 := hox0_7.below hq8 (Nat.le_refl _); have zhox0_8 := Nat.le_trans zhox0_7 hq8.size; have kx0_8 := kx0_7.below hq8 kx0_7.lt; have hoG0_8 := own_below hoG0_7 hq8 (Nat.le_refl _); have zhoG0_8 := Nat.le_trans zhoG0_7 hq8.size; have hc_8 := hc_7.trans (hq8.mono (Nat.le_trans hcz hc_7.size)); have hb_8 := hb_7.trans (hq8.mono hb_7.size))))
    clear k0 h hoV0 hox0 kx0 hoG0 zhoV0 zhox0 zhoG0 hc hb k0_7 hoV0_7 hox0_7 kx0_7 hoG0_7 zhoV0_7 zhox0_7 zhoG0_7 hc_7 hb_7 ho7 hq7 hq8 k0_8
    have hoV0 := hoV0_8
    have hox0 := hox0_8
    have kx0 := kx0_8
    have hoG0 := hoG0_8
    have zhoV0 := zhoV0_8
    have zhox0 := zhox0_8
    have zhoG0 := zhoG0_8
    have hc := hc_8
    have hb := hb_8
    clear hoV0_8 hox0_8 kx0_8 hoG0_8 zhoV0_8 zhox0_8 zhoG0_8 hc_8 hb_8
    have kx0l0 := kx0.cell 0; have kx0l1 := kx0.cell 1; have kx0l2 := kx0.cell 2; have kx0lt := kx0.lt
    go_wp2_with fail
    clear kx0l0 kx0l1 kx0l2 kx0lt
    go_at_call 24; refine (markPresence_mov _ _ _ _ _ _ _ _ _ 1 _ _ _ _ _ _ hox0 shox0.out hn0 (by omega)).mono ?_; rintro e w20 ⟨rfl, hmk, hmv⟩
    have hoV0 := hmv.own hoV0 shoV0.out (.inl ohoV0_hox0.out)
    have zhoV0 := Nat.le_trans zhoV0 hmv.size
    have kx0 := hmv.blk kx0 (.inr ohox0_kx0.out)
    have hoG0 := hmv.own hoG0 shoG0.out (.inr ohox0_hoG0.out)
    have zhoG0 := Nat.le_trans zhoG0 hmv.size
    have hb := hmv.below hb (Nat.le_trans (Nat.le_add_right _ _) bhox0.out) hb.size
    have hc := hmv.below hc bhox0.out (Nat.le_trans hcz hc.size)
    clear hmk hmv
    clear hox0
    have xk : ¬ ((((1 + n1 * 2 + n2 * 2 + n3 * 2) : Nat) : Int) < 0) := by omega
    go_wp2_with fail
    go_at_call 23; refine (eqInt64S_same _ _ _ _ _ _ _ _ _ (Row.of_own_any hoG0) (Row.of_own_any hoV0) HN0.out).mono ?_; rintro e w21 ⟨rfl, hq⟩
    have hbn := drew_below hq
    clear hq
    have hoV0 := own_below hoV0 hbn (Nat.le_refl _)
    have zhoV0 := Nat.le_trans zhoV0 hbn.size
    have kx0 := kx0.below hbn kx0.lt
    have hoG0 := own_below hoG0 hbn (Nat.le_refl _)
    have zhoG0 := Nat.le_trans zhoG0 hbn.size
    have hc := hc.trans (hbn.mono (Nat.le_trans hcz hc.size))
    have hb := hb.trans (hbn.mono hb.size)
    clear hbn
    go_wp2_with fail
    clear kx0
    go_at_call 25; refine (mark_mov _ _ _ 1 _ _ _ _ hoG0 shoG0.out HN0.out (by omega)).mono ?_; rintro e w22 ⟨rfl, hmk, hmv⟩
    have hoV0 := hmv.own hoV0 shoV0.out (.inl ohoV0_hoG0.out)
    have zhoV0 := Nat.le_trans zhoV0 hmv.size
    have hb := hmv.below hb (Nat.le_trans (Nat.le_add_right _ _) bhoG0.out) hb.size
    have hc := hmv.below hc bhoG0.out (Nat.le_trans hcz hc.size)
    have hoG0 := hmk
    have zhoG0 := Nat.le_trans zhoG0 hmv.size
    clear hmk hmv
    go_wp2_with fail
    go_at_call 26; refine (heldInt64S_any _ _ _ 1 _ _ (Row.of_own_any hoG0) HN0.out (by omega)).mono ?_; rintro e w23 ⟨rfl, rfl⟩
    have k00 := k000.below hc (by omega)
    have al0_0 := k00.cell 0
    have al0_1 := k00.cell 1
    have al0_2 := k00.cell 2
    have alt0 := k00.lt
    go_wp2_with fail
    clear al0_0 al0_1 al0_2 alt0 k00
    have h0 := (h00.below hb).more hb.size
    have ohoV0_hoy := Lib.hid zhoV0
    have ohoG0_hoy := Lib.hid zhoG0
    have bhoy := Lib.hid (Nat.le_trans hcz hc.size)
    go_at_call 14; refine (toPresence_any _ _ _ _ _ _ _ _ _ _ _ _ _ h0 hn0).mono ?_; rintro e w24 ⟨y1, y2, y3, rfl, hoy, hbn⟩
    have shoy := Lib.hid (hoy.span)
    have zhoy := Nat.le_refl w24.heap.size
    clear h0
    have hoV0 := own_below hoV0 hbn (Nat.le_refl _)
    have zhoV0 := Nat.le_trans zhoV0 hbn.size
    have hoG0 := own_below hoG0 hbn (Nat.le_refl _)
    have zhoG0 := Nat.le_trans zhoG0 hbn.size
    have hc := hc.trans (hbn.mono (Nat.le_trans hcz hc.size))
    have hb := hb.trans (hbn.mono hb.size)
    clear hbn
    go_wp2_with fail
    have ohoV0_hoH0 := Lib.hid zhoV0
    have ohoG0_hoH0 := Lib.hid zhoG0
    have ohoy_hoH0 := Lib.hid zhoy
    have bhoH0 := Lib.hid (Nat.le_trans hcz hc.size)
    go_at_call 22; refine (impl_HaveRead_any _ _ _ _ _ _ _ _ _ _ _ _ _ _ hoy.at_ hn0).mono ?_; rw [HR1.out]; rintro e w25 ⟨H0A, H0n, H0c, H0z, rfl, hH0z, hoH0, hbn⟩
    obtain rfl : H0n = H0z.length := by simpa using hoH0.1.symm
    have shoH0 := Lib.hid (span_own hoH0)
    have zhoH0 := Nat.le_refl w25.heap.size
    have hoV0 := own_below hoV0 hbn (Nat.le_refl _)
    have zhoV0 := Nat.le_trans zhoV0 hbn.size
    have hoG0 := own_below hoG0 hbn (Nat.le_refl _)
    have zhoG0 := Nat.le_trans zhoG0 hbn.size
    have hoy := hoy.below hbn (Nat.le_refl _)
    have zhoy := Nat.le_trans zhoy hbn.size
    have hc := hc.trans (hbn.mono (Nat.le_trans hcz hc.size))
    have hb := hb.trans (hbn.mono hb.size)
    clear hbn
    clear hoy
    have EH0z := hH0z.trans HV0z.out.symm
    clear hH0z
    subst EH0z
    go_wp2_with fail
    go_at_call 23; refine (eqInt64S_same _ _ _ _ _ _ _ _ _ (Row.of_own_any hoH0) (Row.of_own_any hoV0) HN0.out).mono ?_; rintro e w26 ⟨rfl, hq⟩
    have hbn := drew_below hq
    clear hq
    have hoV0 := own_below hoV0 hbn (Nat.le_refl _)
    have zhoV0 := Nat.le_trans zhoV0 hbn.size
    have hoG0 := own_below hoG0 hbn (Nat.le_refl _)
    have zhoG0 := Nat.le_trans zhoG0 hbn.size
    have hoH0 := own_below hoH0 hbn (Nat.le_refl _)
    have zhoH0 := Nat.le_trans zhoH0 hbn.size
    have hc := hc.trans (hbn.mono (Nat.le_trans hcz hc.size))
    have hb := hb.trans (hbn.mono hb.size)
    clear hbn
    go_wp2_with fail
    go_wp2_with fail
    go_at_call 26; refine (heldInt64S_any _ _ _ 1 _ _ (Row.of_own_any hoG0) HN0.out (by omega)).mono ?_; rintro e w27 ⟨rfl, rfl⟩
    go_wp2
    go_ret
    exact ⟨rfl, hb⟩
  · have hx01 : (n1 : Int) ≤ 9223372036854775807 := by have := hm0.1; unfold maxLen at this; omega
    have hx02 : (n2 : Int) ≤ 9223372036854775807 := by have := hm0.2.1; unfold maxLen at this; omega
    have hx03 : (n3 : Int) ≤ 9223372036854775807 := by have := hm0.2.2; unfold maxLen at this; omega
    go_enter Try.func6, Try.ntmps6
    go_wp2_with fail
    obtain ⟨k000, hb⟩ := one_box w 25 #[.slice A1 n1 c1, .slice A2 n2 c2, .slice A3 n3 c3]
    generalize w.alloc (.cells #[.slice A1 n1 c1, .slice A2 n2 c2, .slice A3 n3 c3] 25) = W1 at *
    have h := (h00.below hb).more hb.size
    go_at_call 12; refine (szPresence_no _ _ _ _ _ _ _ _ _ _ _ (by omega) (by omega) (by omega) hx01 hx02 hx03).mono ?_; rintro e w1 ⟨rfl, hb4⟩
    go_wp2
    go_ret
    exact ⟨rfl, hb.trans (hb4.mono hb.size)⟩

theorem own : ownKnob Try.prog.godebug = none := by kernel_rfl
theorem laidOut : laidOutB Try.prog = true := by kernel_rfl
set_option maxRecDepth 100000 in
theorem lifted (os : Os) (started : os.Started) (H : Type) (enc : TypeId × Value → H) :
    ReturnsInHanded {} Try.checked os 6 .any (Rows.fnExactHaveReadSpec.pre6 enc Try.prog Try.f6 Rows.fnExactHaveReadRow.domain false) (Rows.fnExactHaveReadSpec.post enc Try.prog Try.f6 false true false false) := by
  refine returnsInHanded_of_change (C := Try.checked) own started (by kernel_rfl) Try.func6
    (ChangeSpec.witness6 (enc := enc) (C := Try.checked) false ⟨#[], #[.agg #[.slice none 0 0, .slice none 0 0, .slice none 0 0], .int .i64 0], []⟩ 8 (by kernel_rfl) (by kernel_rfl) (by kernel_rfl) (by kernel_rfl)) ?_
  intro W base args ds gs before hval0 hW hcnd _
  have hval : ∀ (j : Nat) t v, Try.f6.params[j]? = some t → args[j]? = some v → Value.okWide Try.prog W .any base t v := hval0
  have hW' := hW
  obtain ⟨p, q, hA0, hV, rfl, hfz, hnd⟩ := hW
  have hA : DataW.TrodAll enc Try.prog W 0 (fun _ => true) true Try.f6.params.toList args.toList ds p := hA0
  rw [Try.params6] at hA hval
  obtain ⟨v0, vs0, d0, ds0, p0, q0, hargs, rfl, rfl, h0, r0⟩ := trodAll_cons hA
  obtain ⟨v1, vs1, d1, ds1, p1, q1, rfl, rfl, rfl, h1, r1⟩ := trodAll_cons r0
  obtain ⟨rfl, rfl, rfl⟩ := trodAll_nil r1
  obtain rfl : args = #[v0, v1] := by cases args; simp_all
  obtain ⟨rfl, rfl⟩ := trodVars_none hV
  have k0 := h0
  have lt0 : ∀ x ∈ p0, x.block < W.heap.size := by obtain ⟨m, hm⟩ := k0; exact DataW.trod_lt m _ _ _ hm
  obtain ⟨A10, n10, c10, A20, n20, c20, A30, n30, c30, hs0, ts0, ks0, rfl, w0, u0⟩ := open_presence (hval 0 25 v0 rfl rfl) h0
  obtain ⟨a1, rfl, rfl, rfl, w1⟩ := open_int Try.underlying2 (hval 1 2 v1 rfl rfl) h1
  clear hA0 hval0
  refine (walk A10 n10 c10 A20 n20 c20 A30 n30 c30 hs0 ts0 ks0 a1 W w0 u0 w1).mono fun e W' ⟨he, bel⟩ => ?_
  subst he
  exact ⟨_, rfl, _, _, _, [], _, [], hW', trodAll_mk1 (shut_bool Try.underlying4 _), (trodAll_cons_mk (Below.trod laidOut (by kernel_rfl) (of_decide_eq_true (by kernel_rfl)) k0 bel lt0) (trodAll_cons_mk (shut_int Try.underlying2 w1) trodAll_mk0)), rfl, bel.frame _, fun h => by cases h⟩

theorem over : Rows.fnExactHaveReadRow.holds Try.pinned (OpenSpec.ofChange Rows.fnExactHaveReadSpec) :=
  OpenClaim.holds_of_wide 6 Try.f6 rfl rfl rfl rfl rfl rfl rfl ⟨rfl, rfl, rfl, rfl, rfl⟩ rfl rfl rfl rfl rfl (by kernel_rfl) Try.func6 (by kernel_rfl)
    (of_decide_eq_true (by kernel_rfl)) (by unfold Func.isWrapper; first | (rw [if_pos (by decide +kernel)]; kernel_rfl) | (rw [if_neg (by decide +kernel)]; exact ⟨rfl, rfl⟩))
    (fun os started H enc _ => lifted os started H enc)

theorem proved : Rows.FnExactHaveReadSaid := over
#print axioms proved
end Go.Proofs.Ytgomffcdoglbfaa.fnExactHaveRead
