/-
  UnreadOf answers as its model for every presence, log and number, leaves its arguments as they were, and its answer is memory of its own: the law returns true for all arguments. No condition.
-/
import Derived.Test.YtgomffcdoglbfaaRows
import Derived.WalkKit
import Derived.ProofKit
import Derived.OpenShut
import Derived.ShutString
import Derived.ChangeOld
import Derived.Below
import Derived.Lib.Hide
import Derived.Deep.RegionHeld3
import Derived.Test.YtgomffcdoglbfaaZUnrS
import Derived.Test.YtgomffcdoglbfaaZUnrI
import Derived.Test.YtgomffcdoglbfaaZPresA
import Derived.Test.YtgomffcdoglbfaaZMsgA
import Derived.Test.YtgomffcdoglbfaaZLogM
namespace Go.Proofs.Ytgomffcdoglbfaa.fnExactUnreadOf
open Go.ChangeShapes Go.WideShapes Go.ChangeAt Go.RowKit
open Go.ChangeMaps (open_string shut_string)
set_option linter.unusedVariables false
set_option maxRecDepth 100000
set_option maxHeartbeats 6400000 in
theorem walk (A1 : Option Addr) (n1 c1 : Nat) (A2 : Option Addr) (n2 c2 : Nat) (A3 : Option Addr) (n3 c3 : Nat) (hs ts ks : List Bn) (x : Int) (A : Option Addr) (n c : Nat) (rs : List Rm) (t : Int) (w : World) (h00 : PresAt w w.heap.size A1 n1 A2 n2 A3 n3 hs ts ks) (hm0 : n1 ≤ maxLen ∧ n2 ≤ maxLen ∧ n3 ≤ maxLen) (h01 : LogOk w A n rs) (wfx : (Lit.int .i64 x).wf = true) (wft : (Lit.int .i64 t).wf = true) :
    Calls Try.prog 7 #[.agg #[.slice A1 n1 c1, .slice A2 n2 c2, .slice A3 n3 c3], .agg #[.int .i64 x, .slice A n c], .int .i64 t] w fun e w' => e = .returned (.bool true) ∧ Below w.heap.size w w' := by
  obtain ⟨r1, hr1⟩ : ∃ z, ((presB hs ts ks && idB t) && logB x (mgs rs)) = z := ⟨_, rfl⟩
  have HR1 := Lib.hid hr1
  clear hr1
  by_cases hA0 : (0 : Int) ≤ (1048576 : Int) - (n1 : Int) - (n2 : Int) - (n3 : Int)
  · have hn0 : n1 + n2 + n3 ≤ 1048576 := by omega
    by_cases hA1 : (0 : Int) ≤ (1048576 : Int) - (n1 : Int) - (n2 : Int) - (n3 : Int) - (logSize rs : Int)
    · have hn1 : logSize rs ≤ 1048576 := by omega
      have HFIT := Lib.hid (fit_of h01.1 hn1)
      have HSUM := Lib.hid (likeLen_le h01.1 hn1)
      have hnn := fit_n h01.1 HFIT.out
      have HLen0 := Lib.hid (fun (zs : List Int) (b : Bool) (h : zs = if b = true then pickL (unrB (numOf ks t 0) t) (mgs rs) else []) => show zs.length ≤ 1073741824 by subst h; split <;> (have h1 := pick_len_le (unrB (numOf ks t 0) t) (mgs rs); have h2 := HFIT.out.1; simp <;> omega))
      go_enter Try.func7, Try.ntmps7
      go_wp2_with fail
      obtain ⟨k000, k001, hb⟩ := two_boxes w 25 47 #[.slice A1 n1 c1, .slice A2 n2 c2, .slice A3 n3 c3] #[.int .i64 x, .slice A n c]
      have hc := Below.refl (w.heap.size + 2) ((w.alloc (.cells #[.slice A1 n1 c1, .slice A2 n2 c2, .slice A3 n3 c3] 25)).alloc (.cells #[.int .i64 x, .slice A n c] 47))
      have hcz : w.heap.size + 2 ≤ ((w.alloc (.cells #[.slice A1 n1 c1, .slice A2 n2 c2, .slice A3 n3 c3] 25)).alloc (.cells #[.int .i64 x, .slice A n c] 47)).heap.size := by simp
      generalize (w.alloc (.cells #[.slice A1 n1 c1, .slice A2 n2 c2, .slice A3 n3 c3] 25)).alloc (.cells #[.int .i64 x, .slice A n c] 47) = W1 at *
      have x0 : ¬ ((1048576 : Int) - (n1 : Int) - (n2 : Int) - (n3 : Int) < 0) := by omega
      have x1 : ¬ ((1048576 : Int) - (n1 : Int) - (n2 : Int) - (n3 : Int) - (logSize rs : Int) < 0) := by omega
      have h0 := (h00.below hb).more hb.size
      go_at_call 12; refine (szPresence_ok _ _ _ _ _ _ _ _ _ _ _ (by omega) (by omega)).mono ?_; rintro e w11 ⟨rfl, hbn⟩
      clear h0
      have hc := hc.trans (hbn.mono (Nat.le_trans hcz hc.size))
      have hb := hb.trans (hbn.mono hb.size)
      clear hbn
      have k01 := k001.below hc (by omega)
      have al1_0 := k01.cell 0; have al1_1 := k01.cell 1; have alt1 := k01.lt
      go_wp2_with fail
      clear al1_0 al1_1 alt1 k01
      have h1 := (h01.1.below hb).more hb.size
      go_at_call 27; refine (szLog_ok _ _ _ _ _ _ _ h1 (by omega) (by omega)).mono ?_; rintro e w12 ⟨rfl, hbn⟩
      clear h1
      have hc := hc.trans (hbn.mono (Nat.le_trans hcz hc.size))
      have hb := hb.trans (hbn.mono hb.size)
      clear hbn
      have k00 := k000.below hc (by omega)
      have al0_0 := k00.cell 0
      have al0_1 := k00.cell 1
      have al0_2 := k00.cell 2
      have alt0 := k00.lt
      have k01 := k001.below hc (by omega)
      have al1_0 := k01.cell 0
      have al1_1 := k01.cell 1
      have alt1 := k01.lt
      go_wp2_with fail
      clear al0_0 al0_1 al0_2 alt0 k00
      clear al1_0 al1_1 alt1 k01
      have hbn : Below w12.heap.size w12 w12.drew := (Below.refl _ _).drew
      have hc := hc.trans (hbn.mono (Nat.le_trans hcz hc.size))
      have hb := hb.trans (hbn.mono hb.size)
      clear hbn
      have k00 := k000.below hc (by omega); have k01 := k001.below hc (by omega)
      have h0 : PresAt w12.drew w12.drew.heap.size A1 n1 A2 n2 A3 n3 hs ts ks := (h00.below hb).more hb.size; have h1 : LogAt w12.drew w12.drew.heap.size A n rs := (h01.1.below hb).more hb.size
      go_region_held3 (fun w' => (w'.cell? ⟨w.heap.size, 0, none⟩ = some (.slice A1 n1 c1) ∧ w'.cell? ⟨w.heap.size, 1, none⟩ = some (.slice A2 n2 c2) ∧ w'.cell? ⟨w.heap.size, 2, none⟩ = some (.slice A3 n3 c3)) ∧ (w'.cell? ⟨w.heap.size + 1, 0, none⟩ = some (.int .i64 x) ∧ w'.cell? ⟨w.heap.size + 1, 1, none⟩ = some (.slice A n c))) (first | exact ⟨⟨k00_3.cell 0, k00_3.cell 1, k00_3.cell 2⟩, k01_3.cell 0, k01_3.cell 1⟩ | exact ⟨⟨k00_2.cell 0, k00_2.cell 1, k00_2.cell 2⟩, k01_2.cell 0, k01_2.cell 1⟩ | exact ⟨⟨k00_1.cell 0, k00_1.cell 1, k00_1.cell 2⟩, k01_1.cell 0, k01_1.cell 1⟩ | exact ⟨⟨k00.cell 0, k00.cell 1, k00.cell 2⟩, k01.cell 0, k01.cell 1⟩) ((first | (go_at_call 29; refine (toLog_any _ _ _ _ _ _ h1_1 hn1).mono ?_; rintro e w14 ⟨tb, hotbr, rfl, hhotbs, hotb, hq2⟩; have Hhhotbs := Lib.hid hhotbs; clear hhotbs; have k00_2 := k00_1.below hq2 k00_1.lt; have k01_2 := k01_1.below hq2 k01_1.lt; have hota_2 := hota.below hq2 (Nat.le_refl _); have hc_2 := hc_1.trans (hq2.mono (Nat.le_trans hcz hc_1.size)); have hb_2 := hb_1.trans (hq2.mono hb_1.size)) | (go_at_call 14; refine (toPresence_any _ _ _ _ _ _ _ _ _ _ _ _ _ h0 hn0).mono ?_; rintro e w13 ⟨ta1, ta2, ta3, rfl, hota, hq1⟩; have k00_1 := k00.below hq1 k00.lt; have k01_1 := k01.below hq1 k01.lt; have hc_1 := hc.trans (hq1.mono (Nat.le_trans hcz hc.size)); have hb_1 := hb.trans (hq1.mono hb.size); have h1_1 := h1.to hq1) | (go_at_call 28; refine (spec_UnreadOf_any _ _ _ _ _ _ _ _ _ _ _ _ _ _ _ _ _ _ _ hota_2.at_ hn0 hotb.at_ (by rw [Hhhotbs.out]; exact HFIT.out)).mono ?_; rw [Hhhotbs.out]; rw [HR1.out]; rintro e w15 ⟨V0A, V0n, V0c, V0z, rfl, hV0z, hoV0, hq3⟩; have k00_3 := k00_2.below hq3 k00_2.lt; have k01_3 := k01_2.below hq3 k01_2.lt; have hc_3 := hc_2.trans (hq3.mono (Nat.le_trans hcz hc_2.size)); have hb_3 := hb_2.trans (hq3.mono hb_2.size))))
      have bhoV0 := Lib.hid (Nat.le_trans hcz hc_2.size)
      obtain rfl : V0n = V0z.length := by simpa using hoV0.1.symm
      have shoV0 := Lib.hid (span_own hoV0)
      have zhoV0 := Nat.le_refl w15.heap.size
      clear h0 h1 h1_1 hota hotb hota_2 k00 k01 hc hb k00_1 k01_1 hc_1 hb_1 k00_2 k01_2 hc_2 hb_2 hq1 hq2 hq3 Hhhotbs k00_3 k01_3
      have hc := hc_3
      have hb := hb_3
      clear  hc_3 hb_3
      have HN0 := Lib.hid (show V0z.length ≤ 1073741824 from HLen0.out V0z _ hV0z)
      have HV0z := Lib.hid hV0z
      clear hV0z
      have k00 := k000.below hc (by omega)
      have al0_0 := k00.cell 0; have al0_1 := k00.cell 1; have al0_2 := k00.cell 2; have alt0 := k00.lt
      go_wp2_with fail
      clear al0_0 al0_1 al0_2 alt0 k00
      have h0 := (h00.below hb).more hb.size
      have ohoV0_hox0 := Lib.hid zhoV0
      have bhox0 := Lib.hid (Nat.le_trans hcz hc.size)
      go_at_call 14; refine (toPresence_any _ _ _ _ _ _ _ _ _ _ _ _ _ h0 hn0).mono ?_; rintro e w16 ⟨x01, x02, x03, rfl, hox0, hbn⟩
      have shox0 := Lib.hid (hox0.span)
      have zhox0 := Nat.le_refl w16.heap.size
      clear h0
      have hoV0 := own_below hoV0 hbn (Nat.le_refl _)
      have zhoV0 := Nat.le_trans zhoV0 hbn.size
      have hc := hc.trans (hbn.mono (Nat.le_trans hcz hc.size))
      have hb := hb.trans (hbn.mono hb.size)
      clear hbn
      have k01 := k001.below hc (by omega)
      have al1_0 := k01.cell 0; have al1_1 := k01.cell 1; have alt1 := k01.lt
      go_wp2_with fail
      clear al1_0 al1_1 alt1 k01
      have ohoV0_kx0 := Lib.hid zhoV0
      have ohox0_kx0 := Lib.hid zhox0
      have bkx0 := Lib.hid (Nat.le_trans hcz hc.size)
      obtain ⟨kx0, hbn⟩ := one_box w16 31 #[.slice (some ⟨x01, 0, none⟩) n1 n1, .slice (some ⟨x02, 0, none⟩) n2 n2, .slice (some ⟨x03, 0, none⟩) n3 n3]
      generalize w16.alloc (.cells #[.slice (some ⟨x01, 0, none⟩) n1 n1, .slice (some ⟨x02, 0, none⟩) n2 n2, .slice (some ⟨x03, 0, none⟩) n3 n3] 31) = w17 at *
      have hoV0 := own_below hoV0 hbn (Nat.le_refl _)
      have zhoV0 := Nat.le_trans zhoV0 hbn.size
      have hox0 := hox0.below hbn (Nat.le_refl _)
      have zhox0 := Nat.le_trans zhox0 hbn.size
      have hc := hc.trans (hbn.mono (Nat.le_trans hcz hc.size))
      have hb := hb.trans (hbn.mono hb.size)
      clear hbn
      have h1 := (h01.1.below hb).more hb.size
      have ohoV0_hox1 := Lib.hid zhoV0
      have ohox0_hox1 := Lib.hid zhox0
      have okx0_hox1 := Lib.hid kx0.lt
      have bhox1 := Lib.hid (Nat.le_trans hcz hc.size)
      go_at_call 29; refine (toLog_any _ _ _ _ _ _ h1 hn1).mono ?_; rintro e w18 ⟨x1, hox1r, rfl, hhox1s, hox1, hbn⟩
      have Hhhox1s := Lib.hid hhox1s
      clear hhox1s
      have shox1 := Lib.hid (hox1.span)
      have zhox1 := Nat.le_refl w18.heap.size
      clear h1
      have hoV0 := own_below hoV0 hbn (Nat.le_refl _)
      have zhoV0 := Nat.le_trans zhoV0 hbn.size
      have hox0 := hox0.below hbn (Nat.le_refl _)
      have zhox0 := Nat.le_trans zhox0 hbn.size
      have kx0 := kx0.below hbn kx0.lt
      have hc := hc.trans (hbn.mono (Nat.le_trans hcz hc.size))
      have hb := hb.trans (hbn.mono hb.size)
      clear hbn
      have kx0l0 := kx0.cell 0; have kx0l1 := kx0.cell 1; have kx0l2 := kx0.cell 2; have kx0lt := kx0.lt
      go_wp2_with fail
      clear kx0l0 kx0l1 kx0l2 kx0lt
      have ohoV0_kx1 := Lib.hid zhoV0
      have ohox0_kx1 := Lib.hid zhox0
      have okx0_kx1 := Lib.hid kx0.lt
      have ohox1_kx1 := Lib.hid zhox1
      have bkx1 := Lib.hid (Nat.le_trans hcz hc.size)
      obtain ⟨kx1, hbn⟩ := one_box w18 52 #[.int .i64 x, .slice (some ⟨x1, 0, none⟩) n n]
      generalize w18.alloc (.cells #[.int .i64 x, .slice (some ⟨x1, 0, none⟩) n n] 52) = w19 at *
      have hoV0 := own_below hoV0 hbn (Nat.le_refl _)
      have zhoV0 := Nat.le_trans zhoV0 hbn.size
      have hox0 := hox0.below hbn (Nat.le_refl _)
      have zhox0 := Nat.le_trans zhox0 hbn.size
      have kx0 := kx0.below hbn kx0.lt
      have hox1 := hox1.below hbn (Nat.le_refl _)
      have zhox1 := Nat.le_trans zhox1 hbn.size
      have hc := hc.trans (hbn.mono (Nat.le_trans hcz hc.size))
      have hb := hb.trans (hbn.mono hb.size)
      clear hbn
      have ohoV0_hoG0 := Lib.hid zhoV0
      have ohox0_hoG0 := Lib.hid zhox0
      have okx0_hoG0 := Lib.hid kx0.lt
      have ohox1_hoG0 := Lib.hid zhox1
      have okx1_hoG0 := Lib.hid kx1.lt
      have bhoG0 := Lib.hid (Nat.le_trans hcz hc.size)
      go_at_call 30; refine (impl_UnreadOf_any _ _ _ _ _ _ _ _ _ _ _ _ _ _ _ _ _ _ _ hox0.at_ hn0 hox1.at_ (by rw [Hhhox1s.out]; exact HFIT.out) wft).mono ?_; rw [Hhhox1s.out]; rw [HR1.out]; rintro e w20 ⟨G0A, G0n, G0c, G0z, rfl, hG0z, hoG0, hbn⟩
      obtain rfl : G0n = G0z.length := by simpa using hoG0.1.symm
      have shoG0 := Lib.hid (span_own hoG0)
      have zhoG0 := Nat.le_refl w20.heap.size
      have hoV0 := own_below hoV0 hbn (Nat.le_refl _)
      have zhoV0 := Nat.le_trans zhoV0 hbn.size
      have hox0 := hox0.below hbn (Nat.le_refl _)
      have zhox0 := Nat.le_trans zhox0 hbn.size
      have kx0 := kx0.below hbn kx0.lt
      have hox1 := hox1.below hbn (Nat.le_refl _)
      have zhox1 := Nat.le_trans zhox1 hbn.size
      have kx1 := kx1.below hbn kx1.lt
      have hc := hc.trans (hbn.mono (Nat.le_trans hcz hc.size))
      have hb := hb.trans (hbn.mono hb.size)
      clear hbn
      have EG0z : G0z = V0z := hG0z.trans HV0z.out.symm
      clear hG0z
      subst EG0z
      go_wp2_with fail
      go_at_call 23; refine (eqInt64S_same _ _ _ _ _ _ _ _ _ (Row.of_own_any hoG0) (Row.of_own_any hoV0) HN0.out).mono ?_; rintro e w21 ⟨rfl, hq⟩
      have hbn := drew_below hq
      clear hq
      have hoV0 := own_below hoV0 hbn (Nat.le_refl _)
      have zhoV0 := Nat.le_trans zhoV0 hbn.size
      have hox0 := hox0.below hbn (Nat.le_refl _)
      have zhox0 := Nat.le_trans zhox0 hbn.size
      have kx0 := kx0.below hbn kx0.lt
      have hox1 := hox1.below hbn (Nat.le_refl _)
      have zhox1 := Nat.le_trans zhox1 hbn.size
      have kx1 := kx1.below hbn kx1.lt
      have hoG0 := own_below hoG0 hbn (Nat.le_refl _)
      have zhoG0 := Nat.le_trans zhoG0 hbn.size
      have hc := hc.trans (hbn.mono (Nat.le_trans hcz hc.size))
      have hb := hb.trans (hbn.mono hb.size)
      clear hbn
      go_wp2_with fail
      have k00 := k000.below hc (by omega)
      have al0_0 := k00.cell 0; have al0_1 := k00.cell 1; have al0_2 := k00.cell 2; have alt0 := k00.lt
      have kx0l0 := kx0.cell 0; have kx0l1 := kx0.cell 1; have kx0l2 := kx0.cell 2; have kx0lt := kx0.lt
      go_wp2_with fail
      clear kx0l0 kx0l1 kx0l2 kx0lt
      clear al0_0 al0_1 al0_2 alt0 k00
      have hbn : Below w21.heap.size w21 w21.drew := (Below.refl _ _).drew
      have hoV0 := own_below hoV0 hbn (Nat.le_refl _)
      have zhoV0 := Nat.le_trans zhoV0 hbn.size
      have hox0 := hox0.below hbn (Nat.le_refl _)
      have zhox0 := Nat.le_trans zhox0 hbn.size
      have kx0 := kx0.below hbn kx0.lt
      have hox1 := hox1.below hbn (Nat.le_refl _)
      have zhox1 := Nat.le_trans zhox1 hbn.size
      have kx1 := kx1.below hbn kx1.lt
      have hoG0 := own_below hoG0 hbn (Nat.le_refl _)
      have zhoG0 := Nat.le_trans zhoG0 hbn.size
      have hc := hc.trans (hbn.mono (Nat.le_trans hcz hc.size))
      have hb := hb.trans (hbn.mono hb.size)
      clear hbn
      have k0 := k000.below hc (by omega)
      have h : PresAt w21.drew w21.drew.heap.size A1 n1 A2 n2 A3 n3 hs ts ks := (h00.below hb).more hb.size
      go_region_held3 (fun w' => (w'.cell? ⟨w.heap.size, 0, none⟩ = some (.slice A1 n1 c1) ∧ w'.cell? ⟨w.heap.size, 1, none⟩ = some (.slice A2 n2 c2) ∧ w'.cell? ⟨w.heap.size, 2, none⟩ = some (.slice A3 n3 c3)) ∧ (w'.cell? ⟨w16.heap.size, 0, none⟩ = some (.slice (some ⟨x01, 0, none⟩) n1 n1) ∧ w'.cell? ⟨w16.heap.size, 1, none⟩ = some (.slice (some ⟨x02, 0, none⟩) n2 n2) ∧ w'.cell? ⟨w16.heap.size, 2, none⟩ = some (.slice (some ⟨x03, 0, none⟩) n3 n3))) (first | exact ⟨⟨k0_8.cell 0, k0_8.cell 1, k0_8.cell 2⟩, kx0_8.cell 0, kx0_8.cell 1, kx0_8.cell 2⟩ | exact ⟨⟨k0_7.cell 0, k0_7.cell 1, k0_7.cell 2⟩, kx0_7.cell 0, kx0_7.cell 1, kx0_7.cell 2⟩ | exact ⟨⟨k0.cell 0, k0.cell 1, k0.cell 2⟩, kx0.cell 0, kx0.cell 1, kx0.cell 2⟩) ((first | (go_at_call 14; refine (toPresence_any _ _ _ _ _ _ _ _ _ _ _ _ _ h hn0).mono ?_; rintro e w22 ⟨y1, y2, y3, rfl, ho7, hq7⟩; have k0_7 := k0.below hq7 k0.lt; have hoV0_7 := own_below hoV0 hq7 (Nat.le_refl _); have zhoV0_7 := Nat.le_trans zhoV0 hq7.size; have hox0_7 := hox0.below hq7 (Nat.le_refl _); have zhox0_7 := Nat.le_trans zhox0 hq7.size; have kx0_7 := kx0.below hq7 kx0.lt; have hox1_7 := hox1.below hq7 (Nat.le_refl _); have zhox1_7 := Nat.le_trans zhox1 hq7.size; have kx1_7 := kx1.below hq7 kx1.lt; have hoG0_7 := own_below hoG0 hq7 (Nat.le_refl _); have zhoG0_7 := Nat.le_trans zhoG0 hq7.size; have hc_7 := hc.trans (hq7.mono (Nat.le_trans hcz hc.size)); have hb_7 := hb.trans (hq7.mono hb.size)) | (go_at_call 16; refine (eqPresence_same _ _ _ _ _ _ _ _ _ _ _ _ _ _ _ _ _ _ _ _ _ _ hox0_7.at_ ho7.at_ hn0).mono ?_; rintro e w23 ⟨rfl, hq8⟩; have k0_8 := k0_7.below hq8 k0_7.lt; have hoV0_8 := own_below hoV0_7 hq8 (Nat.le_refl _); have zhoV0_8 := Nat.le_trans zhoV0_7 hq8.size; have hox0_8 := hox0_7.below hq8 (Nat.le_refl _); have zhox0_8 := Nat.le_trans zhox0_7 hq8.size; have kx0_8 := kx0_7.below hq8 kx0_7.lt; have hox1_8 := hox1_7.below hq8 (Nat.le_refl _); have zhox1_8 := Nat.le_trans zhox1_7 hq8.size; have kx1_8 := kx1_7.below hq8 kx1_7.lt; have hoG0_8 := own_below hoG0_7 hq8 (Nat.le_refl _); have zhoG0_8 := Nat.le_trans zhoG0_7 hq8.size; have hc_8 := hc_7.trans (hq8.mono (Nat.le_trans hcz hc_7.size)); have hb_8 := hb_7.trans (hq8.mono hb_7.size))))
      clear k0 h hoV0 hox0 kx0 hox1 kx1 hoG0 zhoV0 zhox0 zhox1 zhoG0 hc hb k0_7 hoV0_7 hox0_7 kx0_7 hox1_7 kx1_7 hoG0_7 zhoV0_7 zhox0_7 zhox1_7 zhoG0_7 hc_7 hb_7 ho7 hq7 hq8 k0_8
      have hoV0 := hoV0_8
      have hox0 := hox0_8
      have kx0 := kx0_8
      have hox1 := hox1_8
      have kx1 := kx1_8
      have hoG0 := hoG0_8
      have zhoV0 := zhoV0_8
      have zhox0 := zhox0_8
      have zhox1 := zhox1_8
      have zhoG0 := zhoG0_8
      have hc := hc_8
      have hb := hb_8
      clear hoV0_8 hox0_8 kx0_8 hox1_8 kx1_8 hoG0_8 zhoV0_8 zhox0_8 zhox1_8 zhoG0_8 hc_8 hb_8
      have k01 := k001.below hc (by omega)
      have al1_0 := k01.cell 0; have al1_1 := k01.cell 1; have alt1 := k01.lt
      have kx1l0 := kx1.cell 0; have kx1l1 := kx1.cell 1; have kx1lt := kx1.lt
      go_wp2_with fail
      clear kx1l0 kx1l1 kx1lt
      clear al1_0 al1_1 alt1 k01
      have hbn : Below w23.heap.size w23 w23.drew := (Below.refl _ _).drew
      have hoV0 := own_below hoV0 hbn (Nat.le_refl _)
      have zhoV0 := Nat.le_trans zhoV0 hbn.size
      have hox0 := hox0.below hbn (Nat.le_refl _)
      have zhox0 := Nat.le_trans zhox0 hbn.size
      have kx0 := kx0.below hbn kx0.lt
      have hox1 := hox1.below hbn (Nat.le_refl _)
      have zhox1 := Nat.le_trans zhox1 hbn.size
      have kx1 := kx1.below hbn kx1.lt
      have hoG0 := own_below hoG0 hbn (Nat.le_refl _)
      have zhoG0 := Nat.le_trans zhoG0 hbn.size
      have hc := hc.trans (hbn.mono (Nat.le_trans hcz hc.size))
      have hb := hb.trans (hbn.mono hb.size)
      clear hbn
      have k0 := k001.below hc (by omega)
      have h : LogAt w23.drew w23.drew.heap.size A n rs := (h01.1.below hb).more hb.size
      go_region_held3 (fun w' => (w'.cell? ⟨w.heap.size + 1, 0, none⟩ = some (.int .i64 x) ∧ w'.cell? ⟨w.heap.size + 1, 1, none⟩ = some (.slice A n c)) ∧ (w'.cell? ⟨w18.heap.size, 0, none⟩ = some (.int .i64 x) ∧ w'.cell? ⟨w18.heap.size, 1, none⟩ = some (.slice (some ⟨x1, 0, none⟩) n n))) (first | exact ⟨⟨k0_8.cell 0, k0_8.cell 1⟩, kx1_8.cell 0, kx1_8.cell 1⟩ | exact ⟨⟨k0_7.cell 0, k0_7.cell 1⟩, kx1_7.cell 0, kx1_7.cell 1⟩ | exact ⟨⟨k0.cell 0, k0.cell 1⟩, kx1.cell 0, kx1.cell 1⟩) ((first | (go_at_call 29; refine (toLog_any _ _ _ _ _ _ h hn1).mono ?_; rintro e w24 ⟨y, ho7r, rfl, hho7s, ho7, hq7⟩; have Hhho7s := Lib.hid hho7s; clear hho7s; have k0_7 := k0.below hq7 k0.lt; have hoV0_7 := own_below hoV0 hq7 (Nat.le_refl _); have zhoV0_7 := Nat.le_trans zhoV0 hq7.size; have hox0_7 := hox0.below hq7 (Nat.le_refl _); have zhox0_7 := Nat.le_trans zhox0 hq7.size; have kx0_7 := kx0.below hq7 kx0.lt; have hox1_7 := hox1.below hq7 (Nat.le_refl _); have zhox1_7 := Nat.le_trans zhox1 hq7.size; have kx1_7 := kx1.below hq7 kx1.lt; have hoG0_7 := own_below hoG0 hq7 (Nat.le_refl _); have zhoG0_7 := Nat.le_trans zhoG0 hq7.size; have hc_7 := hc.trans (hq7.mono (Nat.le_trans hcz hc.size)); have hb_7 := hb.trans (hq7.mono hb.size)) | (go_at_call 31; refine (eqLog_same _ _ _ _ _ _ _ _ _ _ hox1_7.at_ ho7.at_ (Hhhox1s.out.trans Hhho7s.out.symm) (by rw [Hhhox1s.out]; exact HFIT.out)).mono ?_; rintro e w25 ⟨rfl, hq8⟩; have k0_8 := k0_7.below hq8 k0_7.lt; have hoV0_8 := own_below hoV0_7 hq8 (Nat.le_refl _); have zhoV0_8 := Nat.le_trans zhoV0_7 hq8.size; have hox0_8 := hox0_7.below hq8 (Nat.le_refl _); have zhox0_8 := Nat.le_trans zhox0_7 hq8.size; have kx0_8 := kx0_7.below hq8 kx0_7.lt; have hox1_8 := hox1_7.below hq8 (Nat.le_refl _); have zhox1_8 := Nat.le_trans zhox1_7 hq8.size; have kx1_8 := kx1_7.below hq8 kx1_7.lt; have hoG0_8 := own_below hoG0_7 hq8 (Nat.le_refl _); have zhoG0_8 := Nat.le_trans zhoG0_7 hq8.size; have hc_8 := hc_7.trans (hq8.mono (Nat.le_trans hcz hc_7.size)); have hb_8 := hb_7.trans (hq8.mono hb_7.size))))
      clear k0 h hoV0 hox0 kx0 hox1 kx1 hoG0 zhoV0 zhox0 zhox1 zhoG0 hc hb k0_7 hoV0_7 hox0_7 kx0_7 hox1_7 kx1_7 hoG0_7 zhoV0_7 zhox0_7 zhox1_7 zhoG0_7 hc_7 hb_7 ho7 hq7 hq8 k0_8 Hhho7s
      have hoV0 := hoV0_8
      have hox0 := hox0_8
      have kx0 := kx0_8
      have hox1 := hox1_8
      have kx1 := kx1_8
      have hoG0 := hoG0_8
      have zhoV0 := zhoV0_8
      have zhox0 := zhox0_8
      have zhox1 := zhox1_8
      have zhoG0 := zhoG0_8
      have hc := hc_8
      have hb := hb_8
      clear hoV0_8 hox0_8 kx0_8 hox1_8 kx1_8 hoG0_8 zhoV0_8 zhox0_8 zhox1_8 zhoG0_8 hc_8 hb_8
      have kx0l0 := kx0.cell 0; have kx0l1 := kx0.cell 1; have kx0l2 := kx0.cell 2; have kx0lt := kx0.lt
      go_wp2_with fail
      clear kx0l0 kx0l1 kx0l2 kx0lt
      go_at_call 24; refine (markPresence_mov _ _ _ _ _ _ _ _ _ 1 _ _ _ _ _ _ hox0 shox0.out hn0 (by omega)).mono ?_; rintro e w26 ⟨rfl, hmk, hmv⟩
      have hoV0 := hmv.own hoV0 shoV0.out (.inl ohoV0_hox0.out)
      have zhoV0 := Nat.le_trans zhoV0 hmv.size
      have kx0 := hmv.blk kx0 (.inr ohox0_kx0.out)
      have hox1 := hox1.moved hmv shox1.out (.inr ohox0_hox1.out)
      have zhox1 := Nat.le_trans zhox1 hmv.size
      have kx1 := hmv.blk kx1 (.inr ohox0_kx1.out)
      have hoG0 := hmv.own hoG0 shoG0.out (.inr ohox0_hoG0.out)
      have zhoG0 := Nat.le_trans zhoG0 hmv.size
      have hb := hmv.below hb (Nat.le_trans (Nat.le_add_right _ _) bhox0.out) hb.size
      have hc := hmv.below hc bhox0.out (Nat.le_trans hcz hc.size)
      clear hmv hmk
      clear hox0
      have kx1l0 := kx1.cell 0; have kx1l1 := kx1.cell 1; have kx1lt := kx1.lt
      go_wp2_with fail
      clear kx1l0 kx1l1 kx1lt
      go_at_call 32; refine (markLog_mov _ _ _ _ (1 + n1 * 2 + n2 * 2 + n3 * 2) _ _ _ _ hox1 shox1.out (by rw [likeSum_mgs hox1.at_, Hhhox1s.out]; exact HSUM.out) hnn (by omega) (by omega)).mono ?_; rintro e w27 ⟨zk, rfl, hzk, hmv⟩
      have hoV0 := hmv.own hoV0 shoV0.out (.inl ohoV0_hox1.out)
      have zhoV0 := Nat.le_trans zhoV0 hmv.size
      have kx0 := hmv.blk kx0 (.inl okx0_hox1.out)
      have kx1 := hmv.blk kx1 (.inr ohox1_kx1.out)
      have hoG0 := hmv.own hoG0 shoG0.out (.inr ohox1_hoG0.out)
      have zhoG0 := Nat.le_trans zhoG0 hmv.size
      have hb := hmv.below hb (Nat.le_trans (Nat.le_add_right _ _) bhox1.out) hb.size
      have hc := hmv.below hc bhox1.out (Nat.le_trans hcz hc.size)
      clear hmv
      clear hox1
      have xk : ¬ (zk < 0) := by omega
      go_wp2_with fail
      go_at_call 23; refine (eqInt64S_same _ _ _ _ _ _ _ _ _ (Row.of_own_any hoG0) (Row.of_own_any hoV0) HN0.out).mono ?_; rintro e w28 ⟨rfl, hq⟩
      have hbn := drew_below hq
      clear hq
      have hoV0 := own_below hoV0 hbn (Nat.le_refl _)
      have zhoV0 := Nat.le_trans zhoV0 hbn.size
      have kx0 := kx0.below hbn kx0.lt
      have kx1 := kx1.below hbn kx1.lt
      have hoG0 := own_below hoG0 hbn (Nat.le_refl _)
      have zhoG0 := Nat.le_trans zhoG0 hbn.size
      have hc := hc.trans (hbn.mono (Nat.le_trans hcz hc.size))
      have hb := hb.trans (hbn.mono hb.size)
      clear hbn
      go_wp2_with fail
      clear kx0
      clear kx1
      go_at_call 25; refine (mark_mov _ _ _ 1 _ _ _ _ hoG0 shoG0.out HN0.out (by omega)).mono ?_; rintro e w29 ⟨rfl, hmk, hmv⟩
      have hoV0 := hmv.own hoV0 shoV0.out (.inl ohoV0_hoG0.out)
      have zhoV0 := Nat.le_trans zhoV0 hmv.size
      have hb := hmv.below hb (Nat.le_trans (Nat.le_add_right _ _) bhoG0.out) hb.size
      have hc := hmv.below hc bhoG0.out (Nat.le_trans hcz hc.size)
      have hoG0 := hmk
      have zhoG0 := Nat.le_trans zhoG0 hmv.size
      clear hmk hmv
      go_wp2_with fail
      go_at_call 26; refine (heldInt64S_any _ _ _ 1 _ _ (Row.of_own_any hoG0) HN0.out (by omega)).mono ?_; rintro e w30 ⟨rfl, rfl⟩
      have k00 := k000.below hc (by omega)
      have al0_0 := k00.cell 0
      have al0_1 := k00.cell 1
      have al0_2 := k00.cell 2
      have alt0 := k00.lt
      have k01 := k001.below hc (by omega)
      have al1_0 := k01.cell 0
      have al1_1 := k01.cell 1
      have alt1 := k01.lt
      go_wp2_with fail
      clear al0_0 al0_1 al0_2 alt0 k00
      clear al1_0 al1_1 alt1 k01
      have hbn : Below w29.heap.size w29 w29.drew := (Below.refl _ _).drew
      have hoV0 := own_below hoV0 hbn (Nat.le_refl _)
      have zhoV0 := Nat.le_trans zhoV0 hbn.size
      have hoG0 := own_below hoG0 hbn (Nat.le_refl _)
      have zhoG0 := Nat.le_trans zhoG0 hbn.size
      have hc := hc.trans (hbn.mono (Nat.le_trans hcz hc.size))
      have hb := hb.trans (hbn.mono hb.size)
      clear hbn
      have k00 := k000.below hc (by omega); have k01 := k001.below hc (by omega)
      have h0 : PresAt w29.drew w29.drew.heap.size A1 n1 A2 n2 A3 n3 hs ts ks := (h00.below hb).more hb.size; have h1 : LogAt w29.drew w29.drew.heap.size A n rs := (h01.1.below hb).more hb.size
      go_region_held3 (fun w' => (w'.cell? ⟨w.heap.size, 0, none⟩ = some (.slice A1 n1 c1) ∧ w'.cell? ⟨w.heap.size, 1, none⟩ = some (.slice A2 n2 c2) ∧ w'.cell? ⟨w.heap.size, 2, none⟩ = some (.slice A3 n3 c3)) ∧ (w'.cell? ⟨w.heap.size + 1, 0, none⟩ = some (.int .i64 x) ∧ w'.cell? ⟨w.heap.size + 1, 1, none⟩ = some (.slice A n c))) (first | exact ⟨⟨k00_3.cell 0, k00_3.cell 1, k00_3.cell 2⟩, k01_3.cell 0, k01_3.cell 1⟩ | exact ⟨⟨k00_2.cell 0, k00_2.cell 1, k00_2.cell 2⟩, k01_2.cell 0, k01_2.cell 1⟩ | exact ⟨⟨k00_1.cell 0, k00_1.cell 1, k00_1.cell 2⟩, k01_1.cell 0, k01_1.cell 1⟩ | exact ⟨⟨k00.cell 0, k00.cell 1, k00.cell 2⟩, k01.cell 0, k01.cell 1⟩) ((first | (go_at_call 29; refine (toLog_any _ _ _ _ _ _ h1_1 hn1).mono ?_; rintro e w32 ⟨yb, hoybr, rfl, hhoybs, hoyb, hq2⟩; have Hhhoybs := Lib.hid hhoybs; clear hhoybs; have k00_2 := k00_1.below hq2 k00_1.lt; have k01_2 := k01_1.below hq2 k01_1.lt; have hoV0_2 := own_below hoV0_1 hq2 (Nat.le_refl _); have zhoV0_2 := Nat.le_trans zhoV0_1 hq2.size; have hoG0_2 := own_below hoG0_1 hq2 (Nat.le_refl _); have zhoG0_2 := Nat.le_trans zhoG0_1 hq2.size; have hoya_2 := hoya.below hq2 (Nat.le_refl _); have hc_2 := hc_1.trans (hq2.mono (Nat.le_trans hcz hc_1.size)); have hb_2 := hb_1.trans (hq2.mono hb_1.size)) | (go_at_call 14; refine (toPresence_any _ _ _ _ _ _ _ _ _ _ _ _ _ h0 hn0).mono ?_; rintro e w31 ⟨ya1, ya2, ya3, rfl, hoya, hq1⟩; have k00_1 := k00.below hq1 k00.lt; have k01_1 := k01.below hq1 k01.lt; have hoV0_1 := own_below hoV0 hq1 (Nat.le_refl _); have zhoV0_1 := Nat.le_trans zhoV0 hq1.size; have hoG0_1 := own_below hoG0 hq1 (Nat.le_refl _); have zhoG0_1 := Nat.le_trans zhoG0 hq1.size; have hc_1 := hc.trans (hq1.mono (Nat.le_trans hcz hc.size)); have hb_1 := hb.trans (hq1.mono hb.size); have h1_1 := h1.to hq1) | (go_at_call 30; refine (impl_UnreadOf_any _ _ _ _ _ _ _ _ _ _ _ _ _ _ _ _ _ _ _ hoya_2.at_ hn0 hoyb.at_ (by rw [Hhhoybs.out]; exact HFIT.out) wft).mono ?_; rw [Hhhoybs.out]; rw [HR1.out]; rintro e w33 ⟨H0A, H0n, H0c, H0z, rfl, hH0z, hoH0, hq3⟩; have k00_3 := k00_2.below hq3 k00_2.lt; have k01_3 := k01_2.below hq3 k01_2.lt; have hoV0_3 := own_below hoV0_2 hq3 (Nat.le_refl _); have zhoV0_3 := Nat.le_trans zhoV0_2 hq3.size; have hoG0_3 := own_below hoG0_2 hq3 (Nat.le_refl _); have zhoG0_3 := Nat.le_trans zhoG0_2 hq3.size; have hc_3 := hc_2.trans (hq3.mono (Nat.le_trans hcz hc_2.size)); have hb_3 := hb_2.trans (hq3.mono hb_2.size))))
      have ohoV0_hoH0 := Lib.hid zhoV0_2
      have ohoG0_hoH0 := Lib.hid zhoG0_2
      have bhoH0 := Lib.hid (Nat.le_trans hcz hc_2.size)
      obtain rfl : H0n = H0z.length := by simpa using hoH0.1.symm
      have shoH0 := Lib.hid (span_own hoH0)
      have zhoH0 := Nat.le_refl w33.heap.size
      clear h0 h1 h1_1 hoya hoyb hoya_2 hoV0 hoG0 zhoV0 zhoG0 k00 k01 hc hb hoV0_1 hoG0_1 zhoV0_1 zhoG0_1 k00_1 k01_1 hc_1 hb_1 hoV0_2 hoG0_2 zhoV0_2 zhoG0_2 k00_2 k01_2 hc_2 hb_2 hq1 hq2 hq3 Hhhoybs k00_3 k01_3
      have hoV0 := hoV0_3
      have hoG0 := hoG0_3
      have zhoV0 := zhoV0_3
      have zhoG0 := zhoG0_3
      have hc := hc_3
      have hb := hb_3
      clear hoV0_3 hoG0_3 zhoV0_3 zhoG0_3 hc_3 hb_3
      have EH0z := hH0z.trans HV0z.out.symm
      clear hH0z
      subst EH0z
      go_wp2_with fail
      go_at_call 23; refine (eqInt64S_same _ _ _ _ _ _ _ _ _ (Row.of_own_any hoH0) (Row.of_own_any hoV0) HN0.out).mono ?_; rintro e w34 ⟨rfl, hq⟩
      have hbn := drew_below hq
      clear hq
      have hoV0 := own_below hoV0 hbn (Nat.le_refl _)
      have zhoV0 := Nat.le_trans zhoV0 hbn.size
      have hoG0 := own_below hoG0 hbn (Nat.le_refl _)
      have zhoG0 := Nat.le_trans zhoG0 hbn.size
      have hoH0 := own_below hoH0 hbn (Nat.le_refl _)
      have zhoH0 := Nat.le_trans zhoH0 hbn.size
      have hc := hc.trans (hbn.mono (Nat.le_trans hcz hc.size))
      have hb := hb.trans (hbn.mono hb.size)
      clear hbn
      go_wp2_with fail
      go_wp2_with fail
      go_at_call 26; refine (heldInt64S_any _ _ _ 1 _ _ (Row.of_own_any hoG0) HN0.out (by omega)).mono ?_; rintro e w35 ⟨rfl, rfl⟩
      go_wp2
      go_ret
      exact ⟨rfl, hb⟩
    · have hx11 : (n : Int) ≤ 9223372036854775807 := by have := h01.2.1; unfold maxLen at this; omega
      go_enter Try.func7, Try.ntmps7
      go_wp2_with fail
      obtain ⟨k000, k001, hb⟩ := two_boxes w 25 47 #[.slice A1 n1 c1, .slice A2 n2 c2, .slice A3 n3 c3] #[.int .i64 x, .slice A n c]
      have hc := Below.refl (w.heap.size + 2) ((w.alloc (.cells #[.slice A1 n1 c1, .slice A2 n2 c2, .slice A3 n3 c3] 25)).alloc (.cells #[.int .i64 x, .slice A n c] 47))
      have hcz : w.heap.size + 2 ≤ ((w.alloc (.cells #[.slice A1 n1 c1, .slice A2 n2 c2, .slice A3 n3 c3] 25)).alloc (.cells #[.int .i64 x, .slice A n c] 47)).heap.size := by simp
      generalize (w.alloc (.cells #[.slice A1 n1 c1, .slice A2 n2 c2, .slice A3 n3 c3] 25)).alloc (.cells #[.int .i64 x, .slice A n c] 47) = W1 at *
      have h0 := (h00.below hb).more hb.size
      have x0 : ¬ ((1048576 : Int) - (n1 : Int) - (n2 : Int) - (n3 : Int) < 0) := by omega
      go_at_call 12; refine (szPresence_ok _ _ _ _ _ _ _ _ _ _ _ (by omega) (by omega)).mono ?_; rintro e w10 ⟨rfl, hbn⟩
      clear h0
      have hc := hc.trans (hbn.mono (Nat.le_trans hcz hc.size))
      have hb := hb.trans (hbn.mono hb.size)
      clear hbn
      have k01 := k001.below hc (by omega)
      have al1_0 := k01.cell 0; have al1_1 := k01.cell 1; have alt1 := k01.lt
      go_wp2_with fail
      clear al1_0 al1_1 alt1 k01
      have h1 := (h01.1.below hb).more hb.size
      go_at_call 27; refine (szLog_no _ _ _ _ _ _ _ h1 (by omega) (by omega) (by omega) hx11 h01.2.2).mono ?_; rintro e w11 ⟨rfl, hb4⟩
      go_wp2
      go_ret
      exact ⟨rfl, hb.trans (hb4.mono hb.size)⟩
  · have hx01 : (n1 : Int) ≤ 9223372036854775807 := by have := hm0.1; unfold maxLen at this; omega
    have hx02 : (n2 : Int) ≤ 9223372036854775807 := by have := hm0.2.1; unfold maxLen at this; omega
    have hx03 : (n3 : Int) ≤ 9223372036854775807 := by have := hm0.2.2; unfold maxLen at this; omega
    go_enter Try.func7, Try.ntmps7
    go_wp2_with fail
    obtain ⟨k000, k001, hb⟩ := two_boxes w 25 47 #[.slice A1 n1 c1, .slice A2 n2 c2, .slice A3 n3 c3] #[.int .i64 x, .slice A n c]
    have hc := Below.refl (w.heap.size + 2) ((w.alloc (.cells #[.slice A1 n1 c1, .slice A2 n2 c2, .slice A3 n3 c3] 25)).alloc (.cells #[.int .i64 x, .slice A n c] 47))
    have hcz : w.heap.size + 2 ≤ ((w.alloc (.cells #[.slice A1 n1 c1, .slice A2 n2 c2, .slice A3 n3 c3] 25)).alloc (.cells #[.int .i64 x, .slice A n c] 47)).heap.size := by simp
    generalize (w.alloc (.cells #[.slice A1 n1 c1, .slice A2 n2 c2, .slice A3 n3 c3] 25)).alloc (.cells #[.int .i64 x, .slice A n c] 47) = W1 at *
    have h0 := (h00.below hb).more hb.size
    go_at_call 12; refine (szPresence_no _ _ _ _ _ _ _ _ _ _ _ (by omega) (by omega) (by omega) hx01 hx02 hx03).mono ?_; rintro e w10 ⟨rfl, hb4⟩
    go_wp2
    go_ret
    exact ⟨rfl, hb.trans (hb4.mono hb.size)⟩

theorem own : ownKnob Try.prog.godebug = none := by kernel_rfl
theorem laidOut : laidOutB Try.prog = true := by kernel_rfl
set_option maxRecDepth 100000 in
theorem lifted (os : Os) (started : os.Started) (H : Type) (enc : TypeId × Value → H) :
    ReturnsInHanded {} Try.checked os 7 .any (Rows.fnExactUnreadOfSpec.pre6 enc Try.prog Try.f7 Rows.fnExactUnreadOfRow.domain false) (Rows.fnExactUnreadOfSpec.post enc Try.prog Try.f7 false true false false) := by
  refine returnsInHanded_of_change (C := Try.checked) own started (by kernel_rfl) Try.func7
    (ChangeSpec.witness6 (enc := enc) (C := Try.checked) false ⟨#[], #[.agg #[.slice none 0 0, .slice none 0 0, .slice none 0 0], .agg #[.int .i64 0, .slice none 0 0], .int .i64 0], []⟩ 8 (by kernel_rfl) (by kernel_rfl) (by kernel_rfl) (by kernel_rfl)) ?_
  intro W base args ds gs before hval0 hW hcnd _
  have hval : ∀ (j : Nat) t v, Try.f7.params[j]? = some t → args[j]? = some v → Value.okWide Try.prog W .any base t v := hval0
  have hW' := hW
  obtain ⟨p, q, hA0, hV, rfl, hfz, hnd⟩ := hW
  have hA : DataW.TrodAll enc Try.prog W 0 (fun _ => true) true Try.f7.params.toList args.toList ds p := hA0
  rw [Try.params7] at hA hval
  obtain ⟨v0, vs0, d0, ds0, p0, q0, hargs, rfl, rfl, h0, r0⟩ := trodAll_cons hA
  obtain ⟨v1, vs1, d1, ds1, p1, q1, rfl, rfl, rfl, h1, r1⟩ := trodAll_cons r0
  obtain ⟨v2, vs2, d2, ds2, p2, q2, rfl, rfl, rfl, h2, r2⟩ := trodAll_cons r1
  obtain ⟨rfl, rfl, rfl⟩ := trodAll_nil r2
  obtain rfl : args = #[v0, v1, v2] := by cases args; simp_all
  obtain ⟨rfl, rfl⟩ := trodVars_none hV
  have k0 := h0
  have lt0 : ∀ x ∈ p0, x.block < W.heap.size := by obtain ⟨m, hm⟩ := k0; exact DataW.trod_lt m _ _ _ hm
  obtain ⟨A10, n10, c10, A20, n20, c20, A30, n30, c30, hs0, ts0, ks0, rfl, w0, u0⟩ := open_presence (hval 0 25 v0 rfl rfl) h0
  have k1 := h1
  have lt1 : ∀ x ∈ p1, x.block < W.heap.size := by obtain ⟨m, hm⟩ := k1; exact DataW.trod_lt m _ _ _ hm
  obtain ⟨x1, A1, n1, c1, rs1, rfl, w1, u1⟩ := open_log (hval 1 47 v1 rfl rfl) h1
  obtain ⟨a2, rfl, rfl, rfl, w2⟩ := open_int Try.underlying2 (hval 2 2 v2 rfl rfl) h2
  clear hA0 hval0
  refine (walk A10 n10 c10 A20 n20 c20 A30 n30 c30 hs0 ts0 ks0 x1 A1 n1 c1 rs1 a2 W w0 u0 w1 u1 w2).mono fun e W' ⟨he, bel⟩ => ?_
  subst he
  exact ⟨_, rfl, _, _, _, [], _, [], hW', trodAll_mk1 (shut_bool Try.underlying4 _), (trodAll_cons_mk (Below.trod laidOut (by kernel_rfl) (of_decide_eq_true (by kernel_rfl)) k0 bel lt0) (trodAll_cons_mk (Below.trod laidOut (by kernel_rfl) (of_decide_eq_true (by kernel_rfl)) k1 bel lt1) (trodAll_cons_mk (shut_int Try.underlying2 w2) trodAll_mk0))), rfl, bel.frame _, fun h => by cases h⟩

theorem over : Rows.fnExactUnreadOfRow.holds Try.pinned (OpenSpec.ofChange Rows.fnExactUnreadOfSpec) :=
  OpenClaim.holds_of_wide 7 Try.f7 rfl rfl rfl rfl rfl rfl rfl ⟨rfl, rfl, rfl, rfl, rfl⟩ rfl rfl rfl rfl rfl (by kernel_rfl) Try.func7 (by kernel_rfl)
    (of_decide_eq_true (by kernel_rfl)) (by unfold Func.isWrapper; first | (rw [if_pos (by decide +kernel)]; kernel_rfl) | (rw [if_neg (by decide +kernel)]; exact ⟨rfl, rfl⟩))
    (fun os started H enc _ => lifted os started H enc)

theorem proved : Rows.FnExactUnreadOfSaid := over
#print axioms proved
end Go.Proofs.Ytgomffcdoglbfaa.fnExactUnreadOf
