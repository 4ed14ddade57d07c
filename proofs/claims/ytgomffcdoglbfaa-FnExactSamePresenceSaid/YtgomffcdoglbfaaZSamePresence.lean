/-
  SamePresence answers as its model for every two presences, and leaves both as they were: the law returns true for every two presences. No condition.
-/
import Derived.Test.YtgomffcdoglbfaaRows
import Derived.WalkKit
import Derived.ProofKit
import Derived.OpenShut
import Derived.ShutString
import Derived.ChangeOld
import Derived.Below
import Derived.Lib.Hide
import Derived.Deep.RegionHeld3
import Derived.Test.YtgomffcdoglbfaaZSamV
import Derived.Test.YtgomffcdoglbfaaZPresA
namespace Go.Proofs.Ytgomffcdoglbfaa.fnExactSamePresence
open Go.ChangeShapes Go.WideShapes Go.ChangeAt Go.RowKit
open Go.ChangeMaps (open_string shut_string)
set_option linter.unusedVariables false
set_option maxRecDepth 100000
set_option maxHeartbeats 6400000 in
theorem walk (A1 : Option Addr) (n1 c1 : Nat) (A2 : Option Addr) (n2 c2 : Nat) (A3 : Option Addr) (n3 c3 : Nat) (hs ts ks : List Bn) (A1' : Option Addr) (n1' c1' : Nat) (A2' : Option Addr) (n2' c2' : Nat) (A3' : Option Addr) (n3' c3' : Nat) (hs' ts' ks' : List Bn) (w : World) (h00 : PresAt w w.heap.size A1 n1 A2 n2 A3 n3 hs ts ks) (hm0 : n1 ≤ maxLen ∧ n2 ≤ maxLen ∧ n3 ≤ maxLen) (h01 : PresAt w w.heap.size A1' n1' A2' n2' A3' n3' hs' ts' ks') (hm1 : n1' ≤ maxLen ∧ n2' ≤ maxLen ∧ n3' ≤ maxLen) :
    Calls Try.prog 4 #[.agg #[.slice A1 n1 c1, .slice A2 n2 c2, .slice A3 n3 c3], .agg #[.slice A1' n1' c1', .slice A2' n2' c2', .slice A3' n3' c3']] w fun e w' => e = .returned (.bool true) ∧ Below w.heap.size w w' := by
  obtain ⟨r0, hr0⟩ : ∃ z, samePB hs hs' ts ts' ks ks' = z := ⟨_, rfl⟩
  have HR0 := Lib.hid hr0
  clear hr0
  by_cases hA0 : (0 : Int) ≤ (1048576 : Int) - (n1 : Int) - (n2 : Int) - (n3 : Int)
  · have hn0 : n1 + n2 + n3 ≤ 1048576 := by omega
    by_cases hA1 : (0 : Int) ≤ (1048576 : Int) - (n1 : Int) - (n2 : Int) - (n3 : Int) - (n1' : Int) - (n2' : Int) - (n3' : Int)
    · have hn1 : n1' + n2' + n3' ≤ 1048576 := by omega
      go_enter Try.func4, Try.ntmps4
      go_wp2_with fail
      obtain ⟨k000, k001, hb⟩ := two_boxes w 25 25 #[.slice A1 n1 c1, .slice A2 n2 c2, .slice A3 n3 c3] #[.slice A1' n1' c1', .slice A2' n2' c2', .slice A3' n3' c3']
      have hc := Below.refl (w.heap.size + 2) ((w.alloc (.cells #[.slice A1 n1 c1, .slice A2 n2 c2, .slice A3 n3 c3] 25)).alloc (.cells #[.slice A1' n1' c1', .slice A2' n2' c2', .slice A3' n3' c3'] 25))
      have hcz : w.heap.size + 2 ≤ ((w.alloc (.cells #[.slice A1 n1 c1, .slice A2 n2 c2, .slice A3 n3 c3] 25)).alloc (.cells #[.slice A1' n1' c1', .slice A2' n2' c2', .slice A3' n3' c3'] 25)).heap.size := by simp
      generalize (w.alloc (.cells #[.slice A1 n1 c1, .slice A2 n2 c2, .slice A3 n3 c3] 25)).alloc (.cells #[.slice A1' n1' c1', .slice A2' n2' c2', .slice A3' n3' c3'] 25) = W1 at *
      have x0 : ¬ ((1048576 : Int) - (n1 : Int) - (n2 : Int) - (n3 : Int) < 0) := by omega
      have x1 : ¬ ((1048576 : Int) - (n1 : Int) - (n2 : Int) - (n3 : Int) - (n1' : Int) - (n2' : Int) - (n3' : Int) < 0) := by omega
      have h0 := (h00.below hb).more hb.size
      go_at_call 12; refine (szPresence_ok _ _ _ _ _ _ _ _ _ _ _ (by omega) (by omega)).mono ?_; rintro e w11 ⟨rfl, hbn⟩
      clear h0
      have hc := hc.trans (hbn.mono (Nat.le_trans hcz hc.size))
      have hb := hb.trans (hbn.mono hb.size)
      clear hbn
      have k01 := k001.below hc (by omega)
      have al1_0 := k01.cell 0; have al1_1 := k01.cell 1; have al1_2 := k01.cell 2; have alt1 := k01.lt
      go_wp2_with fail
      clear al1_0 al1_1 al1_2 alt1 k01
      have h1 := (h01.below hb).more hb.size
      go_at_call 12; refine (szPresence_ok _ _ _ _ _ _ _ _ _ _ _ (by omega) (by omega)).mono ?_; rintro e w12 ⟨rfl, hbn⟩
      clear h1
      have hc := hc.trans (hbn.mono (Nat.le_trans hcz hc.size))
      have hb := hb.trans (hbn.mono hb.size)
      clear hbn
      have k00 := k000.below hc (by omega)
      have al0_0 := k00.cell 0
      have al0_1 := k00.cell 1
      have al0_2 := k00.cell 2
      have alt0 := k00.lt
      have k01 := k001.below hc (by omega)
      have al1_0 := k01.cell 0
      have al1_1 := k01.cell 1
      have al1_2 := k01.cell 2
      have alt1 := k01.lt
      go_wp2_with fail
      clear al0_0 al0_1 al0_2 alt0 k00
      clear al1_0 al1_1 al1_2 alt1 k01
      have hbn : Below w12.heap.size w12 w12.drew := (Below.refl _ _).drew
      have hc := hc.trans (hbn.mono (Nat.le_trans hcz hc.size))
      have hb := hb.trans (hbn.mono hb.size)
      clear hbn
      have k00 := k000.below hc (by omega); have k01 := k001.below hc (by omega)
      have h0 : PresAt w12.drew w12.drew.heap.size A1 n1 A2 n2 A3 n3 hs ts ks := (h00.below hb).more hb.size; have h1 : PresAt w12.drew w12.drew.heap.size A1' n1' A2' n2' A3' n3' hs' ts' ks' := (h01.below hb).more hb.size
      go_region_held3 (fun w' => (w'.cell? ⟨w.heap.size, 0, none⟩ = some (.slice A1 n1 c1) ∧ w'.cell? ⟨w.heap.size, 1, none⟩ = some (.slice A2 n2 c2) ∧ w'.cell? ⟨w.heap.size, 2, none⟩ = some (.slice A3 n3 c3)) ∧ (w'.cell? ⟨w.heap.size + 1, 0, none⟩ = some (.slice A1' n1' c1') ∧ w'.cell? ⟨w.heap.size + 1, 1, none⟩ = some (.slice A2' n2' c2') ∧ w'.cell? ⟨w.heap.size + 1, 2, none⟩ = some (.slice A3' n3' c3'))) (first | exact ⟨⟨k00_3.cell 0, k00_3.cell 1, k00_3.cell 2⟩, k01_3.cell 0, k01_3.cell 1, k01_3.cell 2⟩ | exact ⟨⟨k00_2.cell 0, k00_2.cell 1, k00_2.cell 2⟩, k01_2.cell 0, k01_2.cell 1, k01_2.cell 2⟩ | exact ⟨⟨k00_1.cell 0, k00_1.cell 1, k00_1.cell 2⟩, k01_1.cell 0, k01_1.cell 1, k01_1.cell 2⟩ | exact ⟨⟨k00.cell 0, k00.cell 1, k00.cell 2⟩, k01.cell 0, k01.cell 1, k01.cell 2⟩) ((first | (go_at_call 14; refine (toPresence_any _ _ _ _ _ _ _ _ _ _ _ _ _ h1_1 hn1).mono ?_; rintro e w14 ⟨tb1, tb2, tb3, rfl, hotb, hq2⟩; have k00_2 := k00_1.below hq2 k00_1.lt; have k01_2 := k01_1.below hq2 k01_1.lt; have hota_2 := hota.below hq2 (Nat.le_refl _); have hc_2 := hc_1.trans (hq2.mono (Nat.le_trans hcz hc_1.size)); have hb_2 := hb_1.trans (hq2.mono hb_1.size)) | (go_at_call 14; refine (toPresence_any _ _ _ _ _ _ _ _ _ _ _ _ _ h0 hn0).mono ?_; rintro e w13 ⟨ta1, ta2, ta3, rfl, hota, hq1⟩; have k00_1 := k00.below hq1 k00.lt; have k01_1 := k01.below hq1 k01.lt; have hc_1 := hc.trans (hq1.mono (Nat.le_trans hcz hc.size)); have hb_1 := hb.trans (hq1.mono hb.size); have h1_1 := h1.to hq1) | (go_at_call 17; refine (spec_SamePresence_any _ _ _ _ _ _ _ _ _ _ _ _ _ _ _ _ _ _ _ _ _ _ _ _ _ hota_2.at_ hn0 hotb.at_ hn1).mono ?_; rw [HR0.out]; rintro e w15 ⟨rfl, hq3⟩; have k00_3 := k00_2.below hq3 k00_2.lt; have k01_3 := k01_2.below hq3 k01_2.lt; have hc_3 := hc_2.trans (hq3.mono (Nat.le_trans hcz hc_2.size)); have hb_3 := hb_2.trans (hq3.mono hb_2.size))))
      clear h0 h1 h1_1 hota hotb hota_2 k00 k01 hc hb k00_1 k01_1 hc_1 hb_1 k00_2 k01_2 hc_2 hb_2 hq1 hq2 hq3 k00_3 k01_3
      have hc := hc_3
      have hb := hb_3
      clear  hc_3 hb_3
      have k00 := k000.below hc (by omega)
      have al0_0 := k00.cell 0; have al0_1 := k00.cell 1; have al0_2 := k00.cell 2; have alt0 := k00.lt
      go_wp2_with fail
      clear al0_0 al0_1 al0_2 alt0 k00
      have h0 := (h00.below hb).more hb.size
      have bhox0 := Lib.hid (Nat.le_trans hcz hc.size)
      go_at_call 14; refine (toPresence_any _ _ _ _ _ _ _ _ _ _ _ _ _ h0 hn0).mono ?_; rintro e w16 ⟨x01, x02, x03, rfl, hox0, hbn⟩
      have shox0 := Lib.hid (hox0.span)
      have zhox0 := Nat.le_refl w16.heap.size
      clear h0
      have hc := hc.trans (hbn.mono (Nat.le_trans hcz hc.size))
      have hb := hb.trans (hbn.mono hb.size)
      clear hbn
      have k01 := k001.below hc (by omega)
      have al1_0 := k01.cell 0; have al1_1 := k01.cell 1; have al1_2 := k01.cell 2; have alt1 := k01.lt
      go_wp2_with fail
      clear al1_0 al1_1 al1_2 alt1 k01
      have ohox0_kx0 := Lib.hid zhox0
      have bkx0 := Lib.hid (Nat.le_trans hcz hc.size)
      obtain ⟨kx0, hbn⟩ := one_box w16 31 #[.slice (some ⟨x01, 0, none⟩) n1 n1, .slice (some ⟨x02, 0, none⟩) n2 n2, .slice (some ⟨x03, 0, none⟩) n3 n3]
      generalize w16.alloc (.cells #[.slice (some ⟨x01, 0, none⟩) n1 n1, .slice (some ⟨x02, 0, none⟩) n2 n2, .slice (some ⟨x03, 0, none⟩) n3 n3] 31) = w17 at *
      have hox0 := hox0.below hbn (Nat.le_refl _)
      have zhox0 := Nat.le_trans zhox0 hbn.size
      have hc := hc.trans (hbn.mono (Nat.le_trans hcz hc.size))
      have hb := hb.trans (hbn.mono hb.size)
      clear hbn
      have h1 := (h01.below hb).more hb.size
      have ohox0_hox1 := Lib.hid zhox0
      have okx0_hox1 := Lib.hid kx0.lt
      have bhox1 := Lib.hid (Nat.le_trans hcz hc.size)
      go_at_call 14; refine (toPresence_any _ _ _ _ _ _ _ _ _ _ _ _ _ h1 hn1).mono ?_; rintro e w18 ⟨x11, x12, x13, rfl, hox1, hbn⟩
      have shox1 := Lib.hid (hox1.span)
      have zhox1 := Nat.le_refl w18.heap.size
      clear h1
      have hox0 := hox0.below hbn (Nat.le_refl _)
      have zhox0 := Nat.le_trans zhox0 hbn.size
      have kx0 := kx0.below hbn kx0.lt
      have hc := hc.trans (hbn.mono (Nat.le_trans hcz hc.size))
      have hb := hb.trans (hbn.mono hb.size)
      clear hbn
      have kx0l0 := kx0.cell 0; have kx0l1 := kx0.cell 1; have kx0l2 := kx0.cell 2; have kx0lt := kx0.lt
      go_wp2_with fail
      clear kx0l0 kx0l1 kx0l2 kx0lt
      have ohox0_kx1 := Lib.hid zhox0
      have okx0_kx1 := Lib.hid kx0.lt
      have ohox1_kx1 := Lib.hid zhox1
      have bkx1 := Lib.hid (Nat.le_trans hcz hc.size)
      obtain ⟨kx1, hbn⟩ := one_box w18 31 #[.slice (some ⟨x11, 0, none⟩) n1' n1', .slice (some ⟨x12, 0, none⟩) n2' n2', .slice (some ⟨x13, 0, none⟩) n3' n3']
      generalize w18.alloc (.cells #[.slice (some ⟨x11, 0, none⟩) n1' n1', .slice (some ⟨x12, 0, none⟩) n2' n2', .slice (some ⟨x13, 0, none⟩) n3' n3'] 31) = w19 at *
      have hox0 := hox0.below hbn (Nat.le_refl _)
      have zhox0 := Nat.le_trans zhox0 hbn.size
      have kx0 := kx0.below hbn kx0.lt
      have hox1 := hox1.below hbn (Nat.le_refl _)
      have zhox1 := Nat.le_trans zhox1 hbn.size
      have hc := hc.trans (hbn.mono (Nat.le_trans hcz hc.size))
      have hb := hb.trans (hbn.mono hb.size)
      clear hbn
      go_at_call 18; refine (impl_SamePresence_any _ _ _ _ _ _ _ _ _ _ _ _ _ _ _ _ _ _ _ _ _ _ _ _ _ hox0.at_ hn0 hox1.at_ hn1).mono ?_; rw [HR0.out]; rintro e w20 ⟨rfl, hbn⟩
      have hox0 := hox0.below hbn (Nat.le_refl _)
      have zhox0 := Nat.le_trans zhox0 hbn.size
      have kx0 := kx0.below hbn kx0.lt
      have hox1 := hox1.below hbn (Nat.le_refl _)
      have zhox1 := Nat.le_trans zhox1 hbn.size
      have kx1 := kx1.below hbn kx1.lt
      have hc := hc.trans (hbn.mono (Nat.le_trans hcz hc.size))
      have hb := hb.trans (hbn.mono hb.size)
      clear hbn
      go_wp2_with fail
      have k00 := k000.below hc (by omega)
      have al0_0 := k00.cell 0; have al0_1 := k00.cell 1; have al0_2 := k00.cell 2; have alt0 := k00.lt
      have kx0l0 := kx0.cell 0; have kx0l1 := kx0.cell 1; have kx0l2 := kx0.cell 2; have kx0lt := kx0.lt
      go_wp2_with fail
      clear kx0l0 kx0l1 kx0l2 kx0lt
      clear al0_0 al0_1 al0_2 alt0 k00
      have hbn : Below w20.heap.size w20 w20.drew := (Below.refl _ _).drew
      have hox0 := hox0.below hbn (Nat.le_refl _)
      have zhox0 := Nat.le_trans zhox0 hbn.size
      have kx0 := kx0.below hbn kx0.lt
      have hox1 := hox1.below hbn (Nat.le_refl _)
      have zhox1 := Nat.le_trans zhox1 hbn.size
      have kx1 := kx1.below hbn kx1.lt
      have hc := hc.trans (hbn.mono (Nat.le_trans hcz hc.size))
      have hb := hb.trans (hbn.mono hb.size)
      clear hbn
      have k0 := k000.below hc (by omega)
      have h : PresAt w20.drew w20.drew.heap.size A1 n1 A2 n2 A3 n3 hs ts ks := (h00.below hb).more hb.size
      go_region_held3 (fun w' => (w'.cell? ⟨w.heap.size, 0, none⟩ = some (.slice A1 n1 c1) ∧ w'.cell? ⟨w.heap.size, 1, none⟩ = some (.slice A2 n2 c2) ∧ w'.cell? ⟨w.heap.size, 2, none⟩ = some (.slice A3 n3 c3)) ∧ (w'.cell? ⟨w16.heap.size, 0, none⟩ = some (.slice (some ⟨x01, 0, none⟩) n1 n1) ∧ w'.cell? ⟨w16.heap.size, 1, none⟩ = some (.slice (some ⟨x02, 0, none⟩) n2 n2) ∧ w'.cell? ⟨w16.heap.size, 2, none⟩ = some (.slice (some ⟨x03, 0, none⟩) n3 n3))) (first | exact ⟨⟨k0_8.cell 0, k0_8.cell 1, k0_8.cell 2⟩, kx0_8.cell 0, kx0_8.cell 1, kx0_8.cell 2⟩ | exact ⟨⟨k0_7.cell 0, k0_7.cell 1, k0_7.cell 2⟩, kx0_7.cell 0, kx0_7.cell 1, kx0_7.cell 2⟩ | exact ⟨⟨k0.cell 0, k0.cell 1, k0.cell 2⟩, kx0.cell 0, kx0.cell 1, kx0.cell 2⟩) ((first | (go_at_call 14; refine (toPresence_any _ _ _ _ _ _ _ _ _ _ _ _ _ h hn0).mono ?_; rintro e w21 ⟨y1, y2, y3, rfl, ho7, hq7⟩; have k0_7 := k0.below hq7 k0.lt; have hox0_7 := hox0.below hq7 (Nat.le_refl _); have zhox0_7 := Nat.le_trans zhox0 hq7.size; have kx0_7 := kx0.below hq7 kx0.lt; have hox1_7 := hox1.below hq7 (Nat.le_refl _); have zhox1_7 := Nat.le_trans zhox1 hq7.size; have kx1_7 := kx1.below hq7 kx1.lt; have hc_7 := hc.trans (hq7.mono (Nat.le_trans hcz hc.size)); have hb_7 := hb.trans (hq7.mono hb.size)) | (go_at_call 16; refine (eqPresence_same _ _ _ _ _ _ _ _ _ _ _ _ _ _ _ _ _ _ _ _ _ _ hox0_7.at_ ho7.at_ hn0).mono ?_; rintro e w22 ⟨rfl, hq8⟩; have k0_8 := k0_7.below hq8 k0_7.lt; have hox0_8 := hox0_7.below hq8 (Nat.le_refl _); have zhox0_8 := Nat.le_trans zhox0_7 hq8.size; have kx0_8 := kx0_7.below hq8 kx0_7.lt; have hox1_8 := hox1_7.below hq8 (Nat.le_refl _); have zhox1_8 := Nat.le_trans zhox1_7 hq8.size; have kx1_8 := kx1_7.below hq8 kx1_7.lt; have hc_8 := hc_7.trans (hq8.mono (Nat.le_trans hcz hc_7.size)); have hb_8 := hb_7.trans (hq8.mono hb_7.size))))
      clear k0 h hox0 kx0 hox1 kx1 zhox0 zhox1 hc hb k0_7 hox0_7 kx0_7 hox1_7 kx1_7 zhox0_7 zhox1_7 hc_7 hb_7 ho7 hq7 hq8 k0_8
      have hox0 := hox0_8
      have kx0 := kx0_8
      have hox1 := hox1_8
      have kx1 := kx1_8
      have zhox0 := zhox0_8
      have zhox1 := zhox1_8
      have hc := hc_8
      have hb := hb_8
      clear hox0_8 kx0_8 hox1_8 kx1_8 zhox0_8 zhox1_8 hc_8 hb_8
      have k01 := k001.below hc (by omega)
      have al1_0 := k01.cell 0; have al1_1 := k01.cell 1; have al1_2 := k01.cell 2; have alt1 := k01.lt
      have kx1l0 := kx1.cell 0; have kx1l1 := kx1.cell 1; have kx1l2 := kx1.cell 2; have kx1lt := kx1.lt
      go_wp2_with fail
      clear kx1l0 kx1l1 kx1l2 kx1lt
      clear al1_0 al1_1 al1_2 alt1 k01
      have hbn : Below w22.heap.size w22 w22.drew := (Below.refl _ _).drew
      have hox0 := hox0.below hbn (Nat.le_refl _)
      have zhox0 := Nat.le_trans zhox0 hbn.size
      have kx0 := kx0.below hbn kx0.lt
      have hox1 := hox1.below hbn (Nat.le_refl _)
      have zhox1 := Nat.le_trans zhox1 hbn.size
      have kx1 := kx1.below hbn kx1.lt
      have hc := hc.trans (hbn.mono (Nat.le_trans hcz hc.size))
      have hb := hb.trans (hbn.mono hb.size)
      clear hbn
      have k0 := k001.below hc (by omega)
      have h : PresAt w22.drew w22.drew.heap.size A1' n1' A2' n2' A3' n3' hs' ts' ks' := (h01.below hb).more hb.size
      go_region_held3 (fun w' => (w'.cell? ⟨w.heap.size + 1, 0, none⟩ = some (.slice A1' n1' c1') ∧ w'.cell? ⟨w.heap.size + 1, 1, none⟩ = some (.slice A2' n2' c2') ∧ w'.cell? ⟨w.heap.size + 1, 2, none⟩ = some (.slice A3' n3' c3')) ∧ (w'.cell? ⟨w18.heap.size, 0, none⟩ = some (.slice (some ⟨x11, 0, none⟩) n1' n1') ∧ w'.cell? ⟨w18.heap.size, 1, none⟩ = some (.slice (some ⟨x12, 0, none⟩) n2' n2') ∧ w'.cell? ⟨w18.heap.size, 2, none⟩ = some (.slice (some ⟨x13, 0, none⟩) n3' n3'))) (first | exact ⟨⟨k0_8.cell 0, k0_8.cell 1, k0_8.cell 2⟩, kx1_8.cell 0, kx1_8.cell 1, kx1_8.cell 2⟩ | exact ⟨⟨k0_7.cell 0, k0_7.cell 1, k0_7.cell 2⟩, kx1_7.cell 0, kx1_7.cell 1, kx1_7.cell 2⟩ | exact ⟨⟨k0.cell 0, k0.cell 1, k0.cell 2⟩, kx1.cell 0, kx1.cell 1, kx1.cell 2⟩) ((first | (go_at_call 14; refine (toPresence_any _ _ _ _ _ _ _ _ _ _ _ _ _ h hn1).mono ?_; rintro e w23 ⟨y1, y2, y3, rfl, ho7, hq7⟩; have k0_7 := k0.below hq7 k0.lt; have hox0_7 := hox0.below hq7 (Nat.le_refl _); have zhox0_7 := Nat.le_trans zhox0 hq7.size; have kx0_7 := kx0.below hq7 kx0.lt; have hox1_7 := hox1.below hq7 (Nat.le_refl _); have zhox1_7 := Nat.le_trans zhox1 hq7.size; have kx1_7 := kx1.below hq7 kx1.lt; have hc_7 := hc.trans (hq7.mono (Nat.le_trans hcz hc.size)); have hb_7 := hb.trans (hq7.mono hb.size)) | (go_at_call 16; refine (eqPresence_same _ _ _ _ _ _ _ _ _ _ _ _ _ _ _ _ _ _ _ _ _ _ hox1_7.at_ ho7.at_ hn1).mono ?_; rintro e w24 ⟨rfl, hq8⟩; have k0_8 := k0_7.below hq8 k0_7.lt; have hox0_8 := hox0_7.below hq8 (Nat.le_refl _); have zhox0_8 := Nat.le_trans zhox0_7 hq8.size; have kx0_8 := kx0_7.below hq8 kx0_7.lt; have hox1_8 := hox1_7.below hq8 (Nat.le_refl _); have zhox1_8 := Nat.le_trans zhox1_7 hq8.size; have kx1_8 := kx1_7.below hq8 kx1_7.lt; have hc_8 := hc_7.trans (hq8.mono (Nat.le_trans hcz hc_7.size)); have hb_8 := hb_7.trans (hq8.mono hb_7.size))))
      clear k0 h hox0 kx0 hox1 kx1 zhox0 zhox1 hc hb k0_7 hox0_7 kx0_7 hox1_7 kx1_7 zhox0_7 zhox1_7 hc_7 hb_7 ho7 hq7 hq8 k0_8
      have hox0 := hox0_8
      have kx0 := kx0_8
      have hox1 := hox1_8
      have kx1 := kx1_8
      have zhox0 := zhox0_8
      have zhox1 := zhox1_8
      have hc := hc_8
      have hb := hb_8
      clear hox0_8 kx0_8 hox1_8 kx1_8 zhox0_8 zhox1_8 hc_8 hb_8
      go_wp2
      go_ret
      exact ⟨rfl, hb⟩
    · have hx11 : (n1' : Int) ≤ 9223372036854775807 := by have := hm1.1; unfold maxLen at this; omega
      have hx12 : (n2' : Int) ≤ 9223372036854775807 := by have := hm1.2.1; unfold maxLen at this; omega
      have hx13 : (n3' : Int) ≤ 9223372036854775807 := by have := hm1.2.2; unfold maxLen at this; omega
      go_enter Try.func4, Try.ntmps4
      go_wp2_with fail
      obtain ⟨k000, k001, hb⟩ := two_boxes w 25 25 #[.slice A1 n1 c1, .slice A2 n2 c2, .slice A3 n3 c3] #[.slice A1' n1' c1', .slice A2' n2' c2', .slice A3' n3' c3']
      have hc := Below.refl (w.heap.size + 2) ((w.alloc (.cells #[.slice A1 n1 c1, .slice A2 n2 c2, .slice A3 n3 c3] 25)).alloc (.cells #[.slice A1' n1' c1', .slice A2' n2' c2', .slice A3' n3' c3'] 25))
      have hcz : w.heap.size + 2 ≤ ((w.alloc (.cells #[.slice A1 n1 c1, .slice A2 n2 c2, .slice A3 n3 c3] 25)).alloc (.cells #[.slice A1' n1' c1', .slice A2' n2' c2', .slice A3' n3' c3'] 25)).heap.size := by simp
      generalize (w.alloc (.cells #[.slice A1 n1 c1, .slice A2 n2 c2, .slice A3 n3 c3] 25)).alloc (.cells #[.slice A1' n1' c1', .slice A2' n2' c2', .slice A3' n3' c3'] 25) = W1 at *
      have h0 := (h00.below hb).more hb.size
      have x0 : ¬ ((1048576 : Int) - (n1 : Int) - (n2 : Int) - (n3 : Int) < 0) := by omega
      go_at_call 12; refine (szPresence_ok _ _ _ _ _ _ _ _ _ _ _ (by omega) (by omega)).mono ?_; rintro e w10 ⟨rfl, hbn⟩
      clear h0
      have hc := hc.trans (hbn.mono (Nat.le_trans hcz hc.size))
      have hb := hb.trans (hbn.mono hb.size)
      clear hbn
      have k01 := k001.below hc (by omega)
      have al1_0 := k01.cell 0; have al1_1 := k01.cell 1; have al1_2 := k01.cell 2; have alt1 := k01.lt
      go_wp2_with fail
      clear al1_0 al1_1 al1_2 alt1 k01
      have h1 := (h01.below hb).more hb.size
      go_at_call 12; refine (szPresence_no _ _ _ _ _ _ _ _ _ _ _ (by omega) (by omega) (by omega) hx11 hx12 hx13).mono ?_; rintro e w11 ⟨rfl, hb4⟩
      go_wp2
      go_ret
      exact ⟨rfl, hb.trans (hb4.mono hb.size)⟩
  · have hx01 : (n1 : Int) ≤ 9223372036854775807 := by have := hm0.1; unfold maxLen at this; omega
    have hx02 : (n2 : Int) ≤ 9223372036854775807 := by have := hm0.2.1; unfold maxLen at this; omega
    have hx03 : (n3 : Int) ≤ 9223372036854775807 := by have := hm0.2.2; unfold maxLen at this; omega
    go_enter Try.func4, Try.ntmps4
    go_wp2_with fail
    obtain ⟨k000, k001, hb⟩ := two_boxes w 25 25 #[.slice A1 n1 c1, .slice A2 n2 c2, .slice A3 n3 c3] #[.slice A1' n1' c1', .slice A2' n2' c2', .slice A3' n3' c3']
    have hc := Below.refl (w.heap.size + 2) ((w.alloc (.cells #[.slice A1 n1 c1, .slice A2 n2 c2, .slice A3 n3 c3] 25)).alloc (.cells #[.slice A1' n1' c1', .slice A2' n2' c2', .slice A3' n3' c3'] 25))
    have hcz : w.heap.size + 2 ≤ ((w.alloc (.cells #[.slice A1 n1 c1, .slice A2 n2 c2, .slice A3 n3 c3] 25)).alloc (.cells #[.slice A1' n1' c1', .slice A2' n2' c2', .slice A3' n3' c3'] 25)).heap.size := by simp
    generalize (w.alloc (.cells #[.slice A1 n1 c1, .slice A2 n2 c2, .slice A3 n3 c3] 25)).alloc (.cells #[.slice A1' n1' c1', .slice A2' n2' c2', .slice A3' n3' c3'] 25) = W1 at *
    have h0 := (h00.below hb).more hb.size
    go_at_call 12; refine (szPresence_no _ _ _ _ _ _ _ _ _ _ _ (by omega) (by omega) (by omega) hx01 hx02 hx03).mono ?_; rintro e w10 ⟨rfl, hb4⟩
    go_wp2
    go_ret
    exact ⟨rfl, hb.trans (hb4.mono hb.size)⟩

theorem own : ownKnob Try.prog.godebug = none := by kernel_rfl
theorem laidOut : laidOutB Try.prog = true := by kernel_rfl
set_option maxRecDepth 100000 in
theorem lifted (os : Os) (started : os.Started) (H : Type) (enc : TypeId × Value → H) :
    ReturnsInHanded {} Try.checked os 4 .any (Rows.fnExactSamePresenceSpec.pre6 enc Try.prog Try.f4 Rows.fnExactSamePresenceRow.domain false) (Rows.fnExactSamePresenceSpec.post enc Try.prog Try.f4 false true false false) := by
  refine returnsInHanded_of_change (C := Try.checked) own started (by kernel_rfl) Try.func4
    (ChangeSpec.witness6 (enc := enc) (C := Try.checked) false ⟨#[], #[.agg #[.slice none 0 0, .slice none 0 0, .slice none 0 0], .agg #[.slice none 0 0, .slice none 0 0, .slice none 0 0]], []⟩ 8 (by kernel_rfl) (by kernel_rfl) (by kernel_rfl) (by kernel_rfl)) ?_
  intro W base args ds gs before hval0 hW hcnd _
  have hval : ∀ (j : Nat) t v, Try.f4.params[j]? = some t → args[j]? = some v → Value.okWide Try.prog W .any base t v := hval0
  have hW' := hW
  obtain ⟨p, q, hA0, hV, rfl, hfz, hnd⟩ := hW
  have hA : DataW.TrodAll enc Try.prog W 0 (fun _ => true) true Try.f4.params.toList args.toList ds p := hA0
  rw [Try.params4] at hA hval
  obtain ⟨v0, vs0, d0, ds0, p0, q0, hargs, rfl, rfl, h0, r0⟩ := trodAll_cons hA
  obtain ⟨v1, vs1, d1, ds1, p1, q1, rfl, rfl, rfl, h1, r1⟩ := trodAll_cons r0
  obtain ⟨rfl, rfl, rfl⟩ := trodAll_nil r1
  obtain rfl : args = #[v0, v1] := by cases args; simp_all
  obtain ⟨rfl, rfl⟩ := trodVars_none hV
  have k0 := h0
  have lt0 : ∀ x ∈ p0, x.block < W.heap.size := by obtain ⟨m, hm⟩ := k0; exact DataW.trod_lt m _ _ _ hm
  obtain ⟨A10, n10, c10, A20, n20, c20, A30, n30, c30, hs0, ts0, ks0, rfl, w0, u0⟩ := open_presence (hval 0 25 v0 rfl rfl) h0
  have k1 := h1
  have lt1 : ∀ x ∈ p1, x.block < W.heap.size := by obtain ⟨m, hm⟩ := k1; exact DataW.trod_lt m _ _ _ hm
  obtain ⟨A11, n11, c11, A21, n21, c21, A31, n31, c31, hs1, ts1, ks1, rfl, w1, u1⟩ := open_presence (hval 1 25 v1 rfl rfl) h1
  clear hA0 hval0
  refine (walk A10 n10 c10 A20 n20 c20 A30 n30 c30 hs0 ts0 ks0 A11 n11 c11 A21 n21 c21 A31 n31 c31 hs1 ts1 ks1 W w0 u0 w1 u1).mono fun e W' ⟨he, bel⟩ => ?_
  subst he
  exact ⟨_, rfl, _, _, _, [], _, [], hW', trodAll_mk1 (shut_bool Try.underlying4 _), (trodAll_cons_mk (Below.trod laidOut (by kernel_rfl) (of_decide_eq_true (by kernel_rfl)) k0 bel lt0) (trodAll_cons_mk (Below.trod laidOut (by kernel_rfl) (of_decide_eq_true (by kernel_rfl)) k1 bel lt1) trodAll_mk0)), rfl, bel.frame _, fun h => by cases h⟩

theorem over : Rows.fnExactSamePresenceRow.holds Try.pinned (OpenSpec.ofChange Rows.fnExactSamePresenceSpec) :=
  OpenClaim.holds_of_wide 4 Try.f4 rfl rfl rfl rfl rfl rfl rfl ⟨rfl, rfl, rfl, rfl, rfl⟩ rfl rfl rfl rfl rfl (by kernel_rfl) Try.func4 (by kernel_rfl)
    (of_decide_eq_true (by kernel_rfl)) (by unfold Func.isWrapper; first | (rw [if_pos (by decide +kernel)]; kernel_rfl) | (rw [if_neg (by decide +kernel)]; exact ⟨rfl, rfl⟩))
    (fun os started H enc _ => lifted os started H enc)

theorem proved : Rows.FnExactSamePresenceSaid := over
#print axioms proved
end Go.Proofs.Ytgomffcdoglbfaa.fnExactSamePresence
