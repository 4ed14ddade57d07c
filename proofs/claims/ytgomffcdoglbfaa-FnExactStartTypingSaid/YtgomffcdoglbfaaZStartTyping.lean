/-
  StartTyping answers as its model for every presence and numbers, leaves its arguments as they were, and its answer is memory of its own: the law returns true for all arguments. No condition.
-/
import Derived.Test.YtgomffcdoglbfaaRows
import Derived.WalkKit
import Derived.ProofKit
import Derived.OpenShut
import Derived.ShutString
import Derived.ChangeOld
import Derived.Below
import Derived.Lib.Hide
import Derived.Deep.RegionHeld3
import Derived.Test.YtgomffcdoglbfaaZSpType
import Derived.Test.YtgomffcdoglbfaaZTypeI
import Derived.Test.YtgomffcdoglbfaaZPresA
namespace Go.Proofs.Ytgomffcdoglbfaa.fnExactStartTyping
open Go.ChangeShapes Go.WideShapes Go.ChangeAt Go.RowKit
open Go.ChangeMaps (open_string shut_string)
set_option linter.unusedVariables false
set_option maxRecDepth 100000
set_option maxHeartbeats 6400000 in
theorem walk (A1 : Option Addr) (n1 c1 : Nat) (A2 : Option Addr) (n2 c2 : Nat) (A3 : Option Addr) (n3 c3 : Nat) (hs ts ks : List Bn) (t : Int) (at_ : Int) (w : World) (h00 : PresAt w w.heap.size A1 n1 A2 n2 A3 n3 hs ts ks) (hm0 : n1 ≤ maxLen ∧ n2 ≤ maxLen ∧ n3 ≤ maxLen) (wft : (Lit.int .i64 t).wf = true) (wfat_ : (Lit.int .i64 at_).wf = true) :
    Calls Try.prog 11 #[.agg #[.slice A1 n1 c1, .slice A2 n2 c2, .slice A3 n3 c3], .int .i64 t, .int .i64 at_] w fun e w' => e = .returned (.bool true) ∧ Below w.heap.size w w' := by
  obtain ⟨r0, hr0⟩ : ∃ z, (giveR (okR hs ts ks (tickB at_ && liveB hs t at_) ⟨hs, tellB ts t (at_ + 6), ks⟩) ⟨hs, tellB ts t (at_ + 6), ks⟩) = z := ⟨_, rfl⟩
  have HR0 := Lib.hid hr0
  clear hr0
  obtain ⟨r1, hr1⟩ : ∃ z, (okR hs ts ks (tickB at_ && liveB hs t at_) ⟨hs, tellB ts t (at_ + 6), ks⟩) = z := ⟨_, rfl⟩
  have HR1 := Lib.hid hr1
  clear hr1
  by_cases hA0 : (0 : Int) ≤ (1048576 : Int) - (n1 : Int) - (n2 : Int) - (n3 : Int)
  · have hn0 : n1 + n2 + n3 ≤ 1048576 := by omega
    go_enter Try.func11, Try.ntmps11
    go_wp2_with fail
    obtain ⟨k000, hb⟩ := one_box w 25 #[.slice A1 n1 c1, .slice A2 n2 c2, .slice A3 n3 c3]
    have hc := Below.refl (w.heap.size + 1) (w.alloc (.cells #[.slice A1 n1 c1, .slice A2 n2 c2, .slice A3 n3 c3] 25))
    have hcz : w.heap.size + 1 ≤ (w.alloc (.cells #[.slice A1 n1 c1, .slice A2 n2 c2, .slice A3 n3 c3] 25)).heap.size := by simp
    generalize w.alloc (.cells #[.slice A1 n1 c1, .slice A2 n2 c2, .slice A3 n3 c3] 25) = W1 at *
    have x0 : ¬ ((1048576 : Int) - (n1 : Int) - (n2 : Int) - (n3 : Int) < 0) := by omega
    have h0 := (h00.below hb).more hb.size
    go_at_call 12; refine (szPresence_ok _ _ _ _ _ _ _ _ _ _ _ (by omega) (by omega)).mono ?_; rintro e w11 ⟨rfl, hbn⟩
    clear h0
    have hc := hc.trans (hbn.mono (Nat.le_trans hcz hc.size))
    have hb := hb.trans (hbn.mono hb.size)
    clear hbn
    have k00 := k000.below hc (by omega)
    have al0_0 := k00.cell 0
    have al0_1 := k00.cell 1
    have al0_2 := k00.cell 2
    have alt0 := k00.lt
    go_wp2_with fail
    clear al0_0 al0_1 al0_2 alt0 k00
    have h0 := (h00.below hb).more hb.size
    have bhoq1 := Lib.hid (Nat.le_trans hcz hc.size)
    go_at_call 14; refine (toPresence_any _ _ _ _ _ _ _ _ _ _ _ _ _ h0 hn0).mono ?_; rintro e w12 ⟨q11, q12, q13, rfl, hoq1, hbn⟩
    have shoq1 := Lib.hid (hoq1.span)
    have zhoq1 := Nat.le_refl w12.heap.size
    clear h0
    have hc := hc.trans (hbn.mono (Nat.le_trans hcz hc.size))
    have hb := hb.trans (hbn.mono hb.size)
    clear hbn
    go_wp2_with fail
    have ohoq1_hoV0 := Lib.hid zhoq1
    have bhoV0 := Lib.hid (Nat.le_trans hcz hc.size)
    go_at_call 40; refine (spec_StartTyping_any _ _ _ _ _ _ _ _ _ _ _ _ _ _ _ hoq1.at_ hn0).mono ?_; rw [HR0.out]; rw [HR1.out]; rintro e w13 ⟨V0A1, V0n1, V0c1, V0A2, V0n2, V0c2, V0A3, V0n3, V0c3, rfl, hoV0, hbn, hfV0⟩
    have shoV0 := Lib.hid (hoV0.span)
    have zhoV0 := Nat.le_refl w13.heap.size
    have hoq1 := hoq1.below hbn (Nat.le_refl _)
    have zhoq1 := Nat.le_trans zhoq1 hbn.size
    have hc := hc.trans (hbn.mono (Nat.le_trans hcz hc.size))
    have hb := hb.trans (hbn.mono hb.size)
    clear hbn
    clear hoq1
    have k00 := k000.below hc (by omega)
    have al0_0 := k00.cell 0; have al0_1 := k00.cell 1; have al0_2 := k00.cell 2; have alt0 := k00.lt
    go_wp2_with fail
    clear al0_0 al0_1 al0_2 alt0 k00
    have ohoV0_kV0 := Lib.hid zhoV0
    have bkV0 := Lib.hid (Nat.le_trans hcz hc.size)
    obtain ⟨kV0, hbn⟩ := one_box w13 31 #[.slice V0A1 V0n1 V0c1, .slice V0A2 V0n2 V0c2, .slice V0A3 V0n3 V0c3]
    generalize w13.alloc (.cells #[.slice V0A1 V0n1 V0c1, .slice V0A2 V0n2 V0c2, .slice V0A3 V0n3 V0c3] 31) = w14 at *
    have hoV0 := hoV0.below hbn (Nat.le_refl _)
    have zhoV0 := Nat.le_trans zhoV0 hbn.size
    have hc := hc.trans (hbn.mono (Nat.le_trans hcz hc.size))
    have hb := hb.trans (hbn.mono hb.size)
    clear hbn
    have h0 := (h00.below hb).more hb.size
    have ohoV0_hox0 := Lib.hid zhoV0
    have okV0_hox0 := Lib.hid kV0.lt
    have bhox0 := Lib.hid (Nat.le_trans hcz hc.size)
    go_at_call 14; refine (toPresence_any _ _ _ _ _ _ _ _ _ _ _ _ _ h0 hn0).mono ?_; rintro e w15 ⟨x01, x02, x03, rfl, hox0, hbn⟩
    have shox0 := Lib.hid (hox0.span)
    have zhox0 := Nat.le_refl w15.heap.size
    clear h0
    have hoV0 := hoV0.below hbn (Nat.le_refl _)
    have zhoV0 := Nat.le_trans zhoV0 hbn.size
    have kV0 := kV0.below hbn kV0.lt
    have hc := hc.trans (hbn.mono (Nat.le_trans hcz hc.size))
    have hb := hb.trans (hbn.mono hb.size)
    clear hbn
    go_wp2_with fail
    have ohoV0_kx0 := Lib.hid zhoV0
    have okV0_kx0 := Lib.hid kV0.lt
    have ohox0_kx0 := Lib.hid zhox0
    have bkx0 := Lib.hid (Nat.le_trans hcz hc.size)
    obtain ⟨kx0, hbn⟩ := one_box w15 31 #[.slice (some ⟨x01, 0, none⟩) n1 n1, .slice (some ⟨x02, 0, none⟩) n2 n2, .slice (some ⟨x03, 0, none⟩) n3 n3]
    generalize w15.alloc (.cells #[.slice (some ⟨x01, 0, none⟩) n1 n1, .slice (some ⟨x02, 0, none⟩) n2 n2, .slice (some ⟨x03, 0, none⟩) n3 n3] 31) = w16 at *
    have hoV0 := hoV0.below hbn (Nat.le_refl _)
    have zhoV0 := Nat.le_trans zhoV0 hbn.size
    have kV0 := kV0.below hbn kV0.lt
    have hox0 := hox0.below hbn (Nat.le_refl _)
    have zhox0 := Nat.le_trans zhox0 hbn.size
    have hc := hc.trans (hbn.mono (Nat.le_trans hcz hc.size))
    have hb := hb.trans (hbn.mono hb.size)
    clear hbn
    have ohoV0_hoG0 := Lib.hid zhoV0
    have okV0_hoG0 := Lib.hid kV0.lt
    have ohox0_hoG0 := Lib.hid zhox0
    have okx0_hoG0 := Lib.hid kx0.lt
    have bhoG0 := Lib.hid (Nat.le_trans hcz hc.size)
    go_at_call 41; refine (impl_StartTyping_any _ _ _ _ _ _ _ _ _ _ _ _ _ _ _ hox0.at_ hn0 wft).mono ?_; rw [HR0.out]; rw [HR1.out]; rintro e w17 ⟨G0A1, G0n1, G0c1, G0A2, G0n2, G0c2, G0A3, G0n3, G0c3, rfl, hoG0, hbn, hfG0⟩
    have shoG0 := Lib.hid (hoG0.span)
    have zhoG0 := Nat.le_refl w17.heap.size
    have hoV0 := hoV0.below hbn (Nat.le_refl _)
    have zhoV0 := Nat.le_trans zhoV0 hbn.size
    have kV0 := kV0.below hbn kV0.lt
    have hox0 := hox0.below hbn (Nat.le_refl _)
    have zhox0 := Nat.le_trans zhox0 hbn.size
    have kx0 := kx0.below hbn kx0.lt
    have hc := hc.trans (hbn.mono (Nat.le_trans hcz hc.size))
    have hb := hb.trans (hbn.mono hb.size)
    clear hbn
    have kV0l0 := kV0.cell 0; have kV0l1 := kV0.cell 1; have kV0l2 := kV0.cell 2; have kV0lt := kV0.lt
    go_wp2_with fail
    clear kV0l0 kV0l1 kV0l2 kV0lt
    have ohoV0_kG0 := Lib.hid zhoV0
    have okV0_kG0 := Lib.hid kV0.lt
    have ohox0_kG0 := Lib.hid zhox0
    have okx0_kG0 := Lib.hid kx0.lt
    have ohoG0_kG0 := Lib.hid zhoG0
    have bkG0 := Lib.hid (Nat.le_trans hcz hc.size)
    obtain ⟨kG0, hbn⟩ := one_box w17 31 #[.slice G0A1 G0n1 G0c1, .slice G0A2 G0n2 G0c2, .slice G0A3 G0n3 G0c3]
    generalize w17.alloc (.cells #[.slice G0A1 G0n1 G0c1, .slice G0A2 G0n2 G0c2, .slice G0A3 G0n3 G0c3] 31) = w18 at *
    have hoV0 := hoV0.below hbn (Nat.le_refl _)
    have zhoV0 := Nat.le_trans zhoV0 hbn.size
    have kV0 := kV0.below hbn kV0.lt
    have hox0 := hox0.below hbn (Nat.le_refl _)
    have zhox0 := Nat.le_trans zhox0 hbn.size
    have kx0 := kx0.below hbn kx0.lt
    have hoG0 := hoG0.below hbn (Nat.le_refl _)
    have zhoG0 := Nat.le_trans zhoG0 hbn.size
    have hc := hc.trans (hbn.mono (Nat.le_trans hcz hc.size))
    have hb := hb.trans (hbn.mono hb.size)
    clear hbn
    go_at_call 16; refine (eqPresence_same _ _ _ _ _ _ _ _ _ _ _ _ _ _ _ _ _ _ _ _ _ _ hoG0.at_ hoV0.at_ hfG0).mono ?_; rintro e w19 ⟨rfl, hbn⟩
    have hoV0 := hoV0.below hbn (Nat.le_refl _)
    have zhoV0 := Nat.le_trans zhoV0 hbn.size
    have kV0 := kV0.below hbn kV0.lt
    have hox0 := hox0.below hbn (Nat.le_refl _)
    have zhox0 := Nat.le_trans zhox0 hbn.size
    have kx0 := kx0.below hbn kx0.lt
    have hoG0 := hoG0.below hbn (Nat.le_refl _)
    have zhoG0 := Nat.le_trans zhoG0 hbn.size
    have kG0 := kG0.below hbn kG0.lt
    have hc := hc.trans (hbn.mono (Nat.le_trans hcz hc.size))
    have hb := hb.trans (hbn.mono hb.size)
    clear hbn
    have kG0l0 := kG0.cell 0; have kG0l1 := kG0.cell 1; have kG0l2 := kG0.cell 2; have kG0lt := kG0.lt
    go_wp2_with fail
    clear kG0l0 kG0l1 kG0l2 kG0lt
    have k00 := k000.below hc (by omega)
    have al0_0 := k00.cell 0; have al0_1 := k00.cell 1; have al0_2 := k00.cell 2; have alt0 := k00.lt
    have kx0l0 := kx0.cell 0; have kx0l1 := kx0.cell 1; have kx0l2 := kx0.cell 2; have kx0lt := kx0.lt
    go_wp2_with fail
    clear kx0l0 kx0l1 kx0l2 kx0lt
    clear al0_0 al0_1 al0_2 alt0 k00
    have hbn : Below w19.heap.size w19 w19.drew := (Below.refl _ _).drew
    have hoV0 := hoV0.below hbn (Nat.le_refl _)
    have zhoV0 := Nat.le_trans zhoV0 hbn.size
    have kV0 := kV0.below hbn kV0.lt
    have hox0 := hox0.below hbn (Nat.le_refl _)
    have zhox0 := Nat.le_trans zhox0 hbn.size
    have kx0 := kx0.below hbn kx0.lt
    have hoG0 := hoG0.below hbn (Nat.le_refl _)
    have zhoG0 := Nat.le_trans zhoG0 hbn.size
    have kG0 := kG0.below hbn kG0.lt
    have hc := hc.trans (hbn.mono (Nat.le_trans hcz hc.size))
    have hb := hb.trans (hbn.mono hb.size)
    clear hbn
    have k0 := k000.below hc (by omega)
    have h : PresAt w19.drew w19.drew.heap.size A1 n1 A2 n2 A3 n3 hs ts ks := (h00.below hb).more hb.size
    go_region_held3 (fun w' => (w'.cell? ⟨w.heap.size, 0, none⟩ = some (.slice A1 n1 c1) ∧ w'.cell? ⟨w.heap.size, 1, none⟩ = some (.slice A2 n2 c2) ∧ w'.cell? ⟨w.heap.size, 2, none⟩ = some (.slice A3 n3 c3)) ∧ (w'.cell? ⟨w15.heap.size, 0, none⟩ = some (.slice (some ⟨x01, 0, none⟩) n1 n1) ∧ w'.cell? ⟨w15.heap.size, 1, none⟩ = some (.slice (some ⟨x02, 0, none⟩) n2 n2) ∧ w'.cell? ⟨w15.heap.size, 2, none⟩ = some (.slice (some ⟨x03, 0, none⟩) n3 n3))) (first | exact ⟨⟨k0_8.cell 0, k0_8.cell 1, k0_8.cell 2⟩, kx0_8.cell 0, kx0_8.cell 1, kx0_8.cell 2⟩ | exact ⟨⟨k0_7.cell 0, k0_7.cell 1, k0_7.cell 2⟩, kx0_7.cell 0, kx0_7.cell 1, kx0_7.cell 2⟩ | exact ⟨⟨k0.cell 0, k0.cell 1, k0.cell 2⟩, kx0.cell 0, kx0.cell 1, kx0.cell 2⟩) ((first | (go_at_call 14; refine (toPresence_any _ _ _ _ _ _ _ _ _ _ _ _ _ h hn0).mono ?_; rintro e w20 ⟨y1, y2, y3, rfl, ho7, hq7⟩; have k0_7 := k0.below hq7 k0.lt; have hoV0_7 := hoV0.below hq7 (Nat.le_refl _); have zhoV0_7 := Nat.le_trans zhoV0 hq7.size; have kV0_7 := kV0.below hq7 kV0.lt; have hox0_7 := hox0.below hq7 (Nat.le_refl _); have zhox0_7 := Nat.le_trans zhox0 hq7.size; have kx0_7 := kx0.below hq7 kx0.lt; have hoG0_7 := hoG0.below hq7 (Nat.le_refl _); have zhoG0_7 := Nat.le_trans zhoG0 hq7.size; have kG0_7 := kG0.below hq7 kG0.lt; have hc_7 := hc.trans (hq7.mono (Nat.le_trans hcz hc.size)); have hb_7 := hb.trans (hq7.mono hb.size)) | (go_at_call 16; refine (eqPresence_same _ _ _ _ _ _ _ _ _ _ _ _ _ _ _ _ _ _ _ _ _ _ hox0_7.at_ ho7.at_ hn0).mono ?_; rintro e w21 ⟨rfl, hq8⟩; have k0_8 := k0_7.below hq8 k0_7.lt; have hoV0_8 := hoV0_7.below hq8 (Nat.le_refl _); have zhoV0_8 := Nat.le_trans zhoV0_7 hq8.size; have kV0_8 := kV0_7.below hq8 kV0_7.lt; have hox0_8 := hox0_7.below hq8 (Nat.le_refl _); have zhox0_8 := Nat.le_trans zhox0_7 hq8.size; have kx0_8 := kx0_7.below hq8 kx0_7.lt; have hoG0_8 := hoG0_7.below hq8 (Nat.le_refl _); have zhoG0_8 := Nat.le_trans zhoG0_7 hq8.size; have kG0_8 := kG0_7.below hq8 kG0_7.lt; have hc_8 := hc_7.trans (hq8.mono (Nat.le_trans hcz hc_7.size)); have hb_8 := hb_7.trans (hq8.mono hb_7.size))))
    clear k0 h hoV0 kV0 hox0 kx0 hoG0 kG0 zhoV0 zhox0 zhoG0 hc hb k0_7 hoV0_7 kV0_7 hox0_7 kx0_7 hoG0_7 kG0_7 zhoV0_7 zhox0_7 zhoG0_7 hc_7 hb_7 ho7 hq7 hq8 k0_8
    have hoV0 := hoV0_8
    have kV0 := kV0_8
    have hox0 := hox0_8
    have kx0 := kx0_8
    have hoG0 := hoG0_8
    have kG0 := kG0_8
    have zhoV0 := zhoV0_8
    have zhox0 := zhox0_8
    have zhoG0 := zhoG0_8
    have hc := hc_8
    have hb := hb_8
    clear hoV0_8 kV0_8 hox0_8 kx0_8 hoG0_8 kG0_8 zhoV0_8 zhox0_8 zhoG0_8 hc_8 hb_8
    have kx0l0 := kx0.cell 0; have kx0l1 := kx0.cell 1; have kx0l2 := kx0.cell 2; have kx0lt := kx0.lt
    go_wp2_with fail
    clear kx0l0 kx0l1 kx0l2 kx0lt
    go_at_call 24; refine (markPresence_mov _ _ _ _ _ _ _ _ _ 1 _ _ _ _ _ _ hox0 shox0.out hn0 (by omega)).mono ?_; rintro e w22 ⟨rfl, hmk, hmv⟩
    have hoV0 := hoV0.moved hmv shoV0.out (.inl ohoV0_hox0.out)
    have zhoV0 := Nat.le_trans zhoV0 hmv.size
    have kV0 := hmv.blk kV0 (.inl okV0_hox0.out)
    have kx0 := hmv.blk kx0 (.inr ohox0_kx0.out)
    have hoG0 := hoG0.moved hmv shoG0.out (.inr ohox0_hoG0.out)
    have zhoG0 := Nat.le_trans zhoG0 hmv.size
    have kG0 := hmv.blk kG0 (.inr ohox0_kG0.out)
    have hb := hmv.below hb (Nat.le_trans (Nat.le_add_right _ _) bhox0.out) hb.size
    have hc := hmv.below hc bhox0.out (Nat.le_trans hcz hc.size)
    clear hmv hmk
    clear hox0
    have xk : ¬ ((((1 + n1 * 2 + n2 * 2 + n3 * 2) : Nat) : Int) < 0) := by omega
    have kG0l0 := kG0.cell 0; have kG0l1 := kG0.cell 1; have kG0l2 := kG0.cell 2; have kG0lt := kG0.lt
    have kV0l0 := kV0.cell 0; have kV0l1 := kV0.cell 1; have kV0l2 := kV0.cell 2; have kV0lt := kV0.lt
    go_wp2_with fail
    clear kG0l0 kG0l1 kG0l2 kG0lt
    clear kV0l0 kV0l1 kV0l2 kV0lt
    go_at_call 16; refine (eqPresence_same _ _ _ _ _ _ _ _ _ _ _ _ _ _ _ _ _ _ _ _ _ _ hoG0.at_ hoV0.at_ hfG0).mono ?_; rintro e w23 ⟨rfl, hbn⟩
    have hoV0 := hoV0.below hbn (Nat.le_refl _)
    have zhoV0 := Nat.le_trans zhoV0 hbn.size
    have kV0 := kV0.below hbn kV0.lt
    have kx0 := kx0.below hbn kx0.lt
    have hoG0 := hoG0.below hbn (Nat.le_refl _)
    have zhoG0 := Nat.le_trans zhoG0 hbn.size
    have kG0 := kG0.below hbn kG0.lt
    have hc := hc.trans (hbn.mono (Nat.le_trans hcz hc.size))
    have hb := hb.trans (hbn.mono hb.size)
    clear hbn
    have kG0l0 := kG0.cell 0; have kG0l1 := kG0.cell 1; have kG0l2 := kG0.cell 2; have kG0lt := kG0.lt
    go_wp2_with fail
    clear kG0l0 kG0l1 kG0l2 kG0lt
    clear kx0
    have kG0l0 := kG0.cell 0; have kG0l1 := kG0.cell 1; have kG0l2 := kG0.cell 2; have kG0lt := kG0.lt
    go_at_call 24; refine (markPresence_mov _ _ _ _ _ _ _ _ _ 1 _ _ _ _ _ _ hoG0 shoG0.out hfG0 (by omega)).mono ?_; rintro e w24 ⟨rfl, hmk, hmv⟩
    clear kG0l0 kG0l1 kG0l2 kG0lt
    have hoV0 := hoV0.moved hmv shoV0.out (.inl ohoV0_hoG0.out)
    have zhoV0 := Nat.le_trans zhoV0 hmv.size
    have kV0 := hmv.blk kV0 (.inl okV0_hoG0.out)
    have kG0 := hmv.blk kG0 (.inr ohoG0_kG0.out)
    have hb := hmv.below hb (Nat.le_trans (Nat.le_add_right _ _) bhoG0.out) hb.size
    have hc := hmv.below hc bhoG0.out (Nat.le_trans hcz hc.size)
    have hoG0 := hmk
    have zhoG0 := Nat.le_trans zhoG0 hmv.size
    clear hmk hmv
    have kG0l0 := kG0.cell 0; have kG0l1 := kG0.cell 1; have kG0l2 := kG0.cell 2; have kG0lt := kG0.lt
    go_wp2_with fail
    clear kG0l0 kG0l1 kG0l2 kG0lt
    go_at_call 35; refine (heldPresence_any _ _ _ _ _ _ _ _ _ 1 _ hoG0.at_ hfG0 (by omega)).mono ?_; rintro e w25 ⟨rfl, hbn⟩
    have hoV0 := hoV0.below hbn (Nat.le_refl _)
    have zhoV0 := Nat.le_trans zhoV0 hbn.size
    have kV0 := kV0.below hbn kV0.lt
    have hoG0 := hoG0.below hbn (Nat.le_refl _)
    have zhoG0 := Nat.le_trans zhoG0 hbn.size
    have kG0 := kG0.below hbn kG0.lt
    have hc := hc.trans (hbn.mono (Nat.le_trans hcz hc.size))
    have hb := hb.trans (hbn.mono hb.size)
    clear hbn
    have k00 := k000.below hc (by omega)
    have al0_0 := k00.cell 0
    have al0_1 := k00.cell 1
    have al0_2 := k00.cell 2
    have alt0 := k00.lt
    go_wp2_with fail
    clear al0_0 al0_1 al0_2 alt0 k00
    have h0 := (h00.below hb).more hb.size
    have ohoV0_hoq2 := Lib.hid zhoV0
    have okV0_hoq2 := Lib.hid kV0.lt
    have ohoG0_hoq2 := Lib.hid zhoG0
    have okG0_hoq2 := Lib.hid kG0.lt
    have bhoq2 := Lib.hid (Nat.le_trans hcz hc.size)
    go_at_call 14; refine (toPresence_any _ _ _ _ _ _ _ _ _ _ _ _ _ h0 hn0).mono ?_; rintro e w26 ⟨q21, q22, q23, rfl, hoq2, hbn⟩
    have shoq2 := Lib.hid (hoq2.span)
    have zhoq2 := Nat.le_refl w26.heap.size
    clear h0
    have hoV0 := hoV0.below hbn (Nat.le_refl _)
    have zhoV0 := Nat.le_trans zhoV0 hbn.size
    have kV0 := kV0.below hbn kV0.lt
    have hoG0 := hoG0.below hbn (Nat.le_refl _)
    have zhoG0 := Nat.le_trans zhoG0 hbn.size
    have kG0 := kG0.below hbn kG0.lt
    have hc := hc.trans (hbn.mono (Nat.le_trans hcz hc.size))
    have hb := hb.trans (hbn.mono hb.size)
    clear hbn
    go_wp2_with fail
    have ohoV0_hoH0 := Lib.hid zhoV0
    have okV0_hoH0 := Lib.hid kV0.lt
    have ohoG0_hoH0 := Lib.hid zhoG0
    have okG0_hoH0 := Lib.hid kG0.lt
    have ohoq2_hoH0 := Lib.hid zhoq2
    have bhoH0 := Lib.hid (Nat.le_trans hcz hc.size)
    go_at_call 41; refine (impl_StartTyping_any _ _ _ _ _ _ _ _ _ _ _ _ _ _ _ hoq2.at_ hn0 wft).mono ?_; rw [HR0.out]; rw [HR1.out]; rintro e w27 ⟨H0A1, H0n1, H0c1, H0A2, H0n2, H0c2, H0A3, H0n3, H0c3, rfl, hoH0, hbn, hfH0⟩
    have shoH0 := Lib.hid (hoH0.span)
    have zhoH0 := Nat.le_refl w27.heap.size
    have hoV0 := hoV0.below hbn (Nat.le_refl _)
    have zhoV0 := Nat.le_trans zhoV0 hbn.size
    have kV0 := kV0.below hbn kV0.lt
    have hoG0 := hoG0.below hbn (Nat.le_refl _)
    have zhoG0 := Nat.le_trans zhoG0 hbn.size
    have kG0 := kG0.below hbn kG0.lt
    have hoq2 := hoq2.below hbn (Nat.le_refl _)
    have zhoq2 := Nat.le_trans zhoq2 hbn.size
    have hc := hc.trans (hbn.mono (Nat.le_trans hcz hc.size))
    have hb := hb.trans (hbn.mono hb.size)
    clear hbn
    clear hoq2
    have kV0l0 := kV0.cell 0; have kV0l1 := kV0.cell 1; have kV0l2 := kV0.cell 2; have kV0lt := kV0.lt
    go_wp2_with fail
    clear kV0l0 kV0l1 kV0l2 kV0lt
    have ohoV0_kH0 := Lib.hid zhoV0
    have okV0_kH0 := Lib.hid kV0.lt
    have ohoG0_kH0 := Lib.hid zhoG0
    have okG0_kH0 := Lib.hid kG0.lt
    have ohoH0_kH0 := Lib.hid zhoH0
    have bkH0 := Lib.hid (Nat.le_trans hcz hc.size)
    obtain ⟨kH0, hbn⟩ := one_box w27 31 #[.slice H0A1 H0n1 H0c1, .slice H0A2 H0n2 H0c2, .slice H0A3 H0n3 H0c3]
    generalize w27.alloc (.cells #[.slice H0A1 H0n1 H0c1, .slice H0A2 H0n2 H0c2, .slice H0A3 H0n3 H0c3] 31) = w28 at *
    have hoV0 := hoV0.below hbn (Nat.le_refl _)
    have zhoV0 := Nat.le_trans zhoV0 hbn.size
    have kV0 := kV0.below hbn kV0.lt
    have hoG0 := hoG0.below hbn (Nat.le_refl _)
    have zhoG0 := Nat.le_trans zhoG0 hbn.size
    have kG0 := kG0.below hbn kG0.lt
    have hoH0 := hoH0.below hbn (Nat.le_refl _)
    have zhoH0 := Nat.le_trans zhoH0 hbn.size
    have hc := hc.trans (hbn.mono (Nat.le_trans hcz hc.size))
    have hb := hb.trans (hbn.mono hb.size)
    clear hbn
    go_at_call 16; refine (eqPresence_same _ _ _ _ _ _ _ _ _ _ _ _ _ _ _ _ _ _ _ _ _ _ hoH0.at_ hoV0.at_ hfH0).mono ?_; rintro e w29 ⟨rfl, hbn⟩
    have hoV0 := hoV0.below hbn (Nat.le_refl _)
    have zhoV0 := Nat.le_trans zhoV0 hbn.size
    have kV0 := kV0.below hbn kV0.lt
    have hoG0 := hoG0.below hbn (Nat.le_refl _)
    have zhoG0 := Nat.le_trans zhoG0 hbn.size
    have kG0 := kG0.below hbn kG0.lt
    have hoH0 := hoH0.below hbn (Nat.le_refl _)
    have zhoH0 := Nat.le_trans zhoH0 hbn.size
    have kH0 := kH0.below hbn kH0.lt
    have hc := hc.trans (hbn.mono (Nat.le_trans hcz hc.size))
    have hb := hb.trans (hbn.mono hb.size)
    clear hbn
    have kG0l0 := kG0.cell 0; have kG0l1 := kG0.cell 1; have kG0l2 := kG0.cell 2; have kG0lt := kG0.lt
    go_wp2_with fail
    clear kG0l0 kG0l1 kG0l2 kG0lt
    have kG0l0 := kG0.cell 0; have kG0l1 := kG0.cell 1; have kG0l2 := kG0.cell 2; have kG0lt := kG0.lt
    go_wp2_with fail
    clear kG0l0 kG0l1 kG0l2 kG0lt
    go_at_call 35; refine (heldPresence_any _ _ _ _ _ _ _ _ _ 1 _ hoG0.at_ hfG0 (by omega)).mono ?_; rintro e w30 ⟨rfl, hbn⟩
    have hoV0 := hoV0.below hbn (Nat.le_refl _)
    have zhoV0 := Nat.le_trans zhoV0 hbn.size
    have kV0 := kV0.below hbn kV0.lt
    have hoG0 := hoG0.below hbn (Nat.le_refl _)
    have zhoG0 := Nat.le_trans zhoG0 hbn.size
    have kG0 := kG0.below hbn kG0.lt
    have hoH0 := hoH0.below hbn (Nat.le_refl _)
    have zhoH0 := Nat.le_trans zhoH0 hbn.size
    have kH0 := kH0.below hbn kH0.lt
    have hc := hc.trans (hbn.mono (Nat.le_trans hcz hc.size))
    have hb := hb.trans (hbn.mono hb.size)
    clear hbn
    go_wp2
    go_ret
    exact ⟨rfl, hb⟩
  · have hx01 : (n1 : Int) ≤ 9223372036854775807 := by have := hm0.1; unfold maxLen at this; omega
    have hx02 : (n2 : Int) ≤ 9223372036854775807 := by have := hm0.2.1; unfold maxLen at this; omega
    have hx03 : (n3 : Int) ≤ 9223372036854775807 := by have := hm0.2.2; unfold maxLen at this; omega
    go_enter Try.func11, Try.ntmps11
    go_wp2_with fail
    obtain ⟨k000, hb⟩ := one_box w 25 #[.slice A1 n1 c1, .slice A2 n2 c2, .slice A3 n3 c3]
    have hc := Below.refl (w.heap.size + 1) (w.alloc (.cells #[.slice A1 n1 c1, .slice A2 n2 c2, .slice A3 n3 c3] 25))
    have hcz : w.heap.size + 1 ≤ (w.alloc (.cells #[.slice A1 n1 c1, .slice A2 n2 c2, .slice A3 n3 c3] 25)).heap.size := by simp
    generalize w.alloc (.cells #[.slice A1 n1 c1, .slice A2 n2 c2, .slice A3 n3 c3] 25) = W1 at *
    have h0 := (h00.below hb).more hb.size
    go_at_call 12; refine (szPresence_no _ _ _ _ _ _ _ _ _ _ _ (by omega) (by omega) (by omega) hx01 hx02 hx03).mono ?_; rintro e w10 ⟨rfl, hb4⟩
    go_wp2
    go_ret
    exact ⟨rfl, hb.trans (hb4.mono hb.size)⟩

theorem own : ownKnob Try.prog.godebug = none := by kernel_rfl
theorem laidOut : laidOutB Try.prog = true := by kernel_rfl
set_option maxRecDepth 100000 in
theorem lifted (os : Os) (started : os.Started) (H : Type) (enc : TypeId × Value → H) :
    ReturnsInHanded {} Try.checked os 11 .any (Rows.fnExactStartTypingSpec.pre6 enc Try.prog Try.f11 Rows.fnExactStartTypingRow.domain false) (Rows.fnExactStartTypingSpec.post enc Try.prog Try.f11 false true false false) := by
  refine returnsInHanded_of_change (C := Try.checked) own started (by kernel_rfl) Try.func11
    (ChangeSpec.witness6 (enc := enc) (C := Try.checked) false ⟨#[], #[.agg #[.slice none 0 0, .slice none 0 0, .slice none 0 0], .int .i64 0, .int .i64 0], []⟩ 8 (by kernel_rfl) (by kernel_rfl) (by kernel_rfl) (by kernel_rfl)) ?_
  intro W base args ds gs before hval0 hW hcnd _
  have hval : ∀ (j : Nat) t v, Try.f11.params[j]? = some t → args[j]? = some v → Value.okWide Try.prog W .any base t v := hval0
  have hW' := hW
  obtain ⟨p, q, hA0, hV, rfl, hfz, hnd⟩ := hW
  have hA : DataW.TrodAll enc Try.prog W 0 (fun _ => true) true Try.f11.params.toList args.toList ds p := hA0
  rw [Try.params11] at hA hval
  obtain ⟨v0, vs0, d0, ds0, p0, q0, hargs, rfl, rfl, h0, r0⟩ := trodAll_cons hA
  obtain ⟨v1, vs1, d1, ds1, p1, q1, rfl, rfl, rfl, h1, r1⟩ := trodAll_cons r0
  obtain ⟨v2, vs2, d2, ds2, p2, q2, rfl, rfl, rfl, h2, r2⟩ := trodAll_cons r1
  obtain ⟨rfl, rfl, rfl⟩ := trodAll_nil r2
  obtain rfl : args = #[v0, v1, v2] := by cases args; simp_all
  obtain ⟨rfl, rfl⟩ := trodVars_none hV
  have k0 := h0
  have lt0 : ∀ x ∈ p0, x.block < W.heap.size := by obtain ⟨m, hm⟩ := k0; exact DataW.trod_lt m _ _ _ hm
  obtain ⟨A10, n10, c10, A20, n20, c20, A30, n30, c30, hs0, ts0, ks0, rfl, w0, u0⟩ := open_presence (hval 0 25 v0 rfl rfl) h0
  obtain ⟨a1, rfl, rfl, rfl, w1⟩ := open_int Try.underlying2 (hval 1 2 v1 rfl rfl) h1
  obtain ⟨a2, rfl, rfl, rfl, w2⟩ := open_int Try.underlying2 (hval 2 2 v2 rfl rfl) h2
  clear hA0 hval0
  refine (walk A10 n10 c10 A20 n20 c20 A30 n30 c30 hs0 ts0 ks0 a1 a2 W w0 u0 w1 w2).mono fun e W' ⟨he, bel⟩ => ?_
  subst he
  exact ⟨_, rfl, _, _, _, [], _, [], hW', trodAll_mk1 (shut_bool Try.underlying4 _), (trodAll_cons_mk (Below.trod laidOut (by kernel_rfl) (of_decide_eq_true (by kernel_rfl)) k0 bel lt0) (trodAll_cons_mk (shut_int Try.underlying2 w1) (trodAll_cons_mk (shut_int Try.underlying2 w2) trodAll_mk0))), rfl, bel.frame _, fun h => by cases h⟩

theorem over : Rows.fnExactStartTypingRow.holds Try.pinned (OpenSpec.ofChange Rows.fnExactStartTypingSpec) :=
  OpenClaim.holds_of_wide 11 Try.f11 rfl rfl rfl rfl rfl rfl rfl ⟨rfl, rfl, rfl, rfl, rfl⟩ rfl rfl rfl rfl rfl (by kernel_rfl) Try.func11 (by kernel_rfl)
    (of_decide_eq_true (by kernel_rfl)) (by unfold Func.isWrapper; first | (rw [if_pos (by decide +kernel)]; kernel_rfl) | (rw [if_neg (by decide +kernel)]; exact ⟨rfl, rfl⟩))
    (fun os started H enc _ => lifted os started H enc)

theorem proved : Rows.FnExactStartTypingSaid := over
#print axioms proved
end Go.Proofs.Ytgomffcdoglbfaa.fnExactStartTyping
