/-
  SeenBy answers as its model for every log and numbers, leaves its arguments as they were, and its answer is memory of its own: the law returns true for all arguments. No condition.
-/
import Derived.Test.YtgomffcdoglbfaaDoorRows
import Derived.Test.YtgomffcdoglbfaaDoorTie
import Derived.Test.YtgomffcdoglbfaaDoorCards
import Derived.SevenTiedAt
import Derived.LaidMore
import Derived.Lay
import Derived.Stop.Joined
import Derived.WalkKit
import Derived.ProofKit
import Derived.OpenShut
import Derived.ShutString
import Derived.ChangeOld
import Derived.Below
import Derived.Lib.Hide
import Derived.Deep.RegionHeld3
import Derived.Test.YtgomffcdoglbfaaDoorZSeenS
import Derived.Test.YtgomffcdoglbfaaDoorZSeenI
import Derived.Test.YtgomffcdoglbfaaDoorZMsgA
import Derived.Test.YtgomffcdoglbfaaDoorZLogM
import Derived.Test.YtgomffcdoglbfaaDoorZLaidE
import Derived.Test.YtgomffcdoglbfaaDoorZUnrP
namespace Go.Proofs.YtgomffcdoglbfaaDoor.fnExactSeenBy
open Go.ChangeShapes Go.WideShapes Go.ChangeAt Go.RowKit
open Go.ChangeMaps (open_string shut_string)
set_option linter.unusedVariables false
set_option maxRecDepth 100000
set_option maxHeartbeats 6400000 in
theorem walk_all (a : Addr) (x : Int) (A : Option Addr) (n c : Nat) (rs : List Rm) (t : Int) (s : Int) (w : World) (h00 : LogOk w A n rs) (wfx : (Lit.int .i64 x).wf = true) (wft : (Lit.int .i64 t).wf = true) (wfs : (Lit.int .i64 s).wf = true) (he0 : RefR w a) :
    Calls Tryd.prog 3 #[.agg #[.int .i64 x, .slice A n c], .int .i64 t, .int .i64 s] w fun e w' => e = .returned (.bool true) ∧ Below w.heap.size w w' := by
  obtain ⟨r1, hr1⟩ : ∃ z, (logB x (mgs rs) && (idB t && amtB s)) = z := ⟨_, rfl⟩
  have HR1 := Lib.hid hr1
  clear hr1
  by_cases hA0 : (0 : Int) ≤ (1048576 : Int) - (logSize rs : Int)
  · have hn0 : logSize rs ≤ 1048576 := by omega
    have HFIT := Lib.hid (fit_of h00.1 hn0)
    have HSUM := Lib.hid (likeLen_le h00.1 hn0)
    have hnn := fit_n h00.1 HFIT.out
    have HLen0 := Lib.hid (fun (zs : List Int) (b : Bool) (h : zs = if b = true then seenL t s (mgs rs) else []) => show zs.length ≤ 1073741824 by subst h; split <;> (have h1 : (seenL t s (mgs rs)).length ≤ (mgs rs).length := pick_len_le (seesB t s) (mgs rs); have h2 := HFIT.out.1; simp <;> omega))
    go_enter Tryd.func3, Tryd.ntmps3
    go_wp2_with fail
    obtain ⟨k000, hb⟩ := one_box w 24 #[.int .i64 x, .slice A n c]
    have hc := Below.refl (w.heap.size + 1) (w.alloc (.cells #[.int .i64 x, .slice A n c] 24))
    have hcz : w.heap.size + 1 ≤ (w.alloc (.cells #[.int .i64 x, .slice A n c] 24)).heap.size := by simp
    generalize w.alloc (.cells #[.int .i64 x, .slice A n c] 24) = W1 at *
    have x0 : ¬ ((1048576 : Int) - (logSize rs : Int) < 0) := by omega
    have h0 := (h00.1.below hb).more hb.size
    go_at_call 4; refine (szLog_ok _ _ _ _ _ _ _ h0 (by omega) (by omega)).mono ?_; rintro e w11 ⟨rfl, hbn⟩
    clear h0
    have hc := hc.trans (hbn.mono (Nat.le_trans hcz hc.size))
    have hb := hb.trans (hbn.mono hb.size)
    clear hbn
    have k00 := k000.below hc (by omega)
    have al0_0 := k00.cell 0
    have al0_1 := k00.cell 1
    have alt0 := k00.lt
    go_wp2_with fail
    clear al0_0 al0_1 alt0 k00
    have h0 := (h00.1.below hb).more hb.size
    have bhoq1 := Lib.hid (Nat.le_trans hcz hc.size)
    go_at_call 6; refine (toLog_any _ _ _ _ _ _ h0 hn0).mono ?_; rintro e w12 ⟨q1, hoq1r, rfl, hhoq1s, hoq1, hbn⟩
    have Hhhoq1s := Lib.hid hhoq1s
    clear hhoq1s
    have shoq1 := Lib.hid (hoq1.span)
    have zhoq1 := Nat.le_refl w12.heap.size
    clear h0
    have hc := hc.trans (hbn.mono (Nat.le_trans hcz hc.size))
    have hb := hb.trans (hbn.mono hb.size)
    clear hbn
    go_wp2_with fail
    have ohoq1_hoV0 := Lib.hid zhoq1
    have bhoV0 := Lib.hid (Nat.le_trans hcz hc.size)
    go_at_call 5; refine (spec_SeenBy_any _ _ _ _ _ _ _ _ hoq1.at_ (by rw [Hhhoq1s.out]; exact HFIT.out)).mono ?_; rw [Hhhoq1s.out]; rw [HR1.out]; rintro e w13 ⟨V0A, V0n, V0c, V0z, rfl, hV0z, hoV0, hbn⟩
    obtain rfl : V0n = V0z.length := by simpa using hoV0.1.symm
    have shoV0 := Lib.hid (span_own hoV0)
    have zhoV0 := Nat.le_refl w13.heap.size
    have hoq1 := hoq1.below hbn (Nat.le_refl _)
    have zhoq1 := Nat.le_trans zhoq1 hbn.size
    have hc := hc.trans (hbn.mono (Nat.le_trans hcz hc.size))
    have hb := hb.trans (hbn.mono hb.size)
    clear hbn
    clear hoq1
    have HN0 := Lib.hid (show V0z.length ≤ 1073741824 from HLen0.out V0z _ hV0z)
    have HV0z := Lib.hid hV0z
    clear hV0z
    have k00 := k000.below hc (by omega)
    have al0_0 := k00.cell 0; have al0_1 := k00.cell 1; have alt0 := k00.lt
    go_wp2_with fail
    clear al0_0 al0_1 alt0 k00
    have h0 := (h00.1.below hb).more hb.size
    have ohoV0_hox0 := Lib.hid zhoV0
    have bhox0 := Lib.hid (Nat.le_trans hcz hc.size)
    go_at_call 6; refine (toLog_any _ _ _ _ _ _ h0 hn0).mono ?_; rintro e w14 ⟨x0, hox0r, rfl, hhox0s, hox0, hbn⟩
    have Hhhox0s := Lib.hid hhox0s
    clear hhox0s
    have shox0 := Lib.hid (hox0.span)
    have zhox0 := Nat.le_refl w14.heap.size
    clear h0
    have hoV0 := own_below hoV0 hbn (Nat.le_refl _)
    have zhoV0 := Nat.le_trans zhoV0 hbn.size
    have hc := hc.trans (hbn.mono (Nat.le_trans hcz hc.size))
    have hb := hb.trans (hbn.mono hb.size)
    clear hbn
    go_wp2_with fail
    have ohoV0_kx0 := Lib.hid zhoV0
    have ohox0_kx0 := Lib.hid zhox0
    have bkx0 := Lib.hid (Nat.le_trans hcz hc.size)
    obtain ⟨kx0, hbn⟩ := one_box w14 31 #[.int .i64 x, .slice (some ⟨x0, 0, none⟩) n n]
    generalize w14.alloc (.cells #[.int .i64 x, .slice (some ⟨x0, 0, none⟩) n n] 31) = w15 at *
    have hoV0 := own_below hoV0 hbn (Nat.le_refl _)
    have zhoV0 := Nat.le_trans zhoV0 hbn.size
    have hox0 := hox0.below hbn (Nat.le_refl _)
    have zhox0 := Nat.le_trans zhox0 hbn.size
    have hc := hc.trans (hbn.mono (Nat.le_trans hcz hc.size))
    have hb := hb.trans (hbn.mono hb.size)
    clear hbn
    have ohoV0_hoG0 := Lib.hid zhoV0
    have ohox0_hoG0 := Lib.hid zhox0
    have okx0_hoG0 := Lib.hid kx0.lt
    have bhoG0 := Lib.hid (Nat.le_trans hcz hc.size)
    go_at_call 7; refine (impl_SeenBy_any _ _ _ _ _ _ _ _ _ hox0.at_ (by rw [Hhhox0s.out]; exact HFIT.out) (he0.below hb)).mono ?_; rw [Hhhox0s.out]; rw [HR1.out]; rintro e w16 ⟨G0A, G0n, G0c, G0z, rfl, hG0z, hoG0, hbn⟩
    obtain rfl : G0n = G0z.length := by simpa using hoG0.1.symm
    have shoG0 := Lib.hid (span_own hoG0)
    have zhoG0 := Nat.le_refl w16.heap.size
    have hoV0 := own_below hoV0 hbn (Nat.le_refl _)
    have zhoV0 := Nat.le_trans zhoV0 hbn.size
    have hox0 := hox0.below hbn (Nat.le_refl _)
    have zhox0 := Nat.le_trans zhox0 hbn.size
    have kx0 := kx0.below hbn kx0.lt
    have hc := hc.trans (hbn.mono (Nat.le_trans hcz hc.size))
    have hb := hb.trans (hbn.mono hb.size)
    clear hbn
    have EG0z : G0z = V0z := hG0z.trans HV0z.out.symm
    clear hG0z
    subst EG0z
    go_wp2_with fail
    go_at_call 8; refine (eqInt64S_same _ _ _ _ _ _ _ _ _ (Row.of_own_any hoG0) (Row.of_own_any hoV0) HN0.out).mono ?_; rintro e w17 ⟨rfl, hq⟩
    have hbn := drew_below hq
    clear hq
    have hoV0 := own_below hoV0 hbn (Nat.le_refl _)
    have zhoV0 := Nat.le_trans zhoV0 hbn.size
    have hox0 := hox0.below hbn (Nat.le_refl _)
    have zhox0 := Nat.le_trans zhox0 hbn.size
    have kx0 := kx0.below hbn kx0.lt
    have hoG0 := own_below hoG0 hbn (Nat.le_refl _)
    have zhoG0 := Nat.le_trans zhoG0 hbn.size
    have hc := hc.trans (hbn.mono (Nat.le_trans hcz hc.size))
    have hb := hb.trans (hbn.mono hb.size)
    clear hbn
    go_wp2_with fail
    have k00 := k000.below hc (by omega)
    have al0_0 := k00.cell 0; have al0_1 := k00.cell 1; have alt0 := k00.lt
    have kx0l0 := kx0.cell 0; have kx0l1 := kx0.cell 1; have kx0lt := kx0.lt
    go_wp2_with fail
    clear kx0l0 kx0l1 kx0lt
    clear al0_0 al0_1 alt0 k00
    have hbn : Below w17.heap.size w17 w17.drew := (Below.refl _ _).drew
    have hoV0 := own_below hoV0 hbn (Nat.le_refl _)
    have zhoV0 := Nat.le_trans zhoV0 hbn.size
    have hox0 := hox0.below hbn (Nat.le_refl _)
    have zhox0 := Nat.le_trans zhox0 hbn.size
    have kx0 := kx0.below hbn kx0.lt
    have hoG0 := own_below hoG0 hbn (Nat.le_refl _)
    have zhoG0 := Nat.le_trans zhoG0 hbn.size
    have hc := hc.trans (hbn.mono (Nat.le_trans hcz hc.size))
    have hb := hb.trans (hbn.mono hb.size)
    clear hbn
    have k0 := k000.below hc (by omega)
    have h : LogAt w17.drew w17.drew.heap.size A n rs := (h00.1.below hb).more hb.size
    go_region_held3 (fun w' => (w'.cell? ⟨w.heap.size, 0, none⟩ = some (.int .i64 x) ∧ w'.cell? ⟨w.heap.size, 1, none⟩ = some (.slice A n c)) ∧ (w'.cell? ⟨w14.heap.size, 0, none⟩ = some (.int .i64 x) ∧ w'.cell? ⟨w14.heap.size, 1, none⟩ = some (.slice (some ⟨x0, 0, none⟩) n n))) (first | exact ⟨⟨k0_8.cell 0, k0_8.cell 1⟩, kx0_8.cell 0, kx0_8.cell 1⟩ | exact ⟨⟨k0_7.cell 0, k0_7.cell 1⟩, kx0_7.cell 0, kx0_7.cell 1⟩ | exact ⟨⟨k0.cell 0, k0.cell 1⟩, kx0.cell 0, kx0.cell 1⟩) ((first | (go_at_call 6; refine (toLog_any _ _ _ _ _ _ h hn0).mono ?_; rintro e w18 ⟨y, ho7r, rfl, hho7s, ho7, hq7⟩; have Hhho7s := Lib.hid hho7s; clear hho7s; have k0_7 := k0.below hq7 k0.lt; have hoV0_7 := own_below hoV0 hq7 (Nat.le_refl _); have zhoV0_7 := Nat.le_trans zhoV0 hq7.size; have hox0_7 := hox0.below hq7 (Nat.le_refl _); have zhox0_7 := Nat.le_trans zhox0 hq7.size; have kx0_7 := kx0.below hq7 kx0.lt; have hoG0_7 := own_below hoG0 hq7 (Nat.le_refl _); have zhoG0_7 := Nat.le_trans zhoG0 hq7.size; have hc_7 := hc.trans (hq7.mono (Nat.le_trans hcz hc.size)); have hb_7 := hb.trans (hq7.mono hb.size)) | (go_at_call 9; refine (eqLog_same _ _ _ _ _ _ _ _ _ _ hox0_7.at_ ho7.at_ (Hhhox0s.out.trans Hhho7s.out.symm) (by rw [Hhhox0s.out]; exact HFIT.out)).mono ?_; rintro e w19 ⟨rfl, hq8⟩; have k0_8 := k0_7.below hq8 k0_7.lt; have hoV0_8 := own_below hoV0_7 hq8 (Nat.le_refl _); have zhoV0_8 := Nat.le_trans zhoV0_7 hq8.size; have hox0_8 := hox0_7.below hq8 (Nat.le_refl _); have zhox0_8 := Nat.le_trans zhox0_7 hq8.size; have kx0_8 := kx0_7.below hq8 kx0_7.lt; have hoG0_8 := own_below hoG0_7 hq8 (Nat.le_refl _); have zhoG0_8 := Nat.le_trans zhoG0_7 hq8.size; have hc_8 := hc_7.trans (hq8.mono (Nat.le_trans hcz hc_7.size)); have hb_8 := hb_7.trans (hq8.mono hb_7.size))))
    clear k0 h hoV0 hox0 kx0 hoG0 zhoV0 zhox0 zhoG0 hc hb k0_7 hoV0_7 hox0_7 kx0_7 hoG0_7 zhoV0_7 zhox0_7 zhoG0_7 hc_7 hb_7 ho7 hq7 hq8 k0_8 Hhho7s
    have hoV0 := hoV0_8
    have hox0 := hox0_8
    have kx0 := kx0_8
    have hoG0 := hoG0_8
    have zhoV0 := zhoV0_8
    have zhox0 := zhox0_8
    have zhoG0 := zhoG0_8
    have hc := hc_8
    have hb := hb_8
    clear hoV0_8 hox0_8 kx0_8 hoG0_8 zhoV0_8 zhox0_8 zhoG0_8 hc_8 hb_8
    have kx0l0 := kx0.cell 0; have kx0l1 := kx0.cell 1; have kx0lt := kx0.lt
    go_wp2_with fail
    clear kx0l0 kx0l1 kx0lt
    go_at_call 10; refine (markLog_mov _ _ _ _ 1 _ _ _ _ hox0 shox0.out (by rw [likeSum_mgs hox0.at_, Hhhox0s.out]; exact HSUM.out) hnn (by omega) (by omega)).mono ?_; rintro e w20 ⟨zk, rfl, hzk, hmv⟩
    have hoV0 := hmv.own hoV0 shoV0.out (.inl ohoV0_hox0.out)
    have zhoV0 := Nat.le_trans zhoV0 hmv.size
    have kx0 := hmv.blk kx0 (.inr ohox0_kx0.out)
    have hoG0 := hmv.own hoG0 shoG0.out (.inr ohox0_hoG0.out)
    have zhoG0 := Nat.le_trans zhoG0 hmv.size
    have hb := hmv.below hb (Nat.le_trans (Nat.le_add_right _ _) bhox0.out) hb.size
    have hc := hmv.below hc bhox0.out (Nat.le_trans hcz hc.size)
    clear hmv
    clear hox0
    have xk : ¬ (zk < 0) := by omega
    go_wp2_with fail
    go_at_call 8; refine (eqInt64S_same _ _ _ _ _ _ _ _ _ (Row.of_own_any hoG0) (Row.of_own_any hoV0) HN0.out).mono ?_; rintro e w21 ⟨rfl, hq⟩
    have hbn := drew_below hq
    clear hq
    have hoV0 := own_below hoV0 hbn (Nat.le_refl _)
    have zhoV0 := Nat.le_trans zhoV0 hbn.size
    have kx0 := kx0.below hbn kx0.lt
    have hoG0 := own_below hoG0 hbn (Nat.le_refl _)
    have zhoG0 := Nat.le_trans zhoG0 hbn.size
    have hc := hc.trans (hbn.mono (Nat.le_trans hcz hc.size))
    have hb := hb.trans (hbn.mono hb.size)
    clear hbn
    go_wp2_with fail
    clear kx0
    go_at_call 11; refine (mark_mov _ _ _ 1 _ _ _ _ hoG0 shoG0.out HN0.out (by omega)).mono ?_; rintro e w22 ⟨rfl, hmk, hmv⟩
    have hoV0 := hmv.own hoV0 shoV0.out (.inl ohoV0_hoG0.out)
    have zhoV0 := Nat.le_trans zhoV0 hmv.size
    have hb := hmv.below hb (Nat.le_trans (Nat.le_add_right _ _) bhoG0.out) hb.size
    have hc := hmv.below hc bhoG0.out (Nat.le_trans hcz hc.size)
    have hoG0 := hmk
    have zhoG0 := Nat.le_trans zhoG0 hmv.size
    clear hmk hmv
    go_wp2_with fail
    go_at_call 12; refine (heldInt64S_any _ _ _ 1 _ _ (Row.of_own_any hoG0) HN0.out (by omega)).mono ?_; rintro e w23 ⟨rfl, rfl⟩
    have k00 := k000.below hc (by omega)
    have al0_0 := k00.cell 0
    have al0_1 := k00.cell 1
    have alt0 := k00.lt
    go_wp2_with fail
    clear al0_0 al0_1 alt0 k00
    have h0 := (h00.1.below hb).more hb.size
    have ohoV0_hoq2 := Lib.hid zhoV0
    have ohoG0_hoq2 := Lib.hid zhoG0
    have bhoq2 := Lib.hid (Nat.le_trans hcz hc.size)
    go_at_call 6; refine (toLog_any _ _ _ _ _ _ h0 hn0).mono ?_; rintro e w24 ⟨q2, hoq2r, rfl, hhoq2s, hoq2, hbn⟩
    have Hhhoq2s := Lib.hid hhoq2s
    clear hhoq2s
    have shoq2 := Lib.hid (hoq2.span)
    have zhoq2 := Nat.le_refl w24.heap.size
    clear h0
    have hoV0 := own_below hoV0 hbn (Nat.le_refl _)
    have zhoV0 := Nat.le_trans zhoV0 hbn.size
    have hoG0 := own_below hoG0 hbn (Nat.le_refl _)
    have zhoG0 := Nat.le_trans zhoG0 hbn.size
    have hc := hc.trans (hbn.mono (Nat.le_trans hcz hc.size))
    have hb := hb.trans (hbn.mono hb.size)
    clear hbn
    go_wp2_with fail
    have ohoV0_hoH0 := Lib.hid zhoV0
    have ohoG0_hoH0 := Lib.hid zhoG0
    have ohoq2_hoH0 := Lib.hid zhoq2
    have bhoH0 := Lib.hid (Nat.le_trans hcz hc.size)
    go_at_call 7; refine (impl_SeenBy_any _ _ _ _ _ _ _ _ _ hoq2.at_ (by rw [Hhhoq2s.out]; exact HFIT.out) (he0.below hb)).mono ?_; rw [Hhhoq2s.out]; rw [HR1.out]; rintro e w25 ⟨H0A, H0n, H0c, H0z, rfl, hH0z, hoH0, hbn⟩
    obtain rfl : H0n = H0z.length := by simpa using hoH0.1.symm
    have shoH0 := Lib.hid (span_own hoH0)
    have zhoH0 := Nat.le_refl w25.heap.size
    have hoV0 := own_below hoV0 hbn (Nat.le_refl _)
    have zhoV0 := Nat.le_trans zhoV0 hbn.size
    have hoG0 := own_below hoG0 hbn (Nat.le_refl _)
    have zhoG0 := Nat.le_trans zhoG0 hbn.size
    have hoq2 := hoq2.below hbn (Nat.le_refl _)
    have zhoq2 := Nat.le_trans zhoq2 hbn.size
    have hc := hc.trans (hbn.mono (Nat.le_trans hcz hc.size))
    have hb := hb.trans (hbn.mono hb.size)
    clear hbn
    clear hoq2
    have EH0z := hH0z.trans HV0z.out.symm
    clear hH0z
    subst EH0z
    go_wp2_with fail
    go_at_call 8; refine (eqInt64S_same _ _ _ _ _ _ _ _ _ (Row.of_own_any hoH0) (Row.of_own_any hoV0) HN0.out).mono ?_; rintro e w26 ⟨rfl, hq⟩
    have hbn := drew_below hq
    clear hq
    have hoV0 := own_below hoV0 hbn (Nat.le_refl _)
    have zhoV0 := Nat.le_trans zhoV0 hbn.size
    have hoG0 := own_below hoG0 hbn (Nat.le_refl _)
    have zhoG0 := Nat.le_trans zhoG0 hbn.size
    have hoH0 := own_below hoH0 hbn (Nat.le_refl _)
    have zhoH0 := Nat.le_trans zhoH0 hbn.size
    have hc := hc.trans (hbn.mono (Nat.le_trans hcz hc.size))
    have hb := hb.trans (hbn.mono hb.size)
    clear hbn
    go_wp2_with fail
    go_wp2_with fail
    go_at_call 12; refine (heldInt64S_any _ _ _ 1 _ _ (Row.of_own_any hoG0) HN0.out (by omega)).mono ?_; rintro e w27 ⟨rfl, rfl⟩
    go_wp2
    go_ret
    exact ⟨rfl, hb⟩
  · have hx01 : (n : Int) ≤ 9223372036854775807 := by have := h00.2.1; unfold maxLen at this; omega
    go_enter Tryd.func3, Tryd.ntmps3
    go_wp2_with fail
    obtain ⟨k000, hb⟩ := one_box w 24 #[.int .i64 x, .slice A n c]
    have hc := Below.refl (w.heap.size + 1) (w.alloc (.cells #[.int .i64 x, .slice A n c] 24))
    have hcz : w.heap.size + 1 ≤ (w.alloc (.cells #[.int .i64 x, .slice A n c] 24)).heap.size := by simp
    generalize w.alloc (.cells #[.int .i64 x, .slice A n c] 24) = W1 at *
    have h0 := (h00.1.below hb).more hb.size
    go_at_call 4; refine (szLog_no _ _ _ _ _ _ _ h0 (by omega) (by omega) (by omega) hx01 h00.2.2).mono ?_; rintro e w10 ⟨rfl, hb4⟩
    go_wp2
    go_ret
    exact ⟨rfl, hb.trans (hb4.mono hb.size)⟩
theorem walk {W : World} (hL : laidMetH Tryd.prog Rows.fnExactSeenByRow.laid W) (x : Int) (A : Option Addr) (n c : Nat) (rs : List Rm) (t : Int) (s : Int) (h00 : LogOk W A n rs) (wfx : (Lit.int .i64 x).wf = true) (wft : (Lit.int .i64 t).wf = true) (wfs : (Lit.int .i64 s).wf = true) :
    Calls Tryd.prog 3 #[.agg #[.int .i64 x, .slice A n c], .int .i64 t, .int .i64 s] W fun e w' => e = .returned (.bool true) ∧ Below W.heap.size W w' := by
  rw [MakeChecks.laidMetH_plain _ _ _ (by kernel_rfl)] at hL
  obtain ⟨a, he⟩ := refR_of_laid (rest := _) hL
  exact walk_all a _ _ _ _ _ _ _ _ h00 wfx wft wfs he

theorem own : ownKnob Tryd.prog.godebug = none := by kernel_rfl
theorem laidOut : laidOutB Tryd.prog = true := by kernel_rfl
theorem door_met (os : Os) (args : Array Value) : laidMetH Tryd.prog Rows.fnExactSeenByRow.laid ((World.doorLaid Tryd.prog 400 os).forCall (fun _ _ => 0) ⟨#[], args, []⟩).memory :=
  laidMetH_of_parts3 (fuel := 8) (laidMet_of_run' 8 (by kernel_rfl) (by kernel_rfl)) (by kernel_rfl) (by kernel_rfl)
set_option maxRecDepth 100000 in
theorem lifted (os : Os) (started : os.Started) (H : Type) (enc : TypeId × Value → H) :
    ReturnsInHanded {} Tryd.checked os 3 .any (fun w args => (Rows.fnExactSeenBySpec.pre enc Tryd.prog Tryd.f3 [] false w args ∧ laidMetH Tryd.prog Rows.fnExactSeenByRow.laid w) ∧ sizedMet enc Tryd.prog Tryd.f3 (OpenSpec.ofChange Rows.fnExactSeenBySpec) false w args)
      (Rows.fnExactSeenBySpec.post enc Tryd.prog Tryd.f3 false true false false) := by
  refine returnsInHanded_of_change_and (C := Tryd.checked) (X := fun w _ => laidMetH Tryd.prog Rows.fnExactSeenByRow.laid w) (fun _ _ _ hh h => h.of_heap hh) own started (by kernel_rfl) Tryd.func3
    (ChangeSpec.witness_shaped (enc := enc) (C := Tryd.checked) (os := os) (X := fun w _ => laidMetH Tryd.prog Rows.fnExactSeenByRow.laid w) false (World.doorLaid Tryd.prog 400 os) #[.agg #[.int .i64 0, .slice none 0 0], .int .i64 0, .int .i64 0] 8 rfl (World.shaped_of_RefB (by kernel_rfl) (by kernel_rfl)) (by kernel_rfl) (by kernel_rfl) (by kernel_rfl) (door_met os _)) ?_
  intro W base args ds gs before hval0 hW hcnd _ hL _
  have hval : ∀ (j : Nat) t v, Tryd.f3.params[j]? = some t → args[j]? = some v → Value.okWide Tryd.prog W .any base t v := hval0
  have hW' := hW
  obtain ⟨p, q, hA0, hV, rfl, hfz, hnd⟩ := hW
  have hA : DataW.TrodAll enc Tryd.prog W 0 (fun _ => true) true Tryd.f3.params.toList args.toList ds p := hA0
  rw [Tryd.params3] at hA hval
  obtain ⟨v0, vs0, d0, ds0, p0, q0, hargs, rfl, rfl, h0, r0⟩ := trodAll_cons hA
  obtain ⟨v1, vs1, d1, ds1, p1, q1, rfl, rfl, rfl, h1, r1⟩ := trodAll_cons r0
  obtain ⟨v2, vs2, d2, ds2, p2, q2, rfl, rfl, rfl, h2, r2⟩ := trodAll_cons r1
  obtain ⟨rfl, rfl, rfl⟩ := trodAll_nil r2
  obtain rfl : args = #[v0, v1, v2] := by cases args; simp_all
  have hL1 := hL
  rw [MakeChecks.laidMetH_plain _ _ _ (by kernel_rfl)] at hL1
  obtain ⟨vb, hvb⟩ := varR_of_laid (rest := _) hL1
  obtain ⟨rfl, rfl⟩ := hV.unique (vars_read1 enc gR gRT Tryd.underlying50 hvb trivial _)
  have k0 := h0
  have lt0 : ∀ x ∈ p0, x.block < W.heap.size := by obtain ⟨m, hm⟩ := k0; exact DataW.trod_lt m _ _ _ hm
  obtain ⟨x0, A0, n0, c0, rs0, rfl, w0, u0⟩ := open_log (hval 0 24 v0 rfl rfl) h0
  obtain ⟨a1, rfl, rfl, rfl, w1⟩ := open_int Tryd.underlying2 (hval 1 2 v1 rfl rfl) h1
  obtain ⟨a2, rfl, rfl, rfl, w2⟩ := open_int Tryd.underlying2 (hval 2 2 v2 rfl rfl) h2
  clear hA0 hval0
  refine (walk hL x0 A0 n0 c0 rs0 a1 a2 w0 u0 w1 w2).mono fun e W' ⟨he, bel⟩ => ?_
  subst he
  exact ⟨_, rfl, _, _, _, [], _, _, hW', trodAll_mk1 (shut_bool Tryd.underlying4 _), (trodAll_cons_mk (Below.trod laidOut (by kernel_rfl) (of_decide_eq_true (by kernel_rfl)) k0 bel lt0) (trodAll_cons_mk (shut_int Tryd.underlying2 w1) (trodAll_cons_mk (shut_int Tryd.underlying2 w2) trodAll_mk0))), vars_read1 enc gR gRT Tryd.underlying50 (var_below gR hvb bel) trivial _, bel.frame _, fun h => by cases h⟩

theorem over : Rows.fnExactSeenByRow.holds Tryd.pinned (OpenSpec.ofChange Rows.fnExactSeenBySpec) :=
  OpenClaim.holds_of_wide 3 Tryd.f3 rfl rfl rfl rfl rfl rfl rfl ⟨rfl, rfl, rfl, rfl, rfl⟩ rfl rfl rfl rfl rfl (by kernel_rfl) Tryd.func3 (by kernel_rfl)
    (of_decide_eq_true (by kernel_rfl)) (by unfold Func.isWrapper; first | (rw [if_pos (by decide +kernel)]; kernel_rfl) | (rw [if_neg (by decide +kernel)]; exact ⟨rfl, rfl⟩))
    (fun os started H enc _ => lifted os started H enc)

theorem proved : Rows.FnExactSeenByCardSaid :=
  Claim7.holds_tied_plain_at .later [] _ true _ false
    over (fun _ h => by cases h) (by kernel_rfl) (fun _ h => by cases h) fnExactSeenBy_row_tie rfl ⟨rfl, rfl⟩ (by kernel_rfl) rfl
    (fun f fn hf hfn => by
      obtain rfl : f = 3 := Option.some.inj ((show Tryd.prog.funcNamed Rows.fnExactSeenByRow.func = some 3 by kernel_rfl).symm.trans hf) |>.symm
      obtain rfl : fn = Tryd.f3 := (Option.some.inj (Tryd.func3.symm.trans hfn)).symm
      exact ⟨by kernel_rfl, fun j t ht => by
        rw [Tryd.params3] at ht
        have hm : t ∈ [24, 2, 2] := by simpa using Array.mem_of_getElem? ht
        have hall : ([24, 2, 2].all fun u => !Tryd.prog.wantsStandIn u) = true := by kernel_rfl
        exact (show Tryd.prog.wantsStandIn t = false by simpa using List.all_eq_true.1 hall t hm)⟩)
    (by kernel_rfl)
#print axioms proved
end Go.Proofs.YtgomffcdoglbfaaDoor.fnExactSeenBy
