/-
  RunBucket answers as its model for every bucket and ticks, every field, leaves its arguments as they were, and its answer is memory of its own: the law returns true for all arguments. No condition.
-/
import Derived.Test.YtmdoddikaaaamaaRows
import Derived.WalkKit
import Derived.ProofKit
import Derived.OpenShut
import Derived.ShutString
import Derived.ChangeOld
import Derived.Below
import Derived.Lib.Hide
import Derived.Deep.RegionHeld3
import Derived.Test.YtmdoddikaaaamaaZRunB
import Derived.Test.YtmdoddikaaaamaaZRunS
import Derived.Test.YtmdoddikaaaamaaZRunG
import Derived.Test.YtmdoddikaaaamaaZOwnF
import Derived.Test.YtmdoddikaaaamaaZBktA
namespace Go.Proofs.Ytmdoddikaaaamaa.fnExactRunBucket
open Go.ChangeShapes Go.WideShapes Go.ChangeAt Go.RowKit
open Go.ChangeMaps (open_string shut_string)
set_option linter.unusedVariables false
set_option maxRecDepth 100000
set_option maxHeartbeats 12800000 in
theorem law_all (b : Bk) (A : Option Addr) (n c : Nat) (xs : List Int) (w : World) (h0 : Row i64v w w.heap.size A n xs) (hm : n ≤ maxLen) :
    Calls Try.prog 9 #[.agg #[.int .i64 b.sz, .int .i64 b.ev, .int .i64 b.lf, .int .i64 b.tm], .slice A n c] w fun e w' => e = .returned (.bool true) ∧ Below w.heap.size w w' := by
  obtain ⟨r, hr⟩ : ∃ z, okRun b xs = z := ⟨_, rfl⟩
  have HR := Lib.hid hr
  clear hr
  obtain ⟨bk, hk⟩ : ∃ z, giveK r (runG stB b xs).2 = z := ⟨_, rfl⟩
  have HK := Lib.hid hk
  clear hk
  by_cases hn : n ≤ 1048576
  · clear hm
    go_enter Try.func9, Try.ntmps9
    have x1 : decide ((1048576 : Int) < (n : Int)) = false := decide_eq_false (by omega)
    go_wp2_with fail
    obtain ⟨k00, hb⟩ := one_box w 23 #[.int .i64 b.sz, .int .i64 b.ev, .int .i64 b.lf, .int .i64 b.tm]
    generalize w.alloc (.cells #[.int .i64 b.sz, .int .i64 b.ev, .int .i64 b.lf, .int .i64 b.tm] 23) = W0 at *
    go_at_call 16; refine (toBucket_any b _).mono ?_; rintro e W1 ⟨rfl, hbn⟩
    have k00 := k00.below hbn k00.lt
    have hb := hb.trans (hbn.mono hb.size); clear hbn
    have k00_c0 := k00.cell 0; have k00_c1 := k00.cell 1; have k00_c2 := k00.cell 2; have k00_c3 := k00.cell 3; have k00_l := k00.lt
    go_wp2_with fail
    clear k00_c0 k00_c1 k00_c2 k00_c3 k00_l
    have BXhot := Lib.hid hb.size
    have hh := h0.to hb
    go_at_call 30; refine (toInt64S_any _ _ _ _ _ hh hn).mono ?_; rintro e W2 ⟨ghot, rfl, hot, hbn⟩
    clear hh
    have k00 := k00.below hbn k00.lt
    have hb := hb.trans (hbn.mono hb.size); clear hbn
    have k00_c0 := k00.cell 0; have k00_c1 := k00.cell 1; have k00_c2 := k00.cell 2; have k00_c3 := k00.cell 3; have k00_l := k00.lt
    go_wp2_with fail
    clear k00_c0 k00_c1 k00_c2 k00_c3 k00_l
    go_at_call 29; refine (spec_RunBucket_any b _ _ _ xs _ (Row.of_own_any hot) hn).mono ?_; rw [HR.out, HK.out]; rintro e W3 ⟨AV, nV, cV, zV, rfl, hzV, hoV, hbn⟩
    obtain rfl : nV = zV.length := by simpa using hoV.1.symm
    clear hot
    have k00 := k00.below hbn k00.lt
    have hb := hb.trans (hbn.mono hb.size); clear hbn
    have HN := Lib.hid (show zV.length ≤ 1073741824 by rw [hzV]; split <;> first | (rw [runG_len, h0.1]; omega) | simp)
    have HzV := Lib.hid hzV; clear hzV
    have k00_c0 := k00.cell 0; have k00_c1 := k00.cell 1; have k00_c2 := k00.cell 2; have k00_c3 := k00.cell 3; have k00_l := k00.lt
    go_wp2_with fail
    clear k00_c0 k00_c1 k00_c2 k00_c3 k00_l
    obtain ⟨kV, hbn⟩ := one_box W3 25 #[.int .i64 bk.sz, .int .i64 bk.ev, .int .i64 bk.lf, .int .i64 bk.tm]
    generalize W3.alloc (.cells #[.int .i64 bk.sz, .int .i64 bk.ev, .int .i64 bk.lf, .int .i64 bk.tm] 25) = W4 at *
    have k00 := k00.below hbn k00.lt
    have hoV := own_below hoV hbn (Nat.le_refl _)
    have hb := hb.trans (hbn.mono hb.size); clear hbn
    have BXhox := Lib.hid hb.size
    have hh := h0.to hb
    go_at_call 30; refine (toInt64S_any _ _ _ _ _ hh hn).mono ?_; rintro e W5 ⟨ghox, rfl, hox, hbn⟩
    clear hh
    have k00 := k00.below hbn k00.lt
    have kV := kV.below hbn kV.lt
    have hoV := own_below hoV hbn (Nat.le_refl _)
    have hb := hb.trans (hbn.mono hb.size); clear hbn
    have k00_c0 := k00.cell 0; have k00_c1 := k00.cell 1; have k00_c2 := k00.cell 2; have k00_c3 := k00.cell 3; have k00_l := k00.lt
    have kV_c0 := kV.cell 0; have kV_c1 := kV.cell 1; have kV_c2 := kV.cell 2; have kV_c3 := kV.cell 3; have kV_l := kV.lt
    go_wp2_with fail
    clear k00_c0 k00_c1 k00_c2 k00_c3 k00_l
    clear kV_c0 kV_c1 kV_c2 kV_c3 kV_l
    go_at_call 16; refine (toBucket_any b _).mono ?_; rintro e W6 ⟨rfl, hbn⟩
    have k00 := k00.below hbn k00.lt
    have kV := kV.below hbn kV.lt
    have hoV := own_below hoV hbn (Nat.le_refl _)
    have hox := own_below hox hbn (Nat.le_refl _)
    have hb := hb.trans (hbn.mono hb.size); clear hbn
    have k00_c0 := k00.cell 0; have k00_c1 := k00.cell 1; have k00_c2 := k00.cell 2; have k00_c3 := k00.cell 3; have k00_l := k00.lt
    have kV_c0 := kV.cell 0; have kV_c1 := kV.cell 1; have kV_c2 := kV.cell 2; have kV_c3 := kV.cell 3; have kV_l := kV.lt
    go_wp2_with fail
    clear k00_c0 k00_c1 k00_c2 k00_c3 k00_l
    clear kV_c0 kV_c1 kV_c2 kV_c3 kV_l
    have BXhoG := Lib.hid hb.size
    go_at_call 31; refine (impl_RunBucket_any b _ _ _ xs _ (Row.of_own_any hox) hn).mono ?_; rw [HR.out, HK.out]; rintro e W7 ⟨AG, nG, cG, zG, rfl, hzG, hoG, hbn⟩
    obtain rfl : nG = zG.length := by simpa using hoG.1.symm
    have EG : zG = zV := hzG.trans HzV.out.symm; clear hzG; subst EG
    have offG := Lib.hid (own_offF hoV hoG)
    have k00 := k00.below hbn k00.lt
    have kV := kV.below hbn kV.lt
    have hoV := own_below hoV hbn (Nat.le_refl _)
    have hox := own_below hox hbn (Nat.le_refl _)
    have hb := hb.trans (hbn.mono hb.size); clear hbn
    have k00_c0 := k00.cell 0; have k00_c1 := k00.cell 1; have k00_c2 := k00.cell 2; have k00_c3 := k00.cell 3; have k00_l := k00.lt
    have kV_c0 := kV.cell 0; have kV_c1 := kV.cell 1; have kV_c2 := kV.cell 2; have kV_c3 := kV.cell 3; have kV_l := kV.lt
    go_wp2_with fail
    clear k00_c0 k00_c1 k00_c2 k00_c3 k00_l
    clear kV_c0 kV_c1 kV_c2 kV_c3 kV_l
    obtain ⟨kG, hbn⟩ := one_box W7 25 #[.int .i64 bk.sz, .int .i64 bk.ev, .int .i64 bk.lf, .int .i64 bk.tm]
    generalize W7.alloc (.cells #[.int .i64 bk.sz, .int .i64 bk.ev, .int .i64 bk.lf, .int .i64 bk.tm] 25) = W8 at *
    have k00 := k00.below hbn k00.lt
    have kV := kV.below hbn kV.lt
    have hoV := own_below hoV hbn (Nat.le_refl _)
    have hox := own_below hox hbn (Nat.le_refl _)
    have hoG := own_below hoG hbn (Nat.le_refl _)
    have hb := hb.trans (hbn.mono hb.size); clear hbn
    go_at_call 20; refine (eqBucket_same bk _).mono ?_; rintro e W9 ⟨rfl, hbn⟩
    have k00 := k00.below hbn k00.lt
    have kV := kV.below hbn kV.lt
    have kG := kG.below hbn kG.lt
    have hoV := own_below hoV hbn (Nat.le_refl _)
    have hox := own_below hox hbn (Nat.le_refl _)
    have hoG := own_below hoG hbn (Nat.le_refl _)
    have hb := hb.trans (hbn.mono hb.size); clear hbn
    have k00_c0 := k00.cell 0; have k00_c1 := k00.cell 1; have k00_c2 := k00.cell 2; have k00_c3 := k00.cell 3; have k00_l := k00.lt
    have kV_c0 := kV.cell 0; have kV_c1 := kV.cell 1; have kV_c2 := kV.cell 2; have kV_c3 := kV.cell 3; have kV_l := kV.lt
    have kG_c0 := kG.cell 0; have kG_c1 := kG.cell 1; have kG_c2 := kG.cell 2; have kG_c3 := kG.cell 3; have kG_l := kG.lt
    go_wp2_with fail
    clear k00_c0 k00_c1 k00_c2 k00_c3 k00_l
    clear kV_c0 kV_c1 kV_c2 kV_c3 kV_l
    clear kG_c0 kG_c1 kG_c2 kG_c3 kG_l
    go_at_call 32; refine (eqBoolS_same _ _ _ _ _ _ _ _ _ (Row.of_own_any hoG) (Row.of_own_any hoV) HN.out).mono ?_; rintro e W10 ⟨rfl, hq⟩
    have hbn := drew_below hq; clear hq
    have k00 := k00.below hbn k00.lt
    have kV := kV.below hbn kV.lt
    have kG := kG.below hbn kG.lt
    have hoV := own_below hoV hbn (Nat.le_refl _)
    have hox := own_below hox hbn (Nat.le_refl _)
    have hoG := own_below hoG hbn (Nat.le_refl _)
    have hb := hb.trans (hbn.mono hb.size); clear hbn
    have k00_c0 := k00.cell 0; have k00_c1 := k00.cell 1; have k00_c2 := k00.cell 2; have k00_c3 := k00.cell 3; have k00_l := k00.lt
    have kV_c0 := kV.cell 0; have kV_c1 := kV.cell 1; have kV_c2 := kV.cell 2; have kV_c3 := kV.cell 3; have kV_l := kV.lt
    have kG_c0 := kG.cell 0; have kG_c1 := kG.cell 1; have kG_c2 := kG.cell 2; have kG_c3 := kG.cell 3; have kG_l := kG.lt
    go_wp2_with fail
    clear k00_c0 k00_c1 k00_c2 k00_c3 k00_l
    clear kV_c0 kV_c1 kV_c2 kV_c3 kV_l
    clear kG_c0 kG_c1 kG_c2 kG_c3 kG_l
    have hh := h0.to hb
    go_at_call 30; refine (toInt64S_any _ _ _ _ _ hh hn).mono ?_; rintro e W11 ⟨ghop, rfl, hop, hbn⟩
    clear hh
    have k00 := k00.below hbn k00.lt
    have kV := kV.below hbn kV.lt
    have kG := kG.below hbn kG.lt
    have hoV := own_below hoV hbn (Nat.le_refl _)
    have hox := own_below hox hbn (Nat.le_refl _)
    have hoG := own_below hoG hbn (Nat.le_refl _)
    have hb := hb.trans (hbn.mono hb.size); clear hbn
    have k00_c0 := k00.cell 0; have k00_c1 := k00.cell 1; have k00_c2 := k00.cell 2; have k00_c3 := k00.cell 3; have k00_l := k00.lt
    have kV_c0 := kV.cell 0; have kV_c1 := kV.cell 1; have kV_c2 := kV.cell 2; have kV_c3 := kV.cell 3; have kV_l := kV.lt
    have kG_c0 := kG.cell 0; have kG_c1 := kG.cell 1; have kG_c2 := kG.cell 2; have kG_c3 := kG.cell 3; have kG_l := kG.lt
    go_wp2_with fail
    clear k00_c0 k00_c1 k00_c2 k00_c3 k00_l
    clear kV_c0 kV_c1 kV_c2 kV_c3 kV_l
    clear kG_c0 kG_c1 kG_c2 kG_c3 kG_l
    go_at_call 33; refine (eqInt64S_same _ _ _ _ _ _ _ _ _ (Row.of_own_any hox) (Row.of_own_any hop) (by omega)).mono ?_; rintro e W12 ⟨rfl, hq⟩
    have hbn := drew_below hq; clear hq hop
    have k00 := k00.below hbn k00.lt
    have kV := kV.below hbn kV.lt
    have kG := kG.below hbn kG.lt
    have hoV := own_below hoV hbn (Nat.le_refl _)
    have hox := own_below hox hbn (Nat.le_refl _)
    have hoG := own_below hoG hbn (Nat.le_refl _)
    have hb := hb.trans (hbn.mono hb.size); clear hbn
    have k00_c0 := k00.cell 0; have k00_c1 := k00.cell 1; have k00_c2 := k00.cell 2; have k00_c3 := k00.cell 3; have k00_l := k00.lt
    have kV_c0 := kV.cell 0; have kV_c1 := kV.cell 1; have kV_c2 := kV.cell 2; have kV_c3 := kV.cell 3; have kV_l := kV.lt
    have kG_c0 := kG.cell 0; have kG_c1 := kG.cell 1; have kG_c2 := kG.cell 2; have kG_c3 := kG.cell 3; have kG_l := kG.lt
    go_wp2_with fail
    clear k00_c0 k00_c1 k00_c2 k00_c3 k00_l
    clear kV_c0 kV_c1 kV_c2 kV_c3 kV_l
    clear kG_c0 kG_c1 kG_c2 kG_c3 kG_l
    go_at_call 34; refine (markI_g _ _ _ 1 _ _ _ hox (by omega) (by omega)).mono ?_; rintro e W13 ⟨rfl, hmk, hmg⟩
    have k00 := k00.grown hmg (blk_ne hox k00 (by decide))
    have kV := kV.grown hmg (blk_ne hox kV (by decide))
    have kG := kG.grown hmg (blk_ne hox kG (by decide))
    have hoV := hoV.kept hmg (own_typesB hoV hox (by decide))
    have hoG := hoG.kept hmg (own_typesB hoG hox (by decide))
    have hb := hb.grown hmg hb.size (fun g hg => Nat.le_trans BXhox.out (hox.lt g hg).1)
    have hox := hmk; clear hmk hmg
    clear hox
    have xk : ¬ (((1 + n : Nat) : Int) < 0) := by omega
    have k00_c0 := k00.cell 0; have k00_c1 := k00.cell 1; have k00_c2 := k00.cell 2; have k00_c3 := k00.cell 3; have k00_l := k00.lt
    have kV_c0 := kV.cell 0; have kV_c1 := kV.cell 1; have kV_c2 := kV.cell 2; have kV_c3 := kV.cell 3; have kV_l := kV.lt
    have kG_c0 := kG.cell 0; have kG_c1 := kG.cell 1; have kG_c2 := kG.cell 2; have kG_c3 := kG.cell 3; have kG_l := kG.lt
    go_wp2_with fail
    clear k00_c0 k00_c1 k00_c2 k00_c3 k00_l
    clear kV_c0 kV_c1 kV_c2 kV_c3 kV_l
    clear kG_c0 kG_c1 kG_c2 kG_c3 kG_l
    go_at_call 20; refine (eqBucket_same bk _).mono ?_; rintro e W14 ⟨rfl, hbn⟩
    have k00 := k00.below hbn k00.lt
    have kV := kV.below hbn kV.lt
    have kG := kG.below hbn kG.lt
    have hoV := own_below hoV hbn (Nat.le_refl _)
    have hoG := own_below hoG hbn (Nat.le_refl _)
    have hb := hb.trans (hbn.mono hb.size); clear hbn
    have k00_c0 := k00.cell 0; have k00_c1 := k00.cell 1; have k00_c2 := k00.cell 2; have k00_c3 := k00.cell 3; have k00_l := k00.lt
    have kV_c0 := kV.cell 0; have kV_c1 := kV.cell 1; have kV_c2 := kV.cell 2; have kV_c3 := kV.cell 3; have kV_l := kV.lt
    have kG_c0 := kG.cell 0; have kG_c1 := kG.cell 1; have kG_c2 := kG.cell 2; have kG_c3 := kG.cell 3; have kG_l := kG.lt
    go_wp2_with fail
    clear k00_c0 k00_c1 k00_c2 k00_c3 k00_l
    clear kV_c0 kV_c1 kV_c2 kV_c3 kV_l
    clear kG_c0 kG_c1 kG_c2 kG_c3 kG_l
    go_at_call 32; refine (eqBoolS_same _ _ _ _ _ _ _ _ _ (Row.of_own_any hoG) (Row.of_own_any hoV) HN.out).mono ?_; rintro e W15 ⟨rfl, hq⟩
    have hbn := drew_below hq; clear hq
    have k00 := k00.below hbn k00.lt
    have kV := kV.below hbn kV.lt
    have kG := kG.below hbn kG.lt
    have hoV := own_below hoV hbn (Nat.le_refl _)
    have hoG := own_below hoG hbn (Nat.le_refl _)
    have hb := hb.trans (hbn.mono hb.size); clear hbn
    have k00_c0 := k00.cell 0; have k00_c1 := k00.cell 1; have k00_c2 := k00.cell 2; have k00_c3 := k00.cell 3; have k00_l := k00.lt
    have kV_c0 := kV.cell 0; have kV_c1 := kV.cell 1; have kV_c2 := kV.cell 2; have kV_c3 := kV.cell 3; have kV_l := kV.lt
    have kG_c0 := kG.cell 0; have kG_c1 := kG.cell 1; have kG_c2 := kG.cell 2; have kG_c3 := kG.cell 3; have kG_l := kG.lt
    go_wp2_with fail
    clear k00_c0 k00_c1 k00_c2 k00_c3 k00_l
    clear kV_c0 kV_c1 kV_c2 kV_c3 kV_l
    clear kG_c0 kG_c1 kG_c2 kG_c3 kG_l
    go_at_call 35; refine (markB_g _ _ _ 1 _ _ _ hoG HN.out (by omega)).mono ?_; rintro e W16 ⟨rfl, hmk, hmg⟩
    have k00 := k00.grown hmg (blk_ne hoG k00 (by decide))
    have kV := kV.grown hmg (blk_ne hoG kV (by decide))
    have kG := kG.grown hmg (blk_ne hoG kG (by decide))
    have hoV := hoV.kept hmg offG.out
    have hb := hb.grown hmg hb.size (fun g hg => Nat.le_trans BXhoG.out (hoG.lt g hg).1)
    have hoG := hmk; clear hmk hmg
    have k00_c0 := k00.cell 0; have k00_c1 := k00.cell 1; have k00_c2 := k00.cell 2; have k00_c3 := k00.cell 3; have k00_l := k00.lt
    have kV_c0 := kV.cell 0; have kV_c1 := kV.cell 1; have kV_c2 := kV.cell 2; have kV_c3 := kV.cell 3; have kV_l := kV.lt
    have kG_c0 := kG.cell 0; have kG_c1 := kG.cell 1; have kG_c2 := kG.cell 2; have kG_c3 := kG.cell 3; have kG_l := kG.lt
    go_wp2_with fail
    clear k00_c0 k00_c1 k00_c2 k00_c3 k00_l
    clear kV_c0 kV_c1 kV_c2 kV_c3 kV_l
    clear kG_c0 kG_c1 kG_c2 kG_c3 kG_l
    go_at_call 36; refine (heldBoolS_any _ _ _ 1 _ _ (Row.of_own_any hoG) HN.out (by omega)).mono ?_; rintro e W17 ⟨rfl, rfl⟩
    have xh : ¬ (((1 + zG.length : Nat) : Int) < 0) := by omega
    have k00_c0 := k00.cell 0; have k00_c1 := k00.cell 1; have k00_c2 := k00.cell 2; have k00_c3 := k00.cell 3; have k00_l := k00.lt
    have kV_c0 := kV.cell 0; have kV_c1 := kV.cell 1; have kV_c2 := kV.cell 2; have kV_c3 := kV.cell 3; have kV_l := kV.lt
    have kG_c0 := kG.cell 0; have kG_c1 := kG.cell 1; have kG_c2 := kG.cell 2; have kG_c3 := kG.cell 3; have kG_l := kG.lt
    go_wp2_with fail
    clear k00_c0 k00_c1 k00_c2 k00_c3 k00_l
    clear kV_c0 kV_c1 kV_c2 kV_c3 kV_l
    clear kG_c0 kG_c1 kG_c2 kG_c3 kG_l
    go_at_call 16; refine (toBucket_any b _).mono ?_; rintro e W18 ⟨rfl, hbn⟩
    have k00 := k00.below hbn k00.lt
    have kV := kV.below hbn kV.lt
    have kG := kG.below hbn kG.lt
    have hoV := own_below hoV hbn (Nat.le_refl _)
    have hoG := own_below hoG hbn (Nat.le_refl _)
    have hb := hb.trans (hbn.mono hb.size); clear hbn
    have k00_c0 := k00.cell 0; have k00_c1 := k00.cell 1; have k00_c2 := k00.cell 2; have k00_c3 := k00.cell 3; have k00_l := k00.lt
    have kV_c0 := kV.cell 0; have kV_c1 := kV.cell 1; have kV_c2 := kV.cell 2; have kV_c3 := kV.cell 3; have kV_l := kV.lt
    have kG_c0 := kG.cell 0; have kG_c1 := kG.cell 1; have kG_c2 := kG.cell 2; have kG_c3 := kG.cell 3; have kG_l := kG.lt
    go_wp2_with fail
    clear k00_c0 k00_c1 k00_c2 k00_c3 k00_l
    clear kV_c0 kV_c1 kV_c2 kV_c3 kV_l
    clear kG_c0 kG_c1 kG_c2 kG_c3 kG_l
    have hh := h0.to hb
    go_at_call 30; refine (toInt64S_any _ _ _ _ _ hh hn).mono ?_; rintro e W19 ⟨ghoy, rfl, hoy, hbn⟩
    clear hh
    have k00 := k00.below hbn k00.lt
    have kV := kV.below hbn kV.lt
    have kG := kG.below hbn kG.lt
    have hoV := own_below hoV hbn (Nat.le_refl _)
    have hoG := own_below hoG hbn (Nat.le_refl _)
    have hb := hb.trans (hbn.mono hb.size); clear hbn
    have k00_c0 := k00.cell 0; have k00_c1 := k00.cell 1; have k00_c2 := k00.cell 2; have k00_c3 := k00.cell 3; have k00_l := k00.lt
    have kV_c0 := kV.cell 0; have kV_c1 := kV.cell 1; have kV_c2 := kV.cell 2; have kV_c3 := kV.cell 3; have kV_l := kV.lt
    have kG_c0 := kG.cell 0; have kG_c1 := kG.cell 1; have kG_c2 := kG.cell 2; have kG_c3 := kG.cell 3; have kG_l := kG.lt
    go_wp2_with fail
    clear k00_c0 k00_c1 k00_c2 k00_c3 k00_l
    clear kV_c0 kV_c1 kV_c2 kV_c3 kV_l
    clear kG_c0 kG_c1 kG_c2 kG_c3 kG_l
    go_at_call 31; refine (impl_RunBucket_any b _ _ _ xs _ (Row.of_own_any hoy) hn).mono ?_; rw [HR.out, HK.out]; rintro e W20 ⟨AH, nH, cH, zH, rfl, hzH, hoH, hbn⟩
    obtain rfl : nH = zH.length := by simpa using hoH.1.symm
    clear hoy
    have EH : zH = zG := hzH.trans HzV.out.symm; clear hzH; subst EH
    have k00 := k00.below hbn k00.lt
    have kV := kV.below hbn kV.lt
    have kG := kG.below hbn kG.lt
    have hoV := own_below hoV hbn (Nat.le_refl _)
    have hoG := own_below hoG hbn (Nat.le_refl _)
    have hb := hb.trans (hbn.mono hb.size); clear hbn
    have k00_c0 := k00.cell 0; have k00_c1 := k00.cell 1; have k00_c2 := k00.cell 2; have k00_c3 := k00.cell 3; have k00_l := k00.lt
    have kV_c0 := kV.cell 0; have kV_c1 := kV.cell 1; have kV_c2 := kV.cell 2; have kV_c3 := kV.cell 3; have kV_l := kV.lt
    have kG_c0 := kG.cell 0; have kG_c1 := kG.cell 1; have kG_c2 := kG.cell 2; have kG_c3 := kG.cell 3; have kG_l := kG.lt
    go_wp2_with fail
    clear k00_c0 k00_c1 k00_c2 k00_c3 k00_l
    clear kV_c0 kV_c1 kV_c2 kV_c3 kV_l
    clear kG_c0 kG_c1 kG_c2 kG_c3 kG_l
    obtain ⟨kH, hbn⟩ := one_box W20 25 #[.int .i64 bk.sz, .int .i64 bk.ev, .int .i64 bk.lf, .int .i64 bk.tm]
    generalize W20.alloc (.cells #[.int .i64 bk.sz, .int .i64 bk.ev, .int .i64 bk.lf, .int .i64 bk.tm] 25) = W21 at *
    have k00 := k00.below hbn k00.lt
    have kV := kV.below hbn kV.lt
    have kG := kG.below hbn kG.lt
    have hoV := own_below hoV hbn (Nat.le_refl _)
    have hoG := own_below hoG hbn (Nat.le_refl _)
    have hoH := own_below hoH hbn (Nat.le_refl _)
    have hb := hb.trans (hbn.mono hb.size); clear hbn
    go_at_call 20; refine (eqBucket_same bk _).mono ?_; rintro e W22 ⟨rfl, hbn⟩
    have k00 := k00.below hbn k00.lt
    have kV := kV.below hbn kV.lt
    have kG := kG.below hbn kG.lt
    have kH := kH.below hbn kH.lt
    have hoV := own_below hoV hbn (Nat.le_refl _)
    have hoG := own_below hoG hbn (Nat.le_refl _)
    have hoH := own_below hoH hbn (Nat.le_refl _)
    have hb := hb.trans (hbn.mono hb.size); clear hbn
    have k00_c0 := k00.cell 0; have k00_c1 := k00.cell 1; have k00_c2 := k00.cell 2; have k00_c3 := k00.cell 3; have k00_l := k00.lt
    have kV_c0 := kV.cell 0; have kV_c1 := kV.cell 1; have kV_c2 := kV.cell 2; have kV_c3 := kV.cell 3; have kV_l := kV.lt
    have kG_c0 := kG.cell 0; have kG_c1 := kG.cell 1; have kG_c2 := kG.cell 2; have kG_c3 := kG.cell 3; have kG_l := kG.lt
    have kH_c0 := kH.cell 0; have kH_c1 := kH.cell 1; have kH_c2 := kH.cell 2; have kH_c3 := kH.cell 3; have kH_l := kH.lt
    go_wp2_with fail
    clear k00_c0 k00_c1 k00_c2 k00_c3 k00_l
    clear kV_c0 kV_c1 kV_c2 kV_c3 kV_l
    clear kG_c0 kG_c1 kG_c2 kG_c3 kG_l
    clear kH_c0 kH_c1 kH_c2 kH_c3 kH_l
    go_at_call 32; refine (eqBoolS_same _ _ _ _ _ _ _ _ _ (Row.of_own_any hoH) (Row.of_own_any hoV) HN.out).mono ?_; rintro e W23 ⟨rfl, hq⟩
    have hbn := drew_below hq; clear hq
    have k00 := k00.below hbn k00.lt
    have kV := kV.below hbn kV.lt
    have kG := kG.below hbn kG.lt
    have kH := kH.below hbn kH.lt
    have hoV := own_below hoV hbn (Nat.le_refl _)
    have hoG := own_below hoG hbn (Nat.le_refl _)
    have hoH := own_below hoH hbn (Nat.le_refl _)
    have hb := hb.trans (hbn.mono hb.size); clear hbn
    have k00_c0 := k00.cell 0; have k00_c1 := k00.cell 1; have k00_c2 := k00.cell 2; have k00_c3 := k00.cell 3; have k00_l := k00.lt
    have kV_c0 := kV.cell 0; have kV_c1 := kV.cell 1; have kV_c2 := kV.cell 2; have kV_c3 := kV.cell 3; have kV_l := kV.lt
    have kG_c0 := kG.cell 0; have kG_c1 := kG.cell 1; have kG_c2 := kG.cell 2; have kG_c3 := kG.cell 3; have kG_l := kG.lt
    have kH_c0 := kH.cell 0; have kH_c1 := kH.cell 1; have kH_c2 := kH.cell 2; have kH_c3 := kH.cell 3; have kH_l := kH.lt
    go_wp2_with fail
    clear k00_c0 k00_c1 k00_c2 k00_c3 k00_l
    clear kV_c0 kV_c1 kV_c2 kV_c3 kV_l
    clear kG_c0 kG_c1 kG_c2 kG_c3 kG_l
    clear kH_c0 kH_c1 kH_c2 kH_c3 kH_l
    go_at_call 36; refine (heldBoolS_any _ _ _ 1 _ _ (Row.of_own_any hoG) HN.out (by omega)).mono ?_; rintro e W24 ⟨rfl, rfl⟩
    have k00_c0 := k00.cell 0; have k00_c1 := k00.cell 1; have k00_c2 := k00.cell 2; have k00_c3 := k00.cell 3
    have kV_c0 := kV.cell 0; have kV_c1 := kV.cell 1; have kV_c2 := kV.cell 2; have kV_c3 := kV.cell 3
    have kG_c0 := kG.cell 0; have kG_c1 := kG.cell 1; have kG_c2 := kG.cell 2; have kG_c3 := kG.cell 3
    have kH_c0 := kH.cell 0; have kH_c1 := kH.cell 1; have kH_c2 := kH.cell 2; have kH_c3 := kH.cell 3
    go_wp2
    go_ret
    exact ⟨rfl, hb⟩
  · have x1 : decide ((1048576 : Int) < (n : Int)) = true := decide_eq_true (by omega)
    go_enter Try.func9, Try.ntmps9
    go_wp2
    go_ret
    exact ⟨rfl, by repeat (first | exact Below.refl _ _ | refine Below.alloc ?_ (by simp) _)⟩
theorem walk (b : Bk) (A : Option Addr) (n c : Nat) (z : List Int) (w : World) (wb : BkWf b) (w0 : IsRow .i64 w A n c z) :
    Calls Try.prog 9 #[.agg #[.int .i64 b.sz, .int .i64 b.ev, .int .i64 b.lf, .int .i64 b.tm], .slice A n c] w fun e w' => e = .returned (.bool true) ∧ Below w.heap.size w w' :=
  law_all b A n c (z.take n) w (row_of_isRow w0) (len_of_isRow w0)

theorem own : ownKnob Try.prog.godebug = none := by kernel_rfl
theorem laidOut : laidOutB Try.prog = true := by kernel_rfl
set_option maxRecDepth 100000 in
theorem lifted (os : Os) (started : os.Started) (H : Type) (enc : TypeId × Value → H) :
    ReturnsInHanded {} Try.checked os 9 .any (Rows.fnExactRunBucketSpec.pre6 enc Try.prog Try.f9 Rows.fnExactRunBucketRow.domain false) (Rows.fnExactRunBucketSpec.post enc Try.prog Try.f9 false true false false) := by
  refine returnsInHanded_of_change (C := Try.checked) own started (by kernel_rfl) Try.func9
    (ChangeSpec.witness6 (enc := enc) (C := Try.checked) false ⟨#[], #[.agg #[.int .i64 0, .int .i64 0, .int .i64 0, .int .i64 0], .slice none 0 0], []⟩ 8 (by kernel_rfl) (by kernel_rfl) (by kernel_rfl) (by kernel_rfl)) ?_
  intro W base args ds gs before hval0 hW hcnd _
  have hval : ∀ (j : Nat) t v, Try.f9.params[j]? = some t → args[j]? = some v → Value.okWide Try.prog W .any base t v := hval0
  have hW' := hW
  obtain ⟨p, q, hA0, hV, rfl, hfz, hnd⟩ := hW
  have hA : DataW.TrodAll enc Try.prog W 0 (fun _ => true) true Try.f9.params.toList args.toList ds p := hA0
  rw [Try.params9] at hA hval
  obtain ⟨v0, vs0, d0, ds0, p0, q0, hargs, rfl, rfl, h0, r0⟩ := trodAll_cons hA
  obtain ⟨v1, vs1, d1, ds1, p1, q1, rfl, rfl, rfl, h1, r1⟩ := trodAll_cons r0
  obtain ⟨rfl, rfl, rfl⟩ := trodAll_nil r1
  obtain rfl : args = #[v0, v1] := by cases args; simp_all
  obtain ⟨rfl, rfl⟩ := trodVars_none hV
  have k0 := h0
  have lt0 : ∀ x ∈ p0, x.block < W.heap.size := by obtain ⟨m, hm⟩ := k0; exact DataW.trod_lt m _ _ _ hm
  obtain ⟨b0, rfl, w0⟩ := open_bucket (hval 0 23 v0 rfl rfl) h0
  obtain ⟨a1, len1, cap1, rfl⟩ := okWide_slice Try.underlying41 (hval 1 41 v1 rfl rfl)
  have k1 := h1
  have lt1 : ∀ x ∈ p1, x.block < W.heap.size := by obtain ⟨m, hm⟩ := k1; exact DataW.trod_lt m _ _ _ hm
  obtain ⟨z1, w1⟩ : ∃ zs, IsRow .i64 W a1 len1 cap1 zs := by
    obtain ⟨fuel, hf⟩ := h1
    rcases open_ints Try.underlying41 Try.underlying2 (by kernel_rfl) hf with ⟨hcs, _⟩ | ⟨x, l, c, zs, hcs, _, hl, hm, hz, _, hcell, hwz⟩
    · simp [Value.cells] at hcs
      obtain ⟨rfl, rfl, rfl⟩ := hcs
      exact ⟨[], .inl ⟨rfl, rfl, rfl, rfl⟩⟩
    · simp [Value.cells] at hcs
      obtain ⟨rfl, rfl, rfl⟩ := hcs
      exact ⟨zs, .inr ⟨_, rfl, hl, hm, by simpa using hz, hcell, hwz⟩⟩
  clear hA0 hval0
  refine (walk b0 a1 len1 cap1 z1 W w0 w1).mono fun e W' ⟨he, bel⟩ => ?_
  subst he
  exact ⟨_, rfl, _, _, _, [], _, [], hW', trodAll_mk1 (shut_bool Try.underlying4 _), (trodAll_cons_mk (Below.trod laidOut (by kernel_rfl) (of_decide_eq_true (by kernel_rfl)) k0 bel lt0) (trodAll_cons_mk (Below.trod laidOut (by kernel_rfl) (of_decide_eq_true (by kernel_rfl)) k1 bel lt1) trodAll_mk0)), rfl, bel.frame _, fun h => by cases h⟩

theorem over : Rows.fnExactRunBucketRow.holds Try.pinned (OpenSpec.ofChange Rows.fnExactRunBucketSpec) :=
  OpenClaim.holds_of_wide 9 Try.f9 rfl rfl rfl rfl rfl rfl rfl ⟨rfl, rfl, rfl, rfl, rfl⟩ rfl rfl rfl rfl rfl (by kernel_rfl) Try.func9 (by kernel_rfl)
    (of_decide_eq_true (by kernel_rfl)) (by unfold Func.isWrapper; first | (rw [if_pos (by decide +kernel)]; kernel_rfl) | (rw [if_neg (by decide +kernel)]; exact ⟨rfl, rfl⟩))
    (fun os started H enc _ => lifted os started H enc)

theorem proved : Rows.FnExactRunBucketSaid := over
#print axioms proved
end Go.Proofs.Ytmdoddikaaaamaa.fnExactRunBucket
