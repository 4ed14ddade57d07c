import Derived.Test.YtmdoddikaaaamabChecked
import Derived.WalkKit
import Derived.ProofKit
import Derived.OpenShut
import Derived.ShutString
import Derived.ChangeOld
import Derived.Below
import Derived.Lib.Hide
import Derived.Deep.QuietTactic
import Derived.BigQuiet
import Derived.BigGuardPart
import Derived.Test.YtmdoddikaaaamabZWaitP
namespace Go.Proofs.Ytmdoddikaaaamab
open Go.ChangeShapes Go.WideShapes Go.ChangeAt Go.RowKit
open Go.ChangeMaps (open_string shut_string)
set_option linter.unusedVariables false
set_option maxRecDepth 100000
theorem giveK_true (b : Bk) : giveK true b = b := rfl
set_option maxHeartbeats 6400000 in
theorem waits_all {w : World} (A : Option Addr) (n c : Nat) (A' : Option Addr) (n' c' : Nat) (ys ys' : List Nat) (h : Row u8v w w.heap.size A n ys) (hz : ∀ z ∈ ys, z < 256) (h' : Row u8v w w.heap.size A' n' ys') (hz' : ∀ z ∈ ys', z < 256) :
    Calls Try.prog 10 #[.slice A n c, .slice A' n' c'] w fun e w' => e = .returned (.bool true) ∧ Below w.heap.size w w' := by
  by_cases hl : n ≤ 48 ∧ n' ≤ 48
  rotate_left
  · go_enter Try.func10, Try.ntmps10
    go_wp2_with fail
    go_at_call 45; refine (r8Long_yes _ _ _ _ _ _ _ hl).mono ?_; rintro e w1 ⟨rfl, rfl⟩
    go_wp2
    go_ret
    exact ⟨rfl, Below.refl _ _⟩
  obtain ⟨hl1, hl2⟩ := hl
  go_enter Try.func10, Try.ntmps10
  go_wp2_with fail
  go_at_call 45; refine (r8Long_no _ _ _ _ _ _ _ hl1 hl2).mono ?_; rintro e w1 ⟨rfl, rfl⟩
  go_wp2_with fail
  go_at_call 46; refine (R8Bucket_any A n c ys _ _ h (Nat.le_refl _) hz).mono ?_; rintro e w2 ⟨b, rfl, hV, hb⟩
  have h' := h'.to hb
  have HV := Lib.hid hV; clear hV h hz
  go_wp2_with fail
  obtain ⟨k5, hbn⟩ := one_box w2 66 #[.int .i64 b.sz, .int .i64 b.ev, .int .i64 b.lf, .int .i64 b.tm]
  have s5 := hb.size
  generalize w2.alloc (.cells #[.int .i64 b.sz, .int .i64 b.ev, .int .i64 b.lf, .int .i64 b.tm] 66) = W1 at *
  have h' := (h'.below hbn).more hbn.size; have hb := hb.trans (hbn.mono hb.size); clear hbn
  obtain ⟨x0, hx0⟩ : ∃ x, r8v ys' 0 b.sz = x := ⟨_, rfl⟩
  obtain ⟨x1, hx1⟩ : ∃ x, r8v ys' 1 30 = x := ⟨_, rfl⟩
  have HX0 := Lib.hid hx0; have HX1 := Lib.hid hx1
  have b0 := r8v_bd ys' 0 b.sz HV.out.s1; have b1 := r8v_bd ys' 1 30 (by decide)
  rw [hx0] at b0; rw [hx1] at b1; clear hx0 hx1
  have HW0 := Lib.hid (waits_of HV.out b0 b1)
  have hsz := Lib.hid (show b.sz ≤ 1000 by have := HV.out.s2; omega)
  have htm := Lib.hid (And.intro HV.out.t1 HV.out.t2)
  obtain ⟨cnt, hcnt⟩ : ∃ z, 1 + x0 = z := ⟨_, rfl⟩
  obtain ⟨at_, hat⟩ : ∃ z, b.tm + x1 = z := ⟨_, rfl⟩
  have f1 : IntKind.i64.wrap (1 + x0) = cnt := by rw [← hcnt]; exact IntWalk.i64_in _ (by have := hsz.out; omega)
  have f2 : IntKind.i64.wrap (b.tm + x1) = at_ := by rw [← hat]; exact IntWalk.i64_in _ (by have := htm.out; omega)
  rw [hcnt, hat] at HW0
  have HB := Lib.hid (And.intro b0 b1)
  have HAT := Lib.hid (show 0 ≤ at_ ∧ at_ ≤ 60 by have := htm.out; omega)
  clear hcnt hat b0 b1
  go_at_call 47; refine (r8At_v A' n' c' _ ys' 0 b.sz _ h' hz' hsz.out (by decide) hl2).mono ?_; rw [HX0.out]; rintro e w4 ⟨rfl, rfl⟩
  have c0 := k5.cell 0; have c1 := k5.cell 1; have c2 := k5.cell 2; have c3 := k5.cell 3; have l5 := k5.lt
  have HR := Lib.hid h'
  go_wp2
  go_quiet ((go_at_call 47; exact Calls.quiet_here (r8At_w A' n' c' _ ys' 1 30 _ _ (HR.out.drewN _) hz' (by decide) (by decide) hl2 HX1.out)))
  clear c0 c1 c2 c3 l5 h' HR hz'
  have hbn := drew_below (w := W1) ⟨nq, rfl⟩; have k5 := k5.below hbn k5.lt; generalize W1.drewN nq = W2 at *; have hb := hb.trans (hbn.mono hb.size); clear hbn
  obtain ⟨L, hL⟩ : ∃ z, leftB b at_ = z := ⟨_, rfl⟩
  have HL := Lib.hid hL; clear hL
  obtain ⟨wt, hwt⟩ : ∃ z, waitZ b cnt at_ = z := ⟨_, rfl⟩
  have HWT := Lib.hid hwt; clear hwt
  obtain ⟨L2, hL2⟩ : ∃ z, leftB b (at_ + wt) = z := ⟨_, rfl⟩
  have HL2 := Lib.hid hL2; clear hL2
  have HWR := Lib.hid (show 0 ≤ wt ∧ at_ + wt ≤ 100000 by have := HW0.out.wz; have := HW0.out.r1; have := HWT.out; omega)
  obtain ⟨t2, ht2⟩ : ∃ z, at_ + wt = z := ⟨_, rfl⟩
  have f3 : IntKind.i64.wrap (at_ + wt) = t2 := by rw [← ht2]; exact IntWalk.i64_in _ (by have := HAT.out; have := HWR.out; omega)
  have HT2 := Lib.hid ht2; clear ht2
  have HA2 := Lib.hid (show (bktB b && atB b t2) = true from HW0.out.at2 (by have := HWR.out; have := HT2.out; omega) (by have := HWR.out; have := HT2.out; omega))
  have e1 : decide (L < b.lf) = false := decide_eq_false (by have := HW0.out.l1; have := HL.out; omega)
  have e2 : decide (b.sz < L) = false := decide_eq_false (by have := HW0.out.l2; have := HL.out; omega)
  have e3 : decide (wt < 0) = false := decide_eq_false (by have := HWR.out; omega)
  have e4 : decide (L2 < cnt) = false := decide_eq_false (by have h1 := HW0.out.then_; rw [HWT.out, HL2.out] at h1; omega)
  by_cases h0 : 0 < wt
  · have hno := HW0.out.no (by rw [HWT.out]; exact h0)
    rw [HL.out] at hno
    have HTK := Lib.hid hno.2.1; have HDD := Lib.hid hno.2.2
    have d1 : decide (cnt ≤ L) = false := decide_eq_false (by have := hno.1; omega)
    have d2 : (wt == 0) = false := by simp; omega
    have d3 : decide (0 < wt) = true := decide_eq_true h0
    clear hno
    obtain ⟨t3, ht3⟩ : ∃ z, t2 - 1 = z := ⟨_, rfl⟩
    have f4 : IntKind.i64.wrap (t2 - 1) = t3 := by rw [← ht3]; exact IntWalk.i64_in _ (by have := HAT.out; have := HWR.out; have := HT2.out; omega)
    have HT3 := Lib.hid ht3; clear ht3
    obtain ⟨L3, hL3⟩ : ∃ z, leftB b t3 = z := ⟨_, rfl⟩
    have HL3 := Lib.hid hL3; clear hL3
    have HA3 := Lib.hid (show (bktB b && atB b t3) = true from HW0.out.at2 (by have := HWR.out; have := HT2.out; have := HT3.out; omega) (by have := HWR.out; have := HT2.out; have := HT3.out; omega))
    have d4 : decide (L3 < cnt) = true := decide_eq_true (by have h1 := HW0.out.before (by rw [HWT.out]; exact h0); rw [HWT.out, HT2.out, HT3.out, HL3.out] at h1; exact h1)
    clear h0
    have k5_c0 := k5.cell 0; have k5_c1 := k5.cell 1; have k5_c2 := k5.cell 2; have k5_c3 := k5.cell 3; have k5_l := k5.lt
    go_wp2_with fail
    clear k5_c0 k5_c1 k5_c2 k5_c3 k5_l
    go_at_call 48; refine (impl_LeftAt_any b at_ _).mono ?_; rw [HW0.out.ah, if_pos rfl, HL.out]; rintro e W4 ⟨rfl, hbn⟩
    have k5 := k5.below hbn k5.lt; have hb := hb.trans (hbn.mono hb.size); clear hbn
    have k5_c0 := k5.cell 0; have k5_c1 := k5.cell 1; have k5_c2 := k5.cell 2; have k5_c3 := k5.cell 3; have k5_l := k5.lt
    go_wp2_with fail
    clear k5_c0 k5_c1 k5_c2 k5_c3 k5_l
    go_at_call 49; refine (impl_WaitFor_any b cnt at_ _).mono ?_; rw [HWT.out, HW0.out.wok]; rintro e W5 ⟨rfl, hbn⟩
    have k5 := k5.below hbn k5.lt; have hb := hb.trans (hbn.mono hb.size); clear hbn
    have k5_c0 := k5.cell 0; have k5_c1 := k5.cell 1; have k5_c2 := k5.cell 2; have k5_c3 := k5.cell 3; have k5_l := k5.lt
    go_wp2_with fail
    clear k5_c0 k5_c1 k5_c2 k5_c3 k5_l
    go_at_call 50; refine (impl_TakeBucket_any b cnt at_ _).mono ?_; rw [HW0.out.all, HTK.out, HDD.out, giveK_true, Bool.true_and]; rintro e W6 ⟨rfl, hbn⟩
    have k5 := k5.below hbn k5.lt; have hb := hb.trans (hbn.mono hb.size); clear hbn
    have k5_c0 := k5.cell 0; have k5_c1 := k5.cell 1; have k5_c2 := k5.cell 2; have k5_c3 := k5.cell 3; have k5_l := k5.lt
    go_wp2_with fail
    clear k5_c0 k5_c1 k5_c2 k5_c3 k5_l
    obtain ⟨k12, hbn⟩ := one_box W6 66 #[.int .i64 b.sz, .int .i64 b.ev, .int .i64 b.lf, .int .i64 b.tm]
    generalize W6.alloc (.cells #[.int .i64 b.sz, .int .i64 b.ev, .int .i64 b.lf, .int .i64 b.tm] 66) = W7 at *
    have k5 := k5.below hbn k5.lt; have hb := hb.trans (hbn.mono hb.size); clear hbn
    go_at_call 48; refine (impl_LeftAt_any b t2 _).mono ?_; rw [HA2.out, if_pos rfl, show leftB b t2 = L2 by rw [← HT2.out]; exact HL2.out]; rintro e W8 ⟨rfl, hbn⟩
    have k5 := k5.below hbn k5.lt; have k12 := k12.below hbn k12.lt; have hb := hb.trans (hbn.mono hb.size); clear hbn
    have k5_c0 := k5.cell 0; have k5_c1 := k5.cell 1; have k5_c2 := k5.cell 2; have k5_c3 := k5.cell 3; have k5_l := k5.lt
    have k12_c0 := k12.cell 0; have k12_c1 := k12.cell 1; have k12_c2 := k12.cell 2; have k12_c3 := k12.cell 3; have k12_l := k12.lt
    go_wp2_with fail
    clear k5_c0 k5_c1 k5_c2 k5_c3 k5_l
    clear k12_c0 k12_c1 k12_c2 k12_c3 k12_l
    go_at_call 48; refine (impl_LeftAt_any b t3 _).mono ?_; rw [HA3.out, if_pos rfl, HL3.out]; rintro e W9 ⟨rfl, hbn⟩
    have k5 := k5.below hbn k5.lt; have k12 := k12.below hbn k12.lt; have hb := hb.trans (hbn.mono hb.size); clear hbn
    have k5_c0 := k5.cell 0; have k5_c1 := k5.cell 1; have k5_c2 := k5.cell 2; have k5_c3 := k5.cell 3; have k5_l := k5.lt
    have k12_c0 := k12.cell 0; have k12_c1 := k12.cell 1; have k12_c2 := k12.cell 2; have k12_c3 := k12.cell 3; have k12_l := k12.lt
    go_wp2
    go_ret
    exact ⟨rfl, hb⟩
  · have hno := HW0.out.yes (by rw [HWT.out]; exact h0)
    rw [HL.out, HWT.out] at hno
    have htk := HW0.out.taken (by rw [HL.out]; exact hno.2.1)
    rw [HL.out] at htk
    obtain ⟨tk, hk⟩ : ∃ z, takeB b cnt at_ = z := ⟨_, rfl⟩
    rw [hk] at htk
    have HTK := Lib.hid hk; have HDD := Lib.hid hno.2.2; have HTA := Lib.hid htk.1; have HTL := Lib.hid htk.2
    have d1 : decide (cnt ≤ L) = true := decide_eq_true (by have := hno.2.1; omega)
    have d2 : (wt == 0) = true := by simp; exact hno.1
    have d3 : decide (0 < wt) = false := decide_eq_false h0
    have f5 : IntKind.i64.wrap (L - cnt) = L - cnt := IntWalk.i64_in _ (by have := hno.2.1; have := HW0.out.l2; have := HL.out; have := HB.out; have := hsz.out; have h1 := ask_le HW0.out.hc; omega)
    have HFU := Lib.hid HW0.out.full
    clear hno htk hk h0
    have k5_c0 := k5.cell 0; have k5_c1 := k5.cell 1; have k5_c2 := k5.cell 2; have k5_c3 := k5.cell 3; have k5_l := k5.lt
    go_wp2_with fail
    clear k5_c0 k5_c1 k5_c2 k5_c3 k5_l
    go_at_call 48; refine (impl_LeftAt_any b at_ _).mono ?_; rw [HW0.out.ah, if_pos rfl, HL.out]; rintro e W24 ⟨rfl, hbn⟩
    have k5 := k5.below hbn k5.lt; have hb := hb.trans (hbn.mono hb.size); clear hbn
    have k5_c0 := k5.cell 0; have k5_c1 := k5.cell 1; have k5_c2 := k5.cell 2; have k5_c3 := k5.cell 3; have k5_l := k5.lt
    go_wp2_with fail
    clear k5_c0 k5_c1 k5_c2 k5_c3 k5_l
    go_at_call 49; refine (impl_WaitFor_any b cnt at_ _).mono ?_; rw [HWT.out, HW0.out.wok]; rintro e W25 ⟨rfl, hbn⟩
    have k5 := k5.below hbn k5.lt; have hb := hb.trans (hbn.mono hb.size); clear hbn
    have k5_c0 := k5.cell 0; have k5_c1 := k5.cell 1; have k5_c2 := k5.cell 2; have k5_c3 := k5.cell 3; have k5_l := k5.lt
    go_wp2_with fail
    clear k5_c0 k5_c1 k5_c2 k5_c3 k5_l
    go_at_call 50; refine (impl_TakeBucket_any b cnt at_ _).mono ?_; rw [HW0.out.all, HTK.out, HDD.out, giveK_true, Bool.true_and]; rintro e W26 ⟨rfl, hbn⟩
    have k5 := k5.below hbn k5.lt; have hb := hb.trans (hbn.mono hb.size); clear hbn
    have k5_c0 := k5.cell 0; have k5_c1 := k5.cell 1; have k5_c2 := k5.cell 2; have k5_c3 := k5.cell 3; have k5_l := k5.lt
    go_wp2_with fail
    clear k5_c0 k5_c1 k5_c2 k5_c3 k5_l
    obtain ⟨k12, hbn⟩ := one_box W26 66 #[.int .i64 tk.sz, .int .i64 tk.ev, .int .i64 tk.lf, .int .i64 tk.tm]
    generalize W26.alloc (.cells #[.int .i64 tk.sz, .int .i64 tk.ev, .int .i64 tk.lf, .int .i64 tk.tm] 66) = W27 at *
    have k5 := k5.below hbn k5.lt; have hb := hb.trans (hbn.mono hb.size); clear hbn
    go_at_call 48; refine (impl_LeftAt_any b t2 _).mono ?_; rw [HA2.out, if_pos rfl, show leftB b t2 = L2 by rw [← HT2.out]; exact HL2.out]; rintro e W28 ⟨rfl, hbn⟩
    have k5 := k5.below hbn k5.lt; have k12 := k12.below hbn k12.lt; have hb := hb.trans (hbn.mono hb.size); clear hbn
    have k5_c0 := k5.cell 0; have k5_c1 := k5.cell 1; have k5_c2 := k5.cell 2; have k5_c3 := k5.cell 3; have k5_l := k5.lt
    have k12_c0 := k12.cell 0; have k12_c1 := k12.cell 1; have k12_c2 := k12.cell 2; have k12_c3 := k12.cell 3; have k12_l := k12.lt
    go_wp2_with fail
    clear k5_c0 k5_c1 k5_c2 k5_c3 k5_l
    clear k12_c0 k12_c1 k12_c2 k12_c3 k12_l
    go_at_call 48; refine (impl_LeftAt_any tk at_ _).mono ?_; rw [HTA.out, if_pos rfl, HTL.out]; rintro e W29 ⟨rfl, hbn⟩
    have k5 := k5.below hbn k5.lt; have k12 := k12.below hbn k12.lt; have hb := hb.trans (hbn.mono hb.size); clear hbn
    have k5_c0 := k5.cell 0; have k5_c1 := k5.cell 1; have k5_c2 := k5.cell 2; have k5_c3 := k5.cell 3; have k5_l := k5.lt
    have k12_c0 := k12.cell 0; have k12_c1 := k12.cell 1; have k12_c2 := k12.cell 2; have k12_c3 := k12.cell 3; have k12_l := k12.lt
    go_wp2_with fail
    clear k5_c0 k5_c1 k5_c2 k5_c3 k5_l
    clear k12_c0 k12_c1 k12_c2 k12_c3 k12_l
    go_at_call 51; refine (impl_NewBucket_any b.sz b.ev at_ _).mono ?_; rw [HFU.out.1, giveK_true]; rintro e W30 ⟨rfl, hbn⟩
    have k5 := k5.below hbn k5.lt; have k12 := k12.below hbn k12.lt; have hb := hb.trans (hbn.mono hb.size); clear hbn
    have k5_c0 := k5.cell 0; have k5_c1 := k5.cell 1; have k5_c2 := k5.cell 2; have k5_c3 := k5.cell 3; have k5_l := k5.lt
    have k12_c0 := k12.cell 0; have k12_c1 := k12.cell 1; have k12_c2 := k12.cell 2; have k12_c3 := k12.cell 3; have k12_l := k12.lt
    go_wp2_with fail
    clear k5_c0 k5_c1 k5_c2 k5_c3 k5_l
    clear k12_c0 k12_c1 k12_c2 k12_c3 k12_l
    obtain ⟨k21, hbn⟩ := one_box W30 66 #[.int .i64 b.sz, .int .i64 b.ev, .int .i64 b.sz, .int .i64 at_]
    generalize W30.alloc (.cells #[.int .i64 b.sz, .int .i64 b.ev, .int .i64 b.sz, .int .i64 at_] 66) = W31 at *
    have k5 := k5.below hbn k5.lt; have k12 := k12.below hbn k12.lt; have hb := hb.trans (hbn.mono hb.size); clear hbn
    go_at_call 48; refine (impl_LeftAt_any ⟨b.sz, b.ev, b.sz, at_⟩ at_ _).mono ?_; rw [HFU.out.2.1, if_pos rfl, HFU.out.2.2]; rintro e W32 ⟨rfl, hbn⟩
    have k5 := k5.below hbn k5.lt; have k12 := k12.below hbn k12.lt; have k21 := k21.below hbn k21.lt; have hb := hb.trans (hbn.mono hb.size); clear hbn
    have k5_c0 := k5.cell 0; have k5_c1 := k5.cell 1; have k5_c2 := k5.cell 2; have k5_c3 := k5.cell 3; have k5_l := k5.lt
    have k12_c0 := k12.cell 0; have k12_c1 := k12.cell 1; have k12_c2 := k12.cell 2; have k12_c3 := k12.cell 3; have k12_l := k12.lt
    have k21_c0 := k21.cell 0; have k21_c1 := k21.cell 1; have k21_c2 := k21.cell 2; have k21_c3 := k21.cell 3; have k21_l := k21.lt
    go_wp2
    go_ret
    exact ⟨rfl, hb⟩
end Go.Proofs.Ytmdoddikaaaamab
