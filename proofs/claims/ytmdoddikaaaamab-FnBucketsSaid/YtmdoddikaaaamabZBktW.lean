import Derived.Test.YtmdoddikaaaamabChecked
import Derived.WalkKit
import Derived.ProofKit
import Derived.OpenShut
import Derived.ShutString
import Derived.ChangeOld
import Derived.Below
import Derived.Lib.Hide
import Derived.Deep.QuietTactic
import Derived.BigQuiet
import Derived.Lib.MinMax
import Derived.Test.YtmdoddikaaaamabZBktT
import Derived.Test.YtmdoddikaaaamabZBktS
namespace Go.Proofs.Ytmdoddikaaaamab
open Go.ChangeShapes Go.WideShapes Go.ChangeAt Go.RowKit
open Go.ChangeMaps (open_string shut_string)
set_option linter.unusedVariables false
set_option maxRecDepth 100000
theorem ret_zb {z z' : Int} {b b' : Bool} (h1 : z = z') (h2 : b = b') : Ending.returned (.tuple #[.int .i64 z, .bool b]) = .returned (.tuple #[.int .i64 z', .bool b']) := by rw [h1, h2]
def waitOk (b : Bk) (count at_ : Int) : Bool := bktB b && atB b at_ && askB b count && decide (max at_ (readyB b count) ≤ 1000000)
def waitZ (b : Bk) (count at_ : Int) : Int := if waitOk b count at_ then max at_ (readyB b count) - at_ else 0
theorem waitZ_no {b : Bk} {count at_ : Int} (h : waitOk b count at_ = false) : waitZ b count at_ = 0 := by unfold waitZ; rw [h]; rfl
theorem waitZ_yes {b : Bk} {count at_ : Int} (h : waitOk b count at_ = true) : waitZ b count at_ = max at_ (readyB b count) - at_ := by unfold waitZ; rw [if_pos h]
theorem wait_no1 {b : Bk} {count at_ : Int} (h : (bktB b && atB b at_) = false) : waitZ b count at_ = 0 ∧ waitOk b count at_ = false := by
  have : waitOk b count at_ = false := by unfold waitOk; rw [h]; rfl
  exact ⟨waitZ_no this, this⟩
theorem wait_no2 {b : Bk} {count at_ : Int} (h : askB b count = false) : waitZ b count at_ = 0 ∧ waitOk b count at_ = false := by
  have : waitOk b count at_ = false := by unfold waitOk; rw [h, Bool.and_false]; rfl
  exact ⟨waitZ_no this, this⟩
theorem ask_mul {b : Bk} {count : Int} (s2 : b.sz ≤ 1000) (e1 : 1 ≤ b.ev) (e2 : b.ev ≤ 1000000) (l1 : 0 ≤ b.lf) (l2 : b.lf ≤ b.sz) (q1 : 1 ≤ count) (q2 : count ≤ b.sz) : -1000000000 ≤ (count - b.lf) * b.ev ∧ (count - b.lf) * b.ev ≤ 1000000000 := by
  have h1 : 0 ≤ (1000 - (count - b.lf)) * b.ev := Int.mul_nonneg (by omega) (by omega)
  have h2 : 0 ≤ (1000 + (count - b.lf)) * b.ev := Int.mul_nonneg (by omega) (by omega)
  rw [Int.sub_mul] at h1
  rw [Int.add_mul] at h2
  omega
theorem wait_no3 {b : Bk} {count at_ : Int} (h1 : (bktB b && atB b at_) = true) (h2 : askB b count = true) (h : tickB (max at_ (b.tm + (count - b.lf) * b.ev)) = false) : waitZ b count at_ = 0 ∧ waitOk b count at_ = false := by
  obtain ⟨hb1, hb2⟩ := and_both h1
  obtain ⟨a1, a2⟩ := at_le hb2
  have ok := bktB_ok hb1
  have t1 := ok.t1
  have : waitOk b count at_ = false := by
    unfold waitOk
    rw [h1, h2, Bool.true_and, Bool.true_and]
    simp [tickB] at h
    unfold readyB
    exact decide_eq_false (by omega)
  exact ⟨waitZ_no this, this⟩
theorem wait_yes {b : Bk} {count at_ : Int} (h1 : (bktB b && atB b at_) = true) (h2 : askB b count = true) (h : tickB (max at_ (b.tm + (count - b.lf) * b.ev)) = true) : waitZ b count at_ = max at_ (b.tm + (count - b.lf) * b.ev) - at_ ∧ waitOk b count at_ = true := by
  have : waitOk b count at_ = true := by
    unfold waitOk
    rw [h1, h2, Bool.true_and, Bool.true_and]
    simp [tickB] at h
    unfold readyB
    exact decide_eq_true (by omega)
  exact ⟨by rw [waitZ_yes this]; rfl, this⟩
/-- enough drops at a tick, and the tick at which the last of them comes -/
theorem left_iff {b : Bk} {count at_ : Int} (h1 : (bktB b && atB b at_) = true) (h2 : askB b count = true) : count ≤ leftB b at_ ↔ readyB b count ≤ at_ := by
  obtain ⟨hb1, hb2⟩ := and_both h1
  obtain ⟨a1, a2⟩ := at_le hb2
  obtain ⟨s1, s2, e1, e2, l1, l2, t1, t2⟩ := bktB_ok hb1
  obtain ⟨q1, q2⟩ := ask_le h2
  unfold leftB readyB
  have hd : (count - b.lf) ≤ (at_ - b.tm) / b.ev ↔ (count - b.lf) * b.ev ≤ at_ - b.tm := Int.le_ediv_iff_mul_le (by omega)
  omega
theorem wait_now {b : Bk} {count at_ : Int} (h1 : (bktB b && atB b at_) = true) (h2 : askB b count = true) (h : count ≤ leftB b at_) : waitZ b count at_ = 0 ∧ waitOk b count at_ = true := by
  have hr := (left_iff h1 h2).1 h
  obtain ⟨hb1, hb2⟩ := and_both h1
  obtain ⟨a1, a2⟩ := at_le hb2
  have : waitOk b count at_ = true := by
    unfold waitOk
    rw [h1, h2, Bool.true_and, Bool.true_and]
    exact decide_eq_true (by omega)
  exact ⟨by rw [waitZ_yes this]; omega, this⟩
theorem wait_gt {b : Bk} {count at_ : Int} (h1 : (bktB b && atB b at_) = true) (h2 : askB b count = true) (h : ¬ count ≤ leftB b at_) : at_ < b.tm + (count - b.lf) * b.ev := by
  have hr : ¬ readyB b count ≤ at_ := fun x => h ((left_iff h1 h2).2 x)
  unfold readyB at hr
  omega
theorem wait_late {b : Bk} {count at_ : Int} (h1 : (bktB b && atB b at_) = true) (h2 : askB b count = true) (h : ¬ count ≤ leftB b at_) (h3 : 1000000 < b.tm + (count - b.lf) * b.ev) : waitZ b count at_ = 0 ∧ waitOk b count at_ = false := by
  have : waitOk b count at_ = false := by
    unfold waitOk
    rw [h1, h2, Bool.true_and, Bool.true_and]
    unfold readyB
    exact decide_eq_false (by omega)
  exact ⟨waitZ_no this, this⟩
theorem wait_then {b : Bk} {count at_ : Int} (h1 : (bktB b && atB b at_) = true) (h2 : askB b count = true) (h : ¬ count ≤ leftB b at_) (h3 : ¬ 1000000 < b.tm + (count - b.lf) * b.ev) : waitZ b count at_ = b.tm + (count - b.lf) * b.ev - at_ ∧ waitOk b count at_ = true := by
  have hg := wait_gt h1 h2 h
  obtain ⟨hb1, hb2⟩ := and_both h1
  obtain ⟨a1, a2⟩ := at_le hb2
  have : waitOk b count at_ = true := by
    unfold waitOk
    rw [h1, h2, Bool.true_and, Bool.true_and]
    unfold readyB
    exact decide_eq_true (by omega)
  refine ⟨?_, this⟩
  rw [waitZ_yes this]
  unfold readyB
  omega
set_option maxHeartbeats 3200000 in
theorem impl_WaitFor_any (b : Bk) (count at_ : Int) (w : World) : Calls Try.prog 49 #[.agg #[.int .i64 b.sz, .int .i64 b.ev, .int .i64 b.lf, .int .i64 b.tm], .int .i64 count, .int .i64 at_] w fun x w' => x = .returned (.tuple #[.int .i64 (waitZ b count at_), .bool (waitOk b count at_)]) ∧ Below w.heap.size w w' := by
  cases h1 : (bktB b && atB b at_) with
  | false =>
    have E := Lib.hid (wait_no1 (count := count) h1)
    go_enter Try.func49, Try.ntmps49
    go_wp2_with fail
    obtain ⟨k0, hbn⟩ := one_box w 66 #[.int .i64 b.sz, .int .i64 b.ev, .int .i64 b.lf, .int .i64 b.tm]
    have sk0 : w.heap.size ≤ w.heap.size := Nat.le_refl _
    generalize w.alloc (.cells #[.int .i64 b.sz, .int .i64 b.ev, .int .i64 b.lf, .int .i64 b.tm] 66) = W1 at *
    have hb := hbn
    clear hbn
    have hsz := hb.size
    go_at_call 48; refine (impl_LeftAt_any b at_ _).mono ?_; rw [h1]; rintro e W2 ⟨rfl, hbn⟩
    have k0 := k0.below hbn k0.lt
    have hb := hb.trans (hbn.mono hb.size)
    clear hbn
    have hsz := hb.size
    skip
    have k0_c0 := k0.cell 0; have k0_f0 := k0.frozen 0; have k0_c1 := k0.cell 1; have k0_f1 := k0.frozen 1; have k0_c2 := k0.cell 2; have k0_f2 := k0.frozen 2; have k0_c3 := k0.cell 3; have k0_f3 := k0.frozen 3; have k0_l := k0.lt
    go_wp2
    go_ret2
    exact ⟨ret_zb E.out.1.symm E.out.2.symm, hb⟩
  | true =>
    obtain ⟨hb1, hb2⟩ := and_both h1
    obtain ⟨s1, s2, e1, e2, l1, l2, t1, t2⟩ := bktB_ok hb1
    obtain ⟨a1, a2⟩ := at_le hb2
    obtain ⟨lz, hlz⟩ : ∃ z, leftB b at_ = z := ⟨_, rfl⟩
    have HL := Lib.hid hlz
    clear hlz
    cases h2 : askB b count with
    | false =>
      have E := Lib.hid (wait_no2 (at_ := at_) h2)
      go_enter Try.func49, Try.ntmps49
      go_wp2_with fail
      obtain ⟨k0, hbn⟩ := one_box w 66 #[.int .i64 b.sz, .int .i64 b.ev, .int .i64 b.lf, .int .i64 b.tm]
      have sk0 : w.heap.size ≤ w.heap.size := Nat.le_refl _
      generalize w.alloc (.cells #[.int .i64 b.sz, .int .i64 b.ev, .int .i64 b.lf, .int .i64 b.tm] 66) = W1 at *
      have hb := hbn
      clear hbn
      have hsz := hb.size
      go_at_call 48; refine (impl_LeftAt_any b at_ _).mono ?_; rw [h1, if_pos rfl, HL.out]; rintro e W2 ⟨rfl, hbn⟩
      have k0 := k0.below hbn k0.lt
      have hb := hb.trans (hbn.mono hb.size)
      clear hbn
      have hsz := hb.size
      have k0_c0 := k0.cell 0; have k0_f0 := k0.frozen 0; have k0_c1 := k0.cell 1; have k0_f1 := k0.frozen 1; have k0_c2 := k0.cell 2; have k0_f2 := k0.frozen 2; have k0_c3 := k0.cell 3; have k0_f3 := k0.frozen 3; have k0_l := k0.lt
      go_wp2_with fail
      clear k0_c0 k0_f0 k0_c1 k0_f1 k0_c2 k0_f2 k0_c3 k0_f3 k0_l
      go_at_call 113; refine (mayAskFor_b _ _ _ _ h2).mono ?_; rintro e W3 ⟨rfl, hbn⟩
      have k0 := k0.below hbn k0.lt
      have hb := hb.trans (hbn.mono hb.size)
      clear hbn
      have hsz := hb.size
      have k0_c0 := k0.cell 0; have k0_f0 := k0.frozen 0; have k0_c1 := k0.cell 1; have k0_f1 := k0.frozen 1; have k0_c2 := k0.cell 2; have k0_f2 := k0.frozen 2; have k0_c3 := k0.cell 3; have k0_f3 := k0.frozen 3; have k0_l := k0.lt
      go_wp2
      go_ret2
      exact ⟨ret_zb E.out.1.symm E.out.2.symm, hb⟩
    | true =>
      obtain ⟨q1, q2⟩ := ask_le h2
      have m0 := ask_mul (b := b) s2 e1 e2 l1 l2 q1 q2
      have f0 : IntKind.i64.wrap (count - b.lf) = count - b.lf := IntWalk.i64_in _ (by omega)
      have f1 : IntKind.i64.wrap ((count - b.lf) * b.ev) = (count - b.lf) * b.ev := IntWalk.i64_in _ (by omega)
      have f2 : IntKind.i64.wrap (b.tm + (count - b.lf) * b.ev) = b.tm + (count - b.lf) * b.ev := IntWalk.i64_in _ (by omega)
      cases h5 : tickB (max at_ (b.tm + (count - b.lf) * b.ev)) with
      | false =>
        have E := Lib.hid (wait_no3 h1 h2 h5)
        go_enter Try.func49, Try.ntmps49
        go_wp2_with fail
        obtain ⟨k0, hbn⟩ := one_box w 66 #[.int .i64 b.sz, .int .i64 b.ev, .int .i64 b.lf, .int .i64 b.tm]
        have sk0 : w.heap.size ≤ w.heap.size := Nat.le_refl _
        generalize w.alloc (.cells #[.int .i64 b.sz, .int .i64 b.ev, .int .i64 b.lf, .int .i64 b.tm] 66) = W1 at *
        have hb := hbn
        clear hbn
        have hsz := hb.size
        go_at_call 48; refine (impl_LeftAt_any b at_ _).mono ?_; rw [h1, if_pos rfl, HL.out]; rintro e W2 ⟨rfl, hbn⟩
        have k0 := k0.below hbn k0.lt
        have hb := hb.trans (hbn.mono hb.size)
        clear hbn
        have hsz := hb.size
        have k0_c0 := k0.cell 0; have k0_f0 := k0.frozen 0; have k0_c1 := k0.cell 1; have k0_f1 := k0.frozen 1; have k0_c2 := k0.cell 2; have k0_f2 := k0.frozen 2; have k0_c3 := k0.cell 3; have k0_f3 := k0.frozen 3; have k0_l := k0.lt
        go_wp2_with fail
        clear k0_c0 k0_f0 k0_c1 k0_f1 k0_c2 k0_f2 k0_c3 k0_f3 k0_l
        go_at_call 113; refine (mayAskFor_b _ _ _ _ h2).mono ?_; rintro e W3 ⟨rfl, hbn⟩
        have k0 := k0.below hbn k0.lt
        have hb := hb.trans (hbn.mono hb.size)
        clear hbn
        have hsz := hb.size
        have k0_c0 := k0.cell 0; have k0_f0 := k0.frozen 0; have k0_c1 := k0.cell 1; have k0_f1 := k0.frozen 1; have k0_c2 := k0.cell 2; have k0_f2 := k0.frozen 2; have k0_c3 := k0.cell 3; have k0_f3 := k0.frozen 3; have k0_l := k0.lt
        go_wp2_with fail
        clear k0_c0 k0_f0 k0_c1 k0_f1 k0_c2 k0_f2 k0_c3 k0_f3 k0_l
        go_at_call 60; refine (isTick_b _ _ _ h5).mono ?_; rintro e W4 ⟨rfl, rfl⟩
        have k0_c0 := k0.cell 0; have k0_f0 := k0.frozen 0; have k0_c1 := k0.cell 1; have k0_f1 := k0.frozen 1; have k0_c2 := k0.cell 2; have k0_f2 := k0.frozen 2; have k0_c3 := k0.cell 3; have k0_f3 := k0.frozen 3; have k0_l := k0.lt
        go_wp2
        go_ret2
        exact ⟨ret_zb E.out.1.symm E.out.2.symm, hb⟩
      | true =>
        have E := Lib.hid (wait_yes h1 h2 h5)
        obtain ⟨mx, hmx⟩ : ∃ z, max at_ (b.tm + (count - b.lf) * b.ev) = z := ⟨_, rfl⟩
        have hm1 : at_ ≤ mx := by omega
        have hm2 : mx ≤ 1000000 := by rw [hmx] at h5; simp [tickB] at h5; omega
        have f5 : IntKind.i64.wrap (mx - at_) = mx - at_ := IntWalk.i64_in _ (by omega)
        rw [hmx] at E h5
        go_enter Try.func49, Try.ntmps49
        go_wp2_with fail
        obtain ⟨k0, hbn⟩ := one_box w 66 #[.int .i64 b.sz, .int .i64 b.ev, .int .i64 b.lf, .int .i64 b.tm]
        have sk0 : w.heap.size ≤ w.heap.size := Nat.le_refl _
        generalize w.alloc (.cells #[.int .i64 b.sz, .int .i64 b.ev, .int .i64 b.lf, .int .i64 b.tm] 66) = W1 at *
        have hb := hbn
        clear hbn
        have hsz := hb.size
        go_at_call 48; refine (impl_LeftAt_any b at_ _).mono ?_; rw [h1, if_pos rfl, HL.out]; rintro e W2 ⟨rfl, hbn⟩
        have k0 := k0.below hbn k0.lt
        have hb := hb.trans (hbn.mono hb.size)
        clear hbn
        have hsz := hb.size
        have k0_c0 := k0.cell 0; have k0_f0 := k0.frozen 0; have k0_c1 := k0.cell 1; have k0_f1 := k0.frozen 1; have k0_c2 := k0.cell 2; have k0_f2 := k0.frozen 2; have k0_c3 := k0.cell 3; have k0_f3 := k0.frozen 3; have k0_l := k0.lt
        go_wp2_with fail
        clear k0_c0 k0_f0 k0_c1 k0_f1 k0_c2 k0_f2 k0_c3 k0_f3 k0_l
        go_at_call 113; refine (mayAskFor_b _ _ _ _ h2).mono ?_; rintro e W3 ⟨rfl, hbn⟩
        have k0 := k0.below hbn k0.lt
        have hb := hb.trans (hbn.mono hb.size)
        clear hbn
        have hsz := hb.size
        have k0_c0 := k0.cell 0; have k0_f0 := k0.frozen 0; have k0_c1 := k0.cell 1; have k0_f1 := k0.frozen 1; have k0_c2 := k0.cell 2; have k0_f2 := k0.frozen 2; have k0_c3 := k0.cell 3; have k0_f3 := k0.frozen 3; have k0_l := k0.lt
        go_wp2_with fail
        clear k0_c0 k0_f0 k0_c1 k0_f1 k0_c2 k0_f2 k0_c3 k0_f3 k0_l
        go_at_call 60; refine (isTick_b _ _ _ h5).mono ?_; rintro e W4 ⟨rfl, rfl⟩
        clear hmx
        have k0_c0 := k0.cell 0; have k0_f0 := k0.frozen 0; have k0_c1 := k0.cell 1; have k0_f1 := k0.frozen 1; have k0_c2 := k0.cell 2; have k0_f2 := k0.frozen 2; have k0_c3 := k0.cell 3; have k0_f3 := k0.frozen 3; have k0_l := k0.lt
        go_wp2
        go_ret2
        exact ⟨ret_zb E.out.1.symm E.out.2.symm, hb⟩
end Go.Proofs.Ytmdoddikaaaamab
