import Derived.Test.YtmdoddikaaaamabChecked
import Derived.WalkKit
import Derived.ProofKit
import Derived.OpenShut
import Derived.ShutString
import Derived.ChangeOld
import Derived.Below
import Derived.Lib.Hide
import Derived.Deep.QuietTactic
import Derived.BigQuiet
import Derived.BigGuardPart
import Derived.Lib.MinMax
import Derived.Test.YtmdoddikaaaamabZBktI
import Derived.Test.YtmdoddikaaaamabZBktS
import Derived.Test.YtmdoddikaaaamabJr
namespace Go.Proofs.Ytmdoddikaaaamab
open Go.ChangeShapes Go.WideShapes Go.ChangeAt Go.RowKit
open Go.ChangeMaps (open_string shut_string)
set_option linter.unusedVariables false
set_option maxRecDepth 100000
def giveK : Bool → Bk → Bk | true, b => b | false, _ => bk0
theorem at_tick_no {b : Bk} {at_ : Int} (h : tickB at_ = false) (t1 : 0 ≤ b.tm) : atB b at_ = false := by
  simp [tickB] at h
  simp [atB]
  omega
theorem at_low {b : Bk} {at_ : Int} (h : at_ < b.tm) : atB b at_ = false := by simp [atB]; omega
theorem at_yes {b : Bk} {at_ : Int} (h : tickB at_ = true) (h2 : ¬ at_ < b.tm) : atB b at_ = true := by
  simp [tickB] at h
  simp [atB]
  omega
theorem at_le {b : Bk} {at_ : Int} (h : atB b at_ = true) : b.tm ≤ at_ ∧ at_ ≤ 1000000 := by simpa [atB] using h
set_option maxHeartbeats 1600000 in
theorem impl_NewBucket_any (s e t : Int) (w : World) : Calls Try.prog 51 #[.int .i64 s, .int .i64 e, .int .i64 t] w fun x w' => x = .returned (.tuple #[.agg #[.int .i64 (giveK (bktB ⟨s, e, s, t⟩) ⟨s, e, s, t⟩).sz, .int .i64 (giveK (bktB ⟨s, e, s, t⟩) ⟨s, e, s, t⟩).ev, .int .i64 (giveK (bktB ⟨s, e, s, t⟩) ⟨s, e, s, t⟩).lf, .int .i64 (giveK (bktB ⟨s, e, s, t⟩) ⟨s, e, s, t⟩).tm], .bool (bktB ⟨s, e, s, t⟩)]) ∧ Below w.heap.size w w' := by
  cases h : bktB ⟨s, e, s, t⟩ with
  | false =>
    go_enter Try.func51, Try.ntmps51
    go_wp2_with fail
    obtain ⟨k0, k1, hbn⟩ := two_boxes w 66 66 #[.int .i64 0, .int .i64 0, .int .i64 0, .int .i64 0] #[.int .i64 s, .int .i64 e, .int .i64 s, .int .i64 t]
    generalize (w.alloc (.cells #[.int .i64 0, .int .i64 0, .int .i64 0, .int .i64 0] 66)).alloc (.cells #[.int .i64 s, .int .i64 e, .int .i64 s, .int .i64 t] 66) = W1 at *
    have hb := hbn
    clear hbn
    have hsz := hb.size
    go_at_call 54; refine (impl_ValidBucket_b ⟨s, e, s, t⟩ _ _ h).mono ?_; rintro e W2 ⟨rfl, hbn⟩
    have k0 := k0.below hbn k0.lt
    have k1 := k1.below hbn k1.lt
    have hb := hb.trans (hbn.mono hb.size)
    clear hbn
    have hsz := hb.size
    have k0_c0 := k0.cell 0; have k0_f0 := k0.frozen 0; have k0_c1 := k0.cell 1; have k0_f1 := k0.frozen 1; have k0_c2 := k0.cell 2; have k0_f2 := k0.frozen 2; have k0_c3 := k0.cell 3; have k0_f3 := k0.frozen 3; have k0_l := k0.lt
    have k1_c0 := k1.cell 0; have k1_f0 := k1.frozen 0; have k1_c1 := k1.cell 1; have k1_f1 := k1.frozen 1; have k1_c2 := k1.cell 2; have k1_f2 := k1.frozen 2; have k1_c3 := k1.cell 3; have k1_f3 := k1.frozen 3; have k1_l := k1.lt
    go_wp2
    refine bodyPost_ret (v := .tuple #[.agg #[.int .i64 0, .int .i64 0, .int .i64 0, .int .i64 0], .bool false]) (by simp [results, Try.results51, go_sem, k0_c0, k0_c1, k0_c2, k0_c3]) rfl ?_
    exact ⟨rfl, (by repeat (first | exact hb | exact Below.refl _ _ | refine Below.setCell ?_ (by first | (simp; done) | (simp; omega) | omega) _ | refine Below.alloc ?_ (by first | (simp; done) | (simp; omega) | omega) _))⟩
  | true =>
    go_enter Try.func51, Try.ntmps51
    go_wp2_with fail
    obtain ⟨k0, k1, hbn⟩ := two_boxes w 66 66 #[.int .i64 0, .int .i64 0, .int .i64 0, .int .i64 0] #[.int .i64 s, .int .i64 e, .int .i64 s, .int .i64 t]
    generalize (w.alloc (.cells #[.int .i64 0, .int .i64 0, .int .i64 0, .int .i64 0] 66)).alloc (.cells #[.int .i64 s, .int .i64 e, .int .i64 s, .int .i64 t] 66) = W1 at *
    have hb := hbn
    clear hbn
    have hsz := hb.size
    go_at_call 54; refine (impl_ValidBucket_b ⟨s, e, s, t⟩ _ _ h).mono ?_; rintro e W2 ⟨rfl, hbn⟩
    have k0 := k0.below hbn k0.lt
    have k1 := k1.below hbn k1.lt
    have hb := hb.trans (hbn.mono hb.size)
    clear hbn
    have hsz := hb.size
    have k0_c0 := k0.cell 0; have k0_f0 := k0.frozen 0; have k0_c1 := k0.cell 1; have k0_f1 := k0.frozen 1; have k0_c2 := k0.cell 2; have k0_f2 := k0.frozen 2; have k0_c3 := k0.cell 3; have k0_f3 := k0.frozen 3; have k0_l := k0.lt
    have k1_c0 := k1.cell 0; have k1_f0 := k1.frozen 0; have k1_c1 := k1.cell 1; have k1_f1 := k1.frozen 1; have k1_c2 := k1.cell 2; have k1_f2 := k1.frozen 2; have k1_c3 := k1.cell 3; have k1_f3 := k1.frozen 3; have k1_l := k1.lt
    go_wp2
    refine bodyPost_ret (v := .tuple #[.agg #[.int .i64 s, .int .i64 e, .int .i64 s, .int .i64 t], .bool true]) (by simp [results, Try.results51, go_sem, k0_c0, k0_c1, k0_c2, k0_c3]) rfl ?_
    exact ⟨rfl, (by repeat (first | exact hb | exact Below.refl _ _ | refine Below.setCell ?_ (by first | (simp; done) | (simp; omega) | omega) _ | refine Below.alloc ?_ (by first | (simp; done) | (simp; omega) | omega) _))⟩
set_option maxHeartbeats 1600000 in
theorem impl_LeftAt_any (b : Bk) (at_ : Int) (w : World) : Calls Try.prog 48 #[.agg #[.int .i64 b.sz, .int .i64 b.ev, .int .i64 b.lf, .int .i64 b.tm], .int .i64 at_] w fun x w' => x = .returned (.tuple #[.int .i64 (if bktB b && atB b at_ then leftB b at_ else 0), .bool (bktB b && atB b at_)]) ∧ Below w.heap.size w w' := by
  cases h1 : bktB b with
  | false =>
    simp only [Bool.false_and]
    go_enter Try.func48, Try.ntmps48
    go_wp2_with fail
    obtain ⟨k0, hbn⟩ := one_box w 66 #[.int .i64 b.sz, .int .i64 b.ev, .int .i64 b.lf, .int .i64 b.tm]
    have sk0 : w.heap.size ≤ w.heap.size := Nat.le_refl _
    generalize w.alloc (.cells #[.int .i64 b.sz, .int .i64 b.ev, .int .i64 b.lf, .int .i64 b.tm] 66) = W1 at *
    have hb := hbn
    clear hbn
    have hsz := hb.size
    go_at_call 54; refine (impl_ValidBucket_b _ _ _ h1).mono ?_; rintro e W2 ⟨rfl, hbn⟩
    have k0 := k0.below hbn k0.lt
    have hb := hb.trans (hbn.mono hb.size)
    clear hbn
    have hsz := hb.size
    have k0_c0 := k0.cell 0; have k0_f0 := k0.frozen 0; have k0_c1 := k0.cell 1; have k0_f1 := k0.frozen 1; have k0_c2 := k0.cell 2; have k0_f2 := k0.frozen 2; have k0_c3 := k0.cell 3; have k0_f3 := k0.frozen 3; have k0_l := k0.lt
    go_wp2
    refine bodyPost_ret (v := .tuple #[.int .i64 0, .bool false]) (by simp [results, Try.results48, go_sem]) rfl ?_
    exact ⟨rfl, (by repeat (first | exact hb | exact Below.refl _ _ | refine Below.setCell ?_ (by first | (simp; done) | (simp; omega) | omega) _ | refine Below.alloc ?_ (by first | (simp; done) | (simp; omega) | omega) _))⟩
  | true =>
    simp only [Bool.true_and]
    have ok := bktB_ok h1
    obtain ⟨s1, s2, e1, e2, l1, l2, t1, t2⟩ := bktB_ok h1
    cases h2 : tickB at_ with
    | false =>
      have ha : atB b at_ = false := at_tick_no h2 t1
      rw [ha]
      go_enter Try.func48, Try.ntmps48
      go_wp2_with fail
      obtain ⟨k0, hbn⟩ := one_box w 66 #[.int .i64 b.sz, .int .i64 b.ev, .int .i64 b.lf, .int .i64 b.tm]
      have sk0 : w.heap.size ≤ w.heap.size := Nat.le_refl _
      generalize w.alloc (.cells #[.int .i64 b.sz, .int .i64 b.ev, .int .i64 b.lf, .int .i64 b.tm] 66) = W1 at *
      have hb := hbn
      clear hbn
      have hsz := hb.size
      go_at_call 54; refine (impl_ValidBucket_b _ _ _ h1).mono ?_; rintro e W2 ⟨rfl, hbn⟩
      have k0 := k0.below hbn k0.lt
      have hb := hb.trans (hbn.mono hb.size)
      clear hbn
      have hsz := hb.size
      have k0_c0 := k0.cell 0; have k0_f0 := k0.frozen 0; have k0_c1 := k0.cell 1; have k0_f1 := k0.frozen 1; have k0_c2 := k0.cell 2; have k0_f2 := k0.frozen 2; have k0_c3 := k0.cell 3; have k0_f3 := k0.frozen 3; have k0_l := k0.lt
      go_wp2_with fail
      clear k0_c0 k0_f0 k0_c1 k0_f1 k0_c2 k0_f2 k0_c3 k0_f3 k0_l
      go_at_call 60; refine (isTick_b _ _ _ h2).mono ?_; rintro e W3 ⟨rfl, rfl⟩
      have k0_c0 := k0.cell 0; have k0_f0 := k0.frozen 0; have k0_c1 := k0.cell 1; have k0_f1 := k0.frozen 1; have k0_c2 := k0.cell 2; have k0_f2 := k0.frozen 2; have k0_c3 := k0.cell 3; have k0_f3 := k0.frozen 3; have k0_l := k0.lt
      go_wp2
      refine bodyPost_ret (v := .tuple #[.int .i64 0, .bool false]) (by simp [results, Try.results48, go_sem]) rfl ?_
      exact ⟨rfl, (by repeat (first | exact hb | exact Below.refl _ _ | refine Below.setCell ?_ (by first | (simp; done) | (simp; omega) | omega) _ | refine Below.alloc ?_ (by first | (simp; done) | (simp; omega) | omega) _))⟩
    | true =>
      by_cases h3 : at_ < b.tm
      · have h3' : decide (at_ < b.tm) = true := decide_eq_true h3
        have ha : atB b at_ = false := at_low h3
        rw [ha]
        go_enter Try.func48, Try.ntmps48
        go_wp2_with fail
        obtain ⟨k0, hbn⟩ := one_box w 66 #[.int .i64 b.sz, .int .i64 b.ev, .int .i64 b.lf, .int .i64 b.tm]
        have sk0 : w.heap.size ≤ w.heap.size := Nat.le_refl _
        generalize w.alloc (.cells #[.int .i64 b.sz, .int .i64 b.ev, .int .i64 b.lf, .int .i64 b.tm] 66) = W1 at *
        have hb := hbn
        clear hbn
        have hsz := hb.size
        go_at_call 54; refine (impl_ValidBucket_b _ _ _ h1).mono ?_; rintro e W2 ⟨rfl, hbn⟩
        have k0 := k0.below hbn k0.lt
        have hb := hb.trans (hbn.mono hb.size)
        clear hbn
        have hsz := hb.size
        have k0_c0 := k0.cell 0; have k0_f0 := k0.frozen 0; have k0_c1 := k0.cell 1; have k0_f1 := k0.frozen 1; have k0_c2 := k0.cell 2; have k0_f2 := k0.frozen 2; have k0_c3 := k0.cell 3; have k0_f3 := k0.frozen 3; have k0_l := k0.lt
        go_wp2_with fail
        clear k0_c0 k0_f0 k0_c1 k0_f1 k0_c2 k0_f2 k0_c3 k0_f3 k0_l
        go_at_call 60; refine (isTick_b _ _ _ h2).mono ?_; rintro e W3 ⟨rfl, rfl⟩
        have k0_c0 := k0.cell 0; have k0_f0 := k0.frozen 0; have k0_c1 := k0.cell 1; have k0_f1 := k0.frozen 1; have k0_c2 := k0.cell 2; have k0_f2 := k0.frozen 2; have k0_c3 := k0.cell 3; have k0_f3 := k0.frozen 3; have k0_l := k0.lt
        go_wp2
        refine bodyPost_ret (v := .tuple #[.int .i64 0, .bool false]) (by simp [results, Try.results48, go_sem]) rfl ?_
        exact ⟨rfl, (by repeat (first | exact hb | exact Below.refl _ _ | refine Below.setCell ?_ (by first | (simp; done) | (simp; omega) | omega) _ | refine Below.alloc ?_ (by first | (simp; done) | (simp; omega) | omega) _))⟩
      · have h3' : decide (at_ < b.tm) = false := decide_eq_false h3
        have ha : atB b at_ = true := at_yes h2 h3
        rw [ha]
        obtain ⟨a1, a2⟩ := at_le ha
        have f0 : IntKind.i64.wrap (at_ - b.tm) = at_ - b.tm := IntWalk.i64_in _ (by omega)
        have q0 := div_small (at_ - b.tm) b.ev (by omega) e1
        have f1 : IntKind.i64.wrap ((at_ - b.tm).tdiv b.ev) = (at_ - b.tm) / b.ev := IntWalk.i64_quo _ _ (by omega)
        have f2 : IntKind.i64.wrap (b.lf + (at_ - b.tm) / b.ev) = b.lf + (at_ - b.tm) / b.ev := IntWalk.i64_in _ (by omega)
        have f3 : b.ev ≠ 0 := by omega
        go_enter Try.func48, Try.ntmps48
        go_wp2_with fail
        obtain ⟨k0, hbn⟩ := one_box w 66 #[.int .i64 b.sz, .int .i64 b.ev, .int .i64 b.lf, .int .i64 b.tm]
        have sk0 : w.heap.size ≤ w.heap.size := Nat.le_refl _
        generalize w.alloc (.cells #[.int .i64 b.sz, .int .i64 b.ev, .int .i64 b.lf, .int .i64 b.tm] 66) = W1 at *
        have hb := hbn
        clear hbn
        have hsz := hb.size
        go_at_call 54; refine (impl_ValidBucket_b _ _ _ h1).mono ?_; rintro e W2 ⟨rfl, hbn⟩
        have k0 := k0.below hbn k0.lt
        have hb := hb.trans (hbn.mono hb.size)
        clear hbn
        have hsz := hb.size
        have k0_c0 := k0.cell 0; have k0_f0 := k0.frozen 0; have k0_c1 := k0.cell 1; have k0_f1 := k0.frozen 1; have k0_c2 := k0.cell 2; have k0_f2 := k0.frozen 2; have k0_c3 := k0.cell 3; have k0_f3 := k0.frozen 3; have k0_l := k0.lt
        go_wp2_with fail
        clear k0_c0 k0_f0 k0_c1 k0_f1 k0_c2 k0_f2 k0_c3 k0_f3 k0_l
        go_at_call 60; refine (isTick_b _ _ _ h2).mono ?_; rintro e W3 ⟨rfl, rfl⟩
        have k0_c0 := k0.cell 0; have k0_f0 := k0.frozen 0; have k0_c1 := k0.cell 1; have k0_f1 := k0.frozen 1; have k0_c2 := k0.cell 2; have k0_f2 := k0.frozen 2; have k0_c3 := k0.cell 3; have k0_f3 := k0.frozen 3; have k0_l := k0.lt
        go_wp2
        go_quiet (fail)
        clear k0_c0 k0_f0 k0_c1 k0_f1 k0_c2 k0_f2 k0_c3 k0_f3 k0_l
        have hbn := drew_below (w := W2) ⟨nq, rfl⟩
        generalize W2.drewN nq = W4 at *
        have k0 := k0.below hbn k0.lt
        have hb := hb.trans (hbn.mono hb.size)
        clear hbn
        have hsz := hb.size
        have k0_c0 := k0.cell 0; have k0_f0 := k0.frozen 0; have k0_c1 := k0.cell 1; have k0_f1 := k0.frozen 1; have k0_c2 := k0.cell 2; have k0_f2 := k0.frozen 2; have k0_c3 := k0.cell 3; have k0_f3 := k0.frozen 3; have k0_l := k0.lt
        go_wp2
        refine bodyPost_ret (v := .tuple #[.int .i64 (min b.sz (b.lf + (at_ - b.tm) / b.ev)), .bool true]) (by simp [results, Try.results48, go_sem]) rfl ?_
        exact ⟨rfl, (by repeat (first | exact hb | exact Below.refl _ _ | refine Below.setCell ?_ (by first | (simp; done) | (simp; omega) | omega) _ | refine Below.alloc ?_ (by first | (simp; done) | (simp; omega) | omega) _))⟩
end Go.Proofs.Ytmdoddikaaaamab
