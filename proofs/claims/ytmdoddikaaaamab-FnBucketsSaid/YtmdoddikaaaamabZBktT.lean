import Derived.Test.YtmdoddikaaaamabChecked
import Derived.WalkKit
import Derived.ProofKit
import Derived.OpenShut
import Derived.ShutString
import Derived.ChangeOld
import Derived.Below
import Derived.Lib.Hide
import Derived.Lib.MinMax
import Derived.Test.YtmdoddikaaaamabZBktN
namespace Go.Proofs.Ytmdoddikaaaamab
open Go.ChangeShapes Go.WideShapes Go.ChangeAt Go.RowKit
open Go.ChangeMaps (open_string shut_string)
set_option linter.unusedVariables false
set_option maxRecDepth 100000
theorem and_both {a b : Bool} (h : (a && b) = true) : a = true ∧ b = true := by simpa using h
theorem ask_le {b : Bk} {count : Int} (h : askB b count = true) : 1 ≤ count ∧ count ≤ b.sz := by simpa [askB] using h
theorem left_le {b : Bk} {at_ : Int} (h : bktB b = true) (h2 : atB b at_ = true) : b.lf ≤ leftB b at_ ∧ leftB b at_ ≤ b.sz := by
  obtain ⟨s1, s2, e1, e2, l1, l2, t1, t2⟩ := bktB_ok h
  obtain ⟨a1, a2⟩ := at_le h2
  have := div_small (at_ - b.tm) b.ev (by omega) e1
  unfold leftB
  omega
theorem take_lo {b : Bk} {count at_ : Int} (h : leftB b at_ < count) : takeB b count at_ = b := by unfold takeB; rw [if_pos h]
theorem did_lo {b : Bk} {count at_ : Int} (h : leftB b at_ < count) : didB b count at_ = false := by unfold didB; exact decide_eq_false (by omega)
theorem did_hi {b : Bk} {count at_ : Int} (h : ¬ leftB b at_ < count) : didB b count at_ = true := by unfold didB; exact decide_eq_true (by omega)
theorem take_full {b : Bk} {count at_ : Int} (h : ¬ leftB b at_ < count) (h2 : leftB b at_ = b.sz) : takeB b count at_ = ⟨b.sz, b.ev, leftB b at_ - count, at_⟩ := by unfold takeB; rw [if_neg h, if_pos h2]
theorem tick_eq {x t e : Int} : x - (x - t) % e = t + (x - t) / e * e := by
  have := Int.emod_add_mul_ediv (x - t) e
  rw [Int.mul_comm] at this
  omega
theorem take_mid {b : Bk} {count at_ : Int} (h : ¬ leftB b at_ < count) (h2 : leftB b at_ < b.sz) (he : 1 ≤ b.ev) (ha : b.tm ≤ at_) : takeB b count at_ = ⟨b.sz, b.ev, leftB b at_ - count, at_ - (at_ - b.tm) % b.ev⟩ := by
  unfold takeB
  rw [if_neg h, if_neg (by omega), tick_eq]
set_option maxHeartbeats 3200000 in
theorem impl_TakeBucket_any (b : Bk) (count at_ : Int) (w : World) : Calls Try.prog 50 #[.agg #[.int .i64 b.sz, .int .i64 b.ev, .int .i64 b.lf, .int .i64 b.tm], .int .i64 count, .int .i64 at_] w fun x w' => x = .returned (.tuple #[.agg #[.int .i64 (giveK (bktB b && atB b at_ && askB b count) (takeB b count at_)).sz, .int .i64 (giveK (bktB b && atB b at_ && askB b count) (takeB b count at_)).ev, .int .i64 (giveK (bktB b && atB b at_ && askB b count) (takeB b count at_)).lf, .int .i64 (giveK (bktB b && atB b at_ && askB b count) (takeB b count at_)).tm], .bool ((bktB b && atB b at_ && askB b count) && didB b count at_), .bool (bktB b && atB b at_ && askB b count)]) ∧ Below w.heap.size w w' := by
  cases h1 : (bktB b && atB b at_) with
  | false =>
    simp only [Bool.false_and]
    go_enter Try.func50, Try.ntmps50
    go_wp2_with fail
    obtain ⟨k0, k1, hbn⟩ := two_boxes w 66 66 #[.int .i64 b.sz, .int .i64 b.ev, .int .i64 b.lf, .int .i64 b.tm] #[.int .i64 0, .int .i64 0, .int .i64 0, .int .i64 0]
    generalize (w.alloc (.cells #[.int .i64 b.sz, .int .i64 b.ev, .int .i64 b.lf, .int .i64 b.tm] 66)).alloc (.cells #[.int .i64 0, .int .i64 0, .int .i64 0, .int .i64 0] 66) = W1 at *
    have hb := hbn
    clear hbn
    have hsz := hb.size
    go_at_call 48; refine (impl_LeftAt_any b at_ _).mono ?_; rw [h1]; rintro e W2 ⟨rfl, hbn⟩
    have k0 := k0.below hbn k0.lt
    have k1 := k1.below hbn k1.lt
    have hb := hb.trans (hbn.mono hb.size)
    clear hbn
    have hsz := hb.size
    have k0_c0 := k0.cell 0; have k0_f0 := k0.frozen 0; have k0_c1 := k0.cell 1; have k0_f1 := k0.frozen 1; have k0_c2 := k0.cell 2; have k0_f2 := k0.frozen 2; have k0_c3 := k0.cell 3; have k0_f3 := k0.frozen 3; have k0_l := k0.lt
    have k1_c0 := k1.cell 0; have k1_f0 := k1.frozen 0; have k1_c1 := k1.cell 1; have k1_f1 := k1.frozen 1; have k1_c2 := k1.cell 2; have k1_f2 := k1.frozen 2; have k1_c3 := k1.cell 3; have k1_f3 := k1.frozen 3; have k1_l := k1.lt
    go_wp2
    refine bodyPost_ret (v := .tuple #[.agg #[.int .i64 0, .int .i64 0, .int .i64 0, .int .i64 0], .bool false, .bool false]) (by simp [results, Try.results50, go_sem, k1_c0, k1_c1, k1_c2, k1_c3]) rfl ?_
    exact ⟨rfl, (by repeat (first | exact hb | exact Below.refl _ _ | refine Below.setCell ?_ (by first | (simp; done) | (simp; omega) | omega) _ | refine Below.alloc ?_ (by first | (simp; done) | (simp; omega) | omega) _))⟩
  | true =>
    simp only [Bool.true_and]
    obtain ⟨hb1, hb2⟩ := and_both h1
    obtain ⟨s1, s2, e1, e2, l1, l2, t1, t2⟩ := bktB_ok hb1
    obtain ⟨a1, a2⟩ := at_le hb2
    cases h2 : askB b count with
    | false =>
      simp only [Bool.false_and]
      go_enter Try.func50, Try.ntmps50
      go_wp2_with fail
      obtain ⟨k0, k1, hbn⟩ := two_boxes w 66 66 #[.int .i64 b.sz, .int .i64 b.ev, .int .i64 b.lf, .int .i64 b.tm] #[.int .i64 0, .int .i64 0, .int .i64 0, .int .i64 0]
      generalize (w.alloc (.cells #[.int .i64 b.sz, .int .i64 b.ev, .int .i64 b.lf, .int .i64 b.tm] 66)).alloc (.cells #[.int .i64 0, .int .i64 0, .int .i64 0, .int .i64 0] 66) = W1 at *
      have hb := hbn
      clear hbn
      have hsz := hb.size
      go_at_call 48; refine (impl_LeftAt_any b at_ _).mono ?_; rw [h1]; rintro e W2 ⟨rfl, hbn⟩
      have k0 := k0.below hbn k0.lt
      have k1 := k1.below hbn k1.lt
      have hb := hb.trans (hbn.mono hb.size)
      clear hbn
      have hsz := hb.size
      have k0_c0 := k0.cell 0; have k0_f0 := k0.frozen 0; have k0_c1 := k0.cell 1; have k0_f1 := k0.frozen 1; have k0_c2 := k0.cell 2; have k0_f2 := k0.frozen 2; have k0_c3 := k0.cell 3; have k0_f3 := k0.frozen 3; have k0_l := k0.lt
      have k1_c0 := k1.cell 0; have k1_f0 := k1.frozen 0; have k1_c1 := k1.cell 1; have k1_f1 := k1.frozen 1; have k1_c2 := k1.cell 2; have k1_f2 := k1.frozen 2; have k1_c3 := k1.cell 3; have k1_f3 := k1.frozen 3; have k1_l := k1.lt
      go_wp2_with fail
      clear k0_c0 k0_f0 k0_c1 k0_f1 k0_c2 k0_f2 k0_c3 k0_f3 k0_l
      clear k1_c0 k1_f0 k1_c1 k1_f1 k1_c2 k1_f2 k1_c3 k1_f3 k1_l
      go_at_call 113; refine (mayAskFor_b _ _ _ _ h2).mono ?_; rintro e W3 ⟨rfl, hbn⟩
      have k0 := k0.below hbn k0.lt
      have k1 := k1.below hbn k1.lt
      have hb := hb.trans (hbn.mono hb.size)
      clear hbn
      have hsz := hb.size
      have k0_c0 := k0.cell 0; have k0_f0 := k0.frozen 0; have k0_c1 := k0.cell 1; have k0_f1 := k0.frozen 1; have k0_c2 := k0.cell 2; have k0_f2 := k0.frozen 2; have k0_c3 := k0.cell 3; have k0_f3 := k0.frozen 3; have k0_l := k0.lt
      have k1_c0 := k1.cell 0; have k1_f0 := k1.frozen 0; have k1_c1 := k1.cell 1; have k1_f1 := k1.frozen 1; have k1_c2 := k1.cell 2; have k1_f2 := k1.frozen 2; have k1_c3 := k1.cell 3; have k1_f3 := k1.frozen 3; have k1_l := k1.lt
      go_wp2
      refine bodyPost_ret (v := .tuple #[.agg #[.int .i64 0, .int .i64 0, .int .i64 0, .int .i64 0], .bool false, .bool false]) (by simp [results, Try.results50, go_sem, k1_c0, k1_c1, k1_c2, k1_c3]) rfl ?_
      exact ⟨rfl, (by repeat (first | exact hb | exact Below.refl _ _ | refine Below.setCell ?_ (by first | (simp; done) | (simp; omega) | omega) _ | refine Below.alloc ?_ (by first | (simp; done) | (simp; omega) | omega) _))⟩
    | true =>
      simp only [Bool.true_and]
      obtain ⟨q1, q2⟩ := ask_le h2
      obtain ⟨z1, z2⟩ := left_le hb1 hb2
      obtain ⟨lz, hlz⟩ : ∃ z, leftB b at_ = z := ⟨_, rfl⟩
      rw [hlz] at z1 z2
      have HZ := Lib.hid hlz
      clear hlz
      by_cases h3 : lz < count
      · have h3' : decide (lz < count) = true := decide_eq_true h3
        have e := take_lo (HZ.out ▸ h3)
        have e2' := did_lo (HZ.out ▸ h3)
        have E := Lib.hid e; have E2 := Lib.hid e2'; clear e e2'
        go_enter Try.func50, Try.ntmps50
        go_wp2_with fail
        obtain ⟨k0, k1, hbn⟩ := two_boxes w 66 66 #[.int .i64 b.sz, .int .i64 b.ev, .int .i64 b.lf, .int .i64 b.tm] #[.int .i64 0, .int .i64 0, .int .i64 0, .int .i64 0]
        generalize (w.alloc (.cells #[.int .i64 b.sz, .int .i64 b.ev, .int .i64 b.lf, .int .i64 b.tm] 66)).alloc (.cells #[.int .i64 0, .int .i64 0, .int .i64 0, .int .i64 0] 66) = W1 at *
        have hb := hbn
        clear hbn
        have hsz := hb.size
        go_at_call 48; refine (impl_LeftAt_any b at_ _).mono ?_; rw [h1, if_pos rfl, HZ.out]; rintro e W2 ⟨rfl, hbn⟩
        have k0 := k0.below hbn k0.lt
        have k1 := k1.below hbn k1.lt
        have hb := hb.trans (hbn.mono hb.size)
        clear hbn
        have hsz := hb.size
        have k0_c0 := k0.cell 0; have k0_f0 := k0.frozen 0; have k0_c1 := k0.cell 1; have k0_f1 := k0.frozen 1; have k0_c2 := k0.cell 2; have k0_f2 := k0.frozen 2; have k0_c3 := k0.cell 3; have k0_f3 := k0.frozen 3; have k0_l := k0.lt
        have k1_c0 := k1.cell 0; have k1_f0 := k1.frozen 0; have k1_c1 := k1.cell 1; have k1_f1 := k1.frozen 1; have k1_c2 := k1.cell 2; have k1_f2 := k1.frozen 2; have k1_c3 := k1.cell 3; have k1_f3 := k1.frozen 3; have k1_l := k1.lt
        go_wp2_with fail
        clear k0_c0 k0_f0 k0_c1 k0_f1 k0_c2 k0_f2 k0_c3 k0_f3 k0_l
        clear k1_c0 k1_f0 k1_c1 k1_f1 k1_c2 k1_f2 k1_c3 k1_f3 k1_l
        go_at_call 113; refine (mayAskFor_b _ _ _ _ h2).mono ?_; rintro e W3 ⟨rfl, hbn⟩
        have k0 := k0.below hbn k0.lt
        have k1 := k1.below hbn k1.lt
        have hb := hb.trans (hbn.mono hb.size)
        clear hbn
        have hsz := hb.size
        have k0_c0 := k0.cell 0; have k0_f0 := k0.frozen 0; have k0_c1 := k0.cell 1; have k0_f1 := k0.frozen 1; have k0_c2 := k0.cell 2; have k0_f2 := k0.frozen 2; have k0_c3 := k0.cell 3; have k0_f3 := k0.frozen 3; have k0_l := k0.lt
        have k1_c0 := k1.cell 0; have k1_f0 := k1.frozen 0; have k1_c1 := k1.cell 1; have k1_f1 := k1.frozen 1; have k1_c2 := k1.cell 2; have k1_f2 := k1.frozen 2; have k1_c3 := k1.cell 3; have k1_f3 := k1.frozen 3; have k1_l := k1.lt
        go_wp2
        refine bodyPost_ret (v := .tuple #[.agg #[.int .i64 b.sz, .int .i64 b.ev, .int .i64 b.lf, .int .i64 b.tm], .bool false, .bool true]) (by simp [results, Try.results50, go_sem, k1_c0, k1_c1, k1_c2, k1_c3, k0_c0, k0_c1, k0_c2, k0_c3]) rfl ?_
        exact ⟨by rw [E.out, E2.out]; rfl, (by repeat (first | exact hb | exact Below.refl _ _ | refine Below.setCell ?_ (by first | (simp; done) | (simp; omega) | omega) _ | refine Below.alloc ?_ (by first | (simp; done) | (simp; omega) | omega) _))⟩
      · have h3' : decide (lz < count) = false := decide_eq_false h3
        have E2 := Lib.hid (did_hi (HZ.out ▸ h3))
        by_cases h4 : lz < b.sz
        · have h4' : decide (lz < b.sz) = true := decide_eq_true h4
          have E := Lib.hid (take_mid (b := b) (HZ.out ▸ h3) (HZ.out ▸ h4) e1 a1)
          rw [HZ.out] at E
          have f0 : IntKind.i64.wrap (at_ - b.tm) = at_ - b.tm := IntWalk.i64_in _ (by omega)
          have r0 : (at_ - b.tm).tmod b.ev = (at_ - b.tm) % b.ev := Int.tmod_eq_emod_of_nonneg (by omega)
          have r1 : 0 ≤ (at_ - b.tm) % b.ev := Int.emod_nonneg _ (by omega)
          have r2 : (at_ - b.tm) % b.ev < b.ev := Int.emod_lt_of_pos _ (by omega)
          have f1 : IntKind.i64.wrap ((at_ - b.tm) % b.ev) = (at_ - b.tm) % b.ev := IntWalk.i64_in _ (by omega)
          have f2 : IntKind.i64.wrap (at_ - (at_ - b.tm) % b.ev) = at_ - (at_ - b.tm) % b.ev := IntWalk.i64_in _ (by omega)
          have f3 : b.ev ≠ 0 := by omega
          go_enter Try.func50, Try.ntmps50
          go_wp2_with fail
          obtain ⟨k0, k1, hbn⟩ := two_boxes w 66 66 #[.int .i64 b.sz, .int .i64 b.ev, .int .i64 b.lf, .int .i64 b.tm] #[.int .i64 0, .int .i64 0, .int .i64 0, .int .i64 0]
          generalize (w.alloc (.cells #[.int .i64 b.sz, .int .i64 b.ev, .int .i64 b.lf, .int .i64 b.tm] 66)).alloc (.cells #[.int .i64 0, .int .i64 0, .int .i64 0, .int .i64 0] 66) = W1 at *
          have hb := hbn
          clear hbn
          have hsz := hb.size
          go_at_call 48; refine (impl_LeftAt_any b at_ _).mono ?_; rw [h1, if_pos rfl, HZ.out]; rintro e W2 ⟨rfl, hbn⟩
          have k0 := k0.below hbn k0.lt
          have k1 := k1.below hbn k1.lt
          have hb := hb.trans (hbn.mono hb.size)
          clear hbn
          have hsz := hb.size
          have k0_c0 := k0.cell 0; have k0_f0 := k0.frozen 0; have k0_c1 := k0.cell 1; have k0_f1 := k0.frozen 1; have k0_c2 := k0.cell 2; have k0_f2 := k0.frozen 2; have k0_c3 := k0.cell 3; have k0_f3 := k0.frozen 3; have k0_l := k0.lt
          have k1_c0 := k1.cell 0; have k1_f0 := k1.frozen 0; have k1_c1 := k1.cell 1; have k1_f1 := k1.frozen 1; have k1_c2 := k1.cell 2; have k1_f2 := k1.frozen 2; have k1_c3 := k1.cell 3; have k1_f3 := k1.frozen 3; have k1_l := k1.lt
          go_wp2_with fail
          clear k0_c0 k0_f0 k0_c1 k0_f1 k0_c2 k0_f2 k0_c3 k0_f3 k0_l
          clear k1_c0 k1_f0 k1_c1 k1_f1 k1_c2 k1_f2 k1_c3 k1_f3 k1_l
          go_at_call 113; refine (mayAskFor_b _ _ _ _ h2).mono ?_; rintro e W3 ⟨rfl, hbn⟩
          have k0 := k0.below hbn k0.lt
          have k1 := k1.below hbn k1.lt
          have hb := hb.trans (hbn.mono hb.size)
          clear hbn
          have hsz := hb.size
          have k0_c0 := k0.cell 0; have k0_f0 := k0.frozen 0; have k0_c1 := k0.cell 1; have k0_f1 := k0.frozen 1; have k0_c2 := k0.cell 2; have k0_f2 := k0.frozen 2; have k0_c3 := k0.cell 3; have k0_f3 := k0.frozen 3; have k0_l := k0.lt
          have k1_c0 := k1.cell 0; have k1_f0 := k1.frozen 0; have k1_c1 := k1.cell 1; have k1_f1 := k1.frozen 1; have k1_c2 := k1.cell 2; have k1_f2 := k1.frozen 2; have k1_c3 := k1.cell 3; have k1_f3 := k1.frozen 3; have k1_l := k1.lt
          go_wp2
          refine bodyPost_ret (v := .tuple #[.agg #[.int .i64 b.sz, .int .i64 b.ev, .int .i64 (lz - count), .int .i64 (at_ - (at_ - b.tm) % b.ev)], .bool true, .bool true]) (by simp [results, Try.results50, go_sem, k1_c0, k1_c1, k1_c2, k1_c3, k0_c0, k0_c1, k0_c2, k0_c3]) rfl ?_
          exact ⟨by rw [E.out, E2.out]; rfl, (by repeat (first | exact hb | exact Below.refl _ _ | refine Below.setCell ?_ (by first | (simp; done) | (simp; omega) | omega) _ | refine Below.alloc ?_ (by first | (simp; done) | (simp; omega) | omega) _))⟩
        · have h4' : decide (lz < b.sz) = false := decide_eq_false h4
          have E := Lib.hid (take_full (b := b) (HZ.out ▸ h3) (show leftB b at_ = b.sz by rw [HZ.out]; omega))
          rw [HZ.out] at E
          go_enter Try.func50, Try.ntmps50
          go_wp2_with fail
          obtain ⟨k0, k1, hbn⟩ := two_boxes w 66 66 #[.int .i64 b.sz, .int .i64 b.ev, .int .i64 b.lf, .int .i64 b.tm] #[.int .i64 0, .int .i64 0, .int .i64 0, .int .i64 0]
          generalize (w.alloc (.cells #[.int .i64 b.sz, .int .i64 b.ev, .int .i64 b.lf, .int .i64 b.tm] 66)).alloc (.cells #[.int .i64 0, .int .i64 0, .int .i64 0, .int .i64 0] 66) = W1 at *
          have hb := hbn
          clear hbn
          have hsz := hb.size
          go_at_call 48; refine (impl_LeftAt_any b at_ _).mono ?_; rw [h1, if_pos rfl, HZ.out]; rintro e W2 ⟨rfl, hbn⟩
          have k0 := k0.below hbn k0.lt
          have k1 := k1.below hbn k1.lt
          have hb := hb.trans (hbn.mono hb.size)
          clear hbn
          have hsz := hb.size
          have k0_c0 := k0.cell 0; have k0_f0 := k0.frozen 0; have k0_c1 := k0.cell 1; have k0_f1 := k0.frozen 1; have k0_c2 := k0.cell 2; have k0_f2 := k0.frozen 2; have k0_c3 := k0.cell 3; have k0_f3 := k0.frozen 3; have k0_l := k0.lt
          have k1_c0 := k1.cell 0; have k1_f0 := k1.frozen 0; have k1_c1 := k1.cell 1; have k1_f1 := k1.frozen 1; have k1_c2 := k1.cell 2; have k1_f2 := k1.frozen 2; have k1_c3 := k1.cell 3; have k1_f3 := k1.frozen 3; have k1_l := k1.lt
          go_wp2_with fail
          clear k0_c0 k0_f0 k0_c1 k0_f1 k0_c2 k0_f2 k0_c3 k0_f3 k0_l
          clear k1_c0 k1_f0 k1_c1 k1_f1 k1_c2 k1_f2 k1_c3 k1_f3 k1_l
          go_at_call 113; refine (mayAskFor_b _ _ _ _ h2).mono ?_; rintro e W3 ⟨rfl, hbn⟩
          have k0 := k0.below hbn k0.lt
          have k1 := k1.below hbn k1.lt
          have hb := hb.trans (hbn.mono hb.size)
          clear hbn
          have hsz := hb.size
          have k0_c0 := k0.cell 0; have k0_f0 := k0.frozen 0; have k0_c1 := k0.cell 1; have k0_f1 := k0.frozen 1; have k0_c2 := k0.cell 2; have k0_f2 := k0.frozen 2; have k0_c3 := k0.cell 3; have k0_f3 := k0.frozen 3; have k0_l := k0.lt
          have k1_c0 := k1.cell 0; have k1_f0 := k1.frozen 0; have k1_c1 := k1.cell 1; have k1_f1 := k1.frozen 1; have k1_c2 := k1.cell 2; have k1_f2 := k1.frozen 2; have k1_c3 := k1.cell 3; have k1_f3 := k1.frozen 3; have k1_l := k1.lt
          go_wp2
          refine bodyPost_ret (v := .tuple #[.agg #[.int .i64 b.sz, .int .i64 b.ev, .int .i64 (lz - count), .int .i64 at_], .bool true, .bool true]) (by simp [results, Try.results50, go_sem, k1_c0, k1_c1, k1_c2, k1_c3, k0_c0, k0_c1, k0_c2, k0_c3]) rfl ?_
          exact ⟨by rw [E.out, E2.out]; rfl, (by repeat (first | exact hb | exact Below.refl _ _ | refine Below.setCell ?_ (by first | (simp; done) | (simp; omega) | omega) _ | refine Below.alloc ?_ (by first | (simp; done) | (simp; omega) | omega) _))⟩
end Go.Proofs.Ytmdoddikaaaamab
