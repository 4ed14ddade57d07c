import Derived.Test.YtmdoddikaaaamaaChecked
import Derived.WalkKit
import Derived.ProofKit
import Derived.OpenShut
import Derived.ShutString
import Derived.ChangeOld
import Derived.Below
import Derived.Lib.Hide
import Derived.Deep.QuietTactic
import Derived.BigQuiet
import Derived.Lib.MinMax
import Derived.Test.YtmdoddikaaaamaaZBktT
import Derived.Test.YtmdoddikaaaamaaZBktS
namespace Go.Proofs.Ytmdoddikaaaamaa
open Go.ChangeShapes Go.WideShapes Go.ChangeAt Go.RowKit
open Go.ChangeMaps (open_string shut_string)
set_option linter.unusedVariables false
set_option maxRecDepth 100000
theorem take_hi {b : Bk} {count at_ : Int} (h : ¬ leftB b at_ < count) (h2 : leftB b at_ ≠ b.sz) : takeB b count at_ = ⟨b.sz, b.ev, leftB b at_ - count, b.tm + (at_ - b.tm) / b.ev * b.ev⟩ := by unfold takeB; rw [if_neg h, if_neg h2]
theorem mul_le (x e : Int) (hx : 0 ≤ x ∧ x ≤ 1000000) (he : 1 ≤ e) : 0 ≤ x / e * e ∧ x / e * e ≤ x := by
  have h1 := Int.emod_add_mul_ediv x e
  have h2 := Int.emod_nonneg x (show e ≠ 0 by omega)
  have h3 := Int.emod_lt_of_pos x (show 0 < e by omega)
  have h4 : 0 ≤ x / e := Int.ediv_nonneg hx.1 (by omega)
  have h5 : 0 ≤ x / e * e := Int.mul_nonneg h4 (by omega)
  rw [Int.mul_comm] at h1
  omega
theorem grown_drewN (w : World) (q : Nat) (r : Option Nat) : w.grownBy (w.drewN q) r := ⟨rfl, rfl, rfl, Nat.le_refl _, fun _ _ _ => rfl⟩
theorem gset {w W : World} {g : Nat} (h : w.grownBy W (some g)) (i : Nat) (v : Value) : w.grownBy (W.setCell ⟨g, i, none⟩ v) (some g) :=
  h.trans ⟨rfl, rfl, rfl, by simp, fun k hk hne => Below.heap_setCell W _ v k (fun e => hne (by rw [e]))⟩
set_option maxHeartbeats 3200000 in
theorem l06Take_any (g : Nat) (b : Bk) (count at_ : Int) (w : World) (k : Blk w g 25 #[.int .i64 b.sz, .int .i64 b.ev, .int .i64 b.lf, .int .i64 b.tm]) (ok : BkOk b) (a1 : b.tm ≤ at_) (a2 : at_ ≤ 1000000) (q1 : 1 ≤ count) (q2 : count ≤ b.sz) :
    Calls Try.prog 62 #[.pointer (some ⟨g, 0, none⟩), .int .i64 count, .int .i64 at_] w fun e w' => e = .returned (.bool (didB b count at_)) ∧ Blk w' g 25 #[.int .i64 (takeB b count at_).sz, .int .i64 (takeB b count at_).ev, .int .i64 (takeB b count at_).lf, .int .i64 (takeB b count at_).tm] ∧ w.grownBy w' (some g) := by
  have hB := bktB_of ok
  have hA : atB b at_ = true := by simp [atB]; omega
  obtain ⟨z1, z2⟩ := left_le hB hA
  obtain ⟨lz, hlz⟩ : ∃ z, leftB b at_ = z := ⟨_, rfl⟩
  rw [hlz] at z1 z2
  have HZ := Lib.hid hlz
  have OK := Lib.hid ok
  obtain ⟨s1, s2, e1, e2, l1, l2, t1, t2⟩ := ok
  clear hlz hB hA
  by_cases h3 : lz < count
  · have h3' : decide (lz < count) = true := decide_eq_true h3
    have E := Lib.hid (take_lo (HZ.out ▸ h3)); have E2 := Lib.hid (did_lo (HZ.out ▸ h3))
    go_enter Try.func62, Try.ntmps62
    go_wp2_with fail
    go_at_call 60; refine (l06Left_any _ _ _ _ k OK.out a1 a2).mono ?_; rw [HZ.out]; rintro e W1 ⟨rfl, q, hq⟩
    have k := k.drewN q
    rw [← hq] at k
    have hg : w.grownBy W1 (some g) := by rw [hq]; exact grown_drewN w q _
    clear hq
    have hl := k.lt
    have c0 := k.cell 0; have f0 := k.frozen 0; have c1 := k.cell 1; have f1 := k.frozen 1; have c2 := k.cell 2; have f2 := k.frozen 2; have c3 := k.cell 3; have f3 := k.frozen 3
    go_wp2
    go_ret
    exact ⟨ret_bool E2.out.symm, by rw [E.out]; exact k, hg⟩
  · have h3' : decide (lz < count) = false := decide_eq_false h3
    have E2 := Lib.hid (did_hi (HZ.out ▸ h3))
    by_cases h4 : lz = b.sz
    · have h4' : (lz == b.sz) = true := by simp [h4]
      clear h4'
      have E := Lib.hid (take_full (b := b) (HZ.out ▸ h3) (show leftB b at_ = b.sz by rw [HZ.out]; exact h4))
      rw [HZ.out] at E
      subst h4
      go_enter Try.func62, Try.ntmps62
      go_wp2_with fail
      go_at_call 60; refine (l06Left_any _ _ _ _ k OK.out a1 a2).mono ?_; rw [HZ.out]; rintro e W1 ⟨rfl, q, hq⟩
      have k := k.drewN q
      rw [← hq] at k
      have hg : w.grownBy W1 (some g) := by rw [hq]; exact grown_drewN w q _
      clear hq
      have hl := k.lt
      have c0 := k.cell 0; have f0 := k.frozen 0; have c1 := k.cell 1; have f1 := k.frozen 1; have c2 := k.cell 2; have f2 := k.frozen 2; have c3 := k.cell 3; have f3 := k.frozen 3
      go_wp2
      go_ret
      exact ⟨ret_bool E2.out.symm, by rw [E.out]; exact (k.set_ 3 _).set_ 2 _, gset (gset hg 3 _) 2 _⟩
    · have h4' : (lz == b.sz) = false := by simp [h4]
      have E := Lib.hid (take_hi (b := b) (HZ.out ▸ h3) (show leftB b at_ ≠ b.sz by rw [HZ.out]; exact h4))
      rw [HZ.out] at E
      have f00 : IntKind.i64.wrap (at_ - b.tm) = at_ - b.tm := IntWalk.i64_in _ (by omega)
      have f01 : IntKind.i64.wrap ((at_ - b.tm).tdiv b.ev) = (at_ - b.tm) / b.ev := IntWalk.i64_quo _ _ (by omega)
      have m0 := mul_le (at_ - b.tm) b.ev (by omega) e1
      have f02 : IntKind.i64.wrap ((at_ - b.tm) / b.ev * b.ev) = (at_ - b.tm) / b.ev * b.ev := IntWalk.i64_in _ (by omega)
      have f03 : IntKind.i64.wrap (b.tm + (at_ - b.tm) / b.ev * b.ev) = b.tm + (at_ - b.tm) / b.ev * b.ev := IntWalk.i64_in _ (by omega)
      have f04 : b.ev ≠ 0 := by omega
      go_enter Try.func62, Try.ntmps62
      go_wp2_with fail
      go_at_call 60; refine (l06Left_any _ _ _ _ k OK.out a1 a2).mono ?_; rw [HZ.out]; rintro e W1 ⟨rfl, q, hq⟩
      have k := k.drewN q
      rw [← hq] at k
      have hg : w.grownBy W1 (some g) := by rw [hq]; exact grown_drewN w q _
      clear hq
      have hl := k.lt
      have c0 := k.cell 0; have f0 := k.frozen 0; have c1 := k.cell 1; have f1 := k.frozen 1; have c2 := k.cell 2; have f2 := k.frozen 2; have c3 := k.cell 3; have f3 := k.frozen 3
      go_wp2
      go_region
      go_wp2
      go_ret
      exact ⟨ret_bool E2.out.symm, by rw [E.out]; exact (((k.set_ 3 _).set_ 2 _).drew : Blk _ _ _ _), (gset (gset hg 3 _) 2 _).trans (grown_drewN _ 1 _)⟩
set_option maxHeartbeats 3200000 in
theorem spec_TakeBucket_any (b : Bk) (count at_ : Int) (w : World) : Calls Try.prog 23 #[.agg #[.int .i64 b.sz, .int .i64 b.ev, .int .i64 b.lf, .int .i64 b.tm], .int .i64 count, .int .i64 at_] w fun x w' => x = .returned (.tuple #[.agg #[.int .i64 (giveK (bktB b && atB b at_ && askB b count) (takeB b count at_)).sz, .int .i64 (giveK (bktB b && atB b at_ && askB b count) (takeB b count at_)).ev, .int .i64 (giveK (bktB b && atB b at_ && askB b count) (takeB b count at_)).lf, .int .i64 (giveK (bktB b && atB b at_ && askB b count) (takeB b count at_)).tm], .bool ((bktB b && atB b at_ && askB b count) && didB b count at_), .bool (bktB b && atB b at_ && askB b count)]) ∧ Below w.heap.size w w' := by
  cases h1 : bktB b with
  | false =>
    simp only [Bool.false_and]
    go_enter Try.func23, Try.ntmps23
    go_wp2_with fail
    obtain ⟨k0, k1, hbn⟩ := two_boxes w 25 25 #[.int .i64 b.sz, .int .i64 b.ev, .int .i64 b.lf, .int .i64 b.tm] #[.int .i64 0, .int .i64 0, .int .i64 0, .int .i64 0]
    generalize (w.alloc (.cells #[.int .i64 b.sz, .int .i64 b.ev, .int .i64 b.lf, .int .i64 b.tm] 25)).alloc (.cells #[.int .i64 0, .int .i64 0, .int .i64 0, .int .i64 0] 25) = W1 at *
    have hb := hbn
    clear hbn
    have hsz := hb.size
    go_at_call 56; refine (l06Is_b _ _ _ _ k0 h1).mono ?_; rintro e W2 ⟨rfl, qn, hq⟩
    have hbn : Below W1.heap.size W1 W2 := drew_below ⟨qn, hq⟩
    clear hq
    have k0 := k0.below hbn k0.lt
    have k1 := k1.below hbn k1.lt
    have hb := hb.trans (hbn.mono hb.size)
    clear hbn
    have hsz := hb.size
    have k0_c0 := k0.cell 0; have k0_f0 := k0.frozen 0; have k0_c1 := k0.cell 1; have k0_f1 := k0.frozen 1; have k0_c2 := k0.cell 2; have k0_f2 := k0.frozen 2; have k0_c3 := k0.cell 3; have k0_f3 := k0.frozen 3; have k0_l := k0.lt
    have k1_c0 := k1.cell 0; have k1_f0 := k1.frozen 0; have k1_c1 := k1.cell 1; have k1_f1 := k1.frozen 1; have k1_c2 := k1.cell 2; have k1_f2 := k1.frozen 2; have k1_c3 := k1.cell 3; have k1_f3 := k1.frozen 3; have k1_l := k1.lt
    go_wp2
    refine bodyPost_ret (v := .tuple #[.agg #[.int .i64 0, .int .i64 0, .int .i64 0, .int .i64 0], .bool false, .bool false]) (by simp [results, Try.results23, go_sem, k1_c0, k1_c1, k1_c2, k1_c3]) rfl ?_
    exact ⟨rfl, (by repeat (first | exact hb | exact Below.refl _ _ | refine Below.setCell ?_ (by first | (simp; done) | (simp; omega) | omega) _ | refine Below.alloc ?_ (by first | (simp; done) | (simp; omega) | omega) _))⟩
  | true =>
    simp only [Bool.true_and]
    cases h2 : atB b at_ with
    | false =>
      simp only [Bool.false_and]
      go_enter Try.func23, Try.ntmps23
      go_wp2_with fail
      obtain ⟨k0, k1, hbn⟩ := two_boxes w 25 25 #[.int .i64 b.sz, .int .i64 b.ev, .int .i64 b.lf, .int .i64 b.tm] #[.int .i64 0, .int .i64 0, .int .i64 0, .int .i64 0]
      generalize (w.alloc (.cells #[.int .i64 b.sz, .int .i64 b.ev, .int .i64 b.lf, .int .i64 b.tm] 25)).alloc (.cells #[.int .i64 0, .int .i64 0, .int .i64 0, .int .i64 0] 25) = W1 at *
      have hb := hbn
      clear hbn
      have hsz := hb.size
      go_at_call 56; refine (l06Is_b _ _ _ _ k0 h1).mono ?_; rintro e W2 ⟨rfl, qn, hq⟩
      have hbn : Below W1.heap.size W1 W2 := drew_below ⟨qn, hq⟩
      clear hq
      have k0 := k0.below hbn k0.lt
      have k1 := k1.below hbn k1.lt
      have hb := hb.trans (hbn.mono hb.size)
      clear hbn
      have hsz := hb.size
      have k0_c0 := k0.cell 0; have k0_f0 := k0.frozen 0; have k0_c1 := k0.cell 1; have k0_f1 := k0.frozen 1; have k0_c2 := k0.cell 2; have k0_f2 := k0.frozen 2; have k0_c3 := k0.cell 3; have k0_f3 := k0.frozen 3; have k0_l := k0.lt
      have k1_c0 := k1.cell 0; have k1_f0 := k1.frozen 0; have k1_c1 := k1.cell 1; have k1_f1 := k1.frozen 1; have k1_c2 := k1.cell 2; have k1_f2 := k1.frozen 2; have k1_c3 := k1.cell 3; have k1_f3 := k1.frozen 3; have k1_l := k1.lt
      go_wp2_with fail
      clear k0_c0 k0_f0 k0_c1 k0_f1 k0_c2 k0_f2 k0_c3 k0_f3 k0_l
      clear k1_c0 k1_f0 k1_c1 k1_f1 k1_c2 k1_f2 k1_c3 k1_f3 k1_l
      go_at_call 59; refine (l06At_b _ _ _ _ _ k0 h2).mono ?_; rintro e W3 ⟨rfl, rfl⟩
      have k0_c0 := k0.cell 0; have k0_f0 := k0.frozen 0; have k0_c1 := k0.cell 1; have k0_f1 := k0.frozen 1; have k0_c2 := k0.cell 2; have k0_f2 := k0.frozen 2; have k0_c3 := k0.cell 3; have k0_f3 := k0.frozen 3; have k0_l := k0.lt
      have k1_c0 := k1.cell 0; have k1_f0 := k1.frozen 0; have k1_c1 := k1.cell 1; have k1_f1 := k1.frozen 1; have k1_c2 := k1.cell 2; have k1_f2 := k1.frozen 2; have k1_c3 := k1.cell 3; have k1_f3 := k1.frozen 3; have k1_l := k1.lt
      go_wp2
      refine bodyPost_ret (v := .tuple #[.agg #[.int .i64 0, .int .i64 0, .int .i64 0, .int .i64 0], .bool false, .bool false]) (by simp [results, Try.results23, go_sem, k1_c0, k1_c1, k1_c2, k1_c3]) rfl ?_
      exact ⟨rfl, (by repeat (first | exact hb | exact Below.refl _ _ | refine Below.setCell ?_ (by first | (simp; done) | (simp; omega) | omega) _ | refine Below.alloc ?_ (by first | (simp; done) | (simp; omega) | omega) _))⟩
    | true =>
      simp only [Bool.true_and]
      cases h3' : askB b count with
      | false =>
        have h3 : decide (1 ≤ count ∧ count ≤ b.sz) = false := by rw [← h3']; simp [askB]
        simp only [Bool.false_and]
        go_enter Try.func23, Try.ntmps23
        go_wp2_with fail
        obtain ⟨k0, k1, hbn⟩ := two_boxes w 25 25 #[.int .i64 b.sz, .int .i64 b.ev, .int .i64 b.lf, .int .i64 b.tm] #[.int .i64 0, .int .i64 0, .int .i64 0, .int .i64 0]
        generalize (w.alloc (.cells #[.int .i64 b.sz, .int .i64 b.ev, .int .i64 b.lf, .int .i64 b.tm] 25)).alloc (.cells #[.int .i64 0, .int .i64 0, .int .i64 0, .int .i64 0] 25) = W1 at *
        have hb := hbn
        clear hbn
        have hsz := hb.size
        go_at_call 56; refine (l06Is_b _ _ _ _ k0 h1).mono ?_; rintro e W2 ⟨rfl, qn, hq⟩
        have hbn : Below W1.heap.size W1 W2 := drew_below ⟨qn, hq⟩
        clear hq
        have k0 := k0.below hbn k0.lt
        have k1 := k1.below hbn k1.lt
        have hb := hb.trans (hbn.mono hb.size)
        clear hbn
        have hsz := hb.size
        have k0_c0 := k0.cell 0; have k0_f0 := k0.frozen 0; have k0_c1 := k0.cell 1; have k0_f1 := k0.frozen 1; have k0_c2 := k0.cell 2; have k0_f2 := k0.frozen 2; have k0_c3 := k0.cell 3; have k0_f3 := k0.frozen 3; have k0_l := k0.lt
        have k1_c0 := k1.cell 0; have k1_f0 := k1.frozen 0; have k1_c1 := k1.cell 1; have k1_f1 := k1.frozen 1; have k1_c2 := k1.cell 2; have k1_f2 := k1.frozen 2; have k1_c3 := k1.cell 3; have k1_f3 := k1.frozen 3; have k1_l := k1.lt
        go_wp2_with fail
        clear k0_c0 k0_f0 k0_c1 k0_f1 k0_c2 k0_f2 k0_c3 k0_f3 k0_l
        clear k1_c0 k1_f0 k1_c1 k1_f1 k1_c2 k1_f2 k1_c3 k1_f3 k1_l
        go_at_call 59; refine (l06At_b _ _ _ _ _ k0 h2).mono ?_; rintro e W3 ⟨rfl, rfl⟩
        have k0_c0 := k0.cell 0; have k0_f0 := k0.frozen 0; have k0_c1 := k0.cell 1; have k0_f1 := k0.frozen 1; have k0_c2 := k0.cell 2; have k0_f2 := k0.frozen 2; have k0_c3 := k0.cell 3; have k0_f3 := k0.frozen 3; have k0_l := k0.lt
        have k1_c0 := k1.cell 0; have k1_f0 := k1.frozen 0; have k1_c1 := k1.cell 1; have k1_f1 := k1.frozen 1; have k1_c2 := k1.cell 2; have k1_f2 := k1.frozen 2; have k1_c3 := k1.cell 3; have k1_f3 := k1.frozen 3; have k1_l := k1.lt
        go_wp2_with fail
        clear k0_c0 k0_f0 k0_c1 k0_f1 k0_c2 k0_f2 k0_c3 k0_f3 k0_l
        clear k1_c0 k1_f0 k1_c1 k1_f1 k1_c2 k1_f2 k1_c3 k1_f3 k1_l
        go_at_call 61; refine (l00In_b _ _ _ _ _ h3).mono ?_; rintro e W4 ⟨rfl, rfl⟩
        have k0_c0 := k0.cell 0; have k0_f0 := k0.frozen 0; have k0_c1 := k0.cell 1; have k0_f1 := k0.frozen 1; have k0_c2 := k0.cell 2; have k0_f2 := k0.frozen 2; have k0_c3 := k0.cell 3; have k0_f3 := k0.frozen 3; have k0_l := k0.lt
        have k1_c0 := k1.cell 0; have k1_f0 := k1.frozen 0; have k1_c1 := k1.cell 1; have k1_f1 := k1.frozen 1; have k1_c2 := k1.cell 2; have k1_f2 := k1.frozen 2; have k1_c3 := k1.cell 3; have k1_f3 := k1.frozen 3; have k1_l := k1.lt
        go_wp2
        refine bodyPost_ret (v := .tuple #[.agg #[.int .i64 0, .int .i64 0, .int .i64 0, .int .i64 0], .bool false, .bool false]) (by simp [results, Try.results23, go_sem, k1_c0, k1_c1, k1_c2, k1_c3]) rfl ?_
        exact ⟨rfl, (by repeat (first | exact hb | exact Below.refl _ _ | refine Below.setCell ?_ (by first | (simp; done) | (simp; omega) | omega) _ | refine Below.alloc ?_ (by first | (simp; done) | (simp; omega) | omega) _))⟩
      | true =>
        have h3 : decide (1 ≤ count ∧ count ≤ b.sz) = true := by rw [← h3']; simp [askB]
        simp only [Bool.true_and]
        obtain ⟨q1, q2⟩ := ask_le h3'
        obtain ⟨a1, a2⟩ := at_le h2
        have ok := bktB_ok h1
        obtain ⟨bt, hbt⟩ : ∃ z, takeB b count at_ = z := ⟨_, rfl⟩
        obtain ⟨dd, hdd⟩ : ∃ z, didB b count at_ = z := ⟨_, rfl⟩
        have HBT := Lib.hid hbt; have HDD := Lib.hid hdd; clear hbt hdd
        go_enter Try.func23, Try.ntmps23
        go_wp2_with fail
        obtain ⟨k0, k1, hbn⟩ := two_boxes w 25 25 #[.int .i64 b.sz, .int .i64 b.ev, .int .i64 b.lf, .int .i64 b.tm] #[.int .i64 0, .int .i64 0, .int .i64 0, .int .i64 0]
        generalize (w.alloc (.cells #[.int .i64 b.sz, .int .i64 b.ev, .int .i64 b.lf, .int .i64 b.tm] 25)).alloc (.cells #[.int .i64 0, .int .i64 0, .int .i64 0, .int .i64 0] 25) = W1 at *
        have hb := hbn
        clear hbn
        have hsz := hb.size
        go_at_call 56; refine (l06Is_b _ _ _ _ k0 h1).mono ?_; rintro e W2 ⟨rfl, qn, hq⟩
        have hbn : Below W1.heap.size W1 W2 := drew_below ⟨qn, hq⟩
        clear hq
        have k0 := k0.below hbn k0.lt
        have k1 := k1.below hbn k1.lt
        have hb := hb.trans (hbn.mono hb.size)
        clear hbn
        have hsz := hb.size
        have k0_c0 := k0.cell 0; have k0_f0 := k0.frozen 0; have k0_c1 := k0.cell 1; have k0_f1 := k0.frozen 1; have k0_c2 := k0.cell 2; have k0_f2 := k0.frozen 2; have k0_c3 := k0.cell 3; have k0_f3 := k0.frozen 3; have k0_l := k0.lt
        have k1_c0 := k1.cell 0; have k1_f0 := k1.frozen 0; have k1_c1 := k1.cell 1; have k1_f1 := k1.frozen 1; have k1_c2 := k1.cell 2; have k1_f2 := k1.frozen 2; have k1_c3 := k1.cell 3; have k1_f3 := k1.frozen 3; have k1_l := k1.lt
        go_wp2_with fail
        clear k0_c0 k0_f0 k0_c1 k0_f1 k0_c2 k0_f2 k0_c3 k0_f3 k0_l
        clear k1_c0 k1_f0 k1_c1 k1_f1 k1_c2 k1_f2 k1_c3 k1_f3 k1_l
        go_at_call 59; refine (l06At_b _ _ _ _ _ k0 h2).mono ?_; rintro e W3 ⟨rfl, rfl⟩
        have k0_c0 := k0.cell 0; have k0_f0 := k0.frozen 0; have k0_c1 := k0.cell 1; have k0_f1 := k0.frozen 1; have k0_c2 := k0.cell 2; have k0_f2 := k0.frozen 2; have k0_c3 := k0.cell 3; have k0_f3 := k0.frozen 3; have k0_l := k0.lt
        have k1_c0 := k1.cell 0; have k1_f0 := k1.frozen 0; have k1_c1 := k1.cell 1; have k1_f1 := k1.frozen 1; have k1_c2 := k1.cell 2; have k1_f2 := k1.frozen 2; have k1_c3 := k1.cell 3; have k1_f3 := k1.frozen 3; have k1_l := k1.lt
        go_wp2_with fail
        clear k0_c0 k0_f0 k0_c1 k0_f1 k0_c2 k0_f2 k0_c3 k0_f3 k0_l
        clear k1_c0 k1_f0 k1_c1 k1_f1 k1_c2 k1_f2 k1_c3 k1_f3 k1_l
        go_at_call 61; refine (l00In_b _ _ _ _ _ h3).mono ?_; rintro e W4 ⟨rfl, rfl⟩
        have k0_c0 := k0.cell 0; have k0_f0 := k0.frozen 0; have k0_c1 := k0.cell 1; have k0_f1 := k0.frozen 1; have k0_c2 := k0.cell 2; have k0_f2 := k0.frozen 2; have k0_c3 := k0.cell 3; have k0_f3 := k0.frozen 3; have k0_l := k0.lt
        have k1_c0 := k1.cell 0; have k1_f0 := k1.frozen 0; have k1_c1 := k1.cell 1; have k1_f1 := k1.frozen 1; have k1_c2 := k1.cell 2; have k1_f2 := k1.frozen 2; have k1_c3 := k1.cell 3; have k1_f3 := k1.frozen 3; have k1_l := k1.lt
        go_wp2_with fail
        clear k0_c0 k0_f0 k0_c1 k0_f1 k0_c2 k0_f2 k0_c3 k0_f3 k0_l
        clear k1_c0 k1_f0 k1_c1 k1_f1 k1_c2 k1_f2 k1_c3 k1_f3 k1_l
        have hsz1 := k1.lt
        go_at_call 62; refine (l06Take_any _ _ _ _ _ k0 ok a1 a2 q1 q2).mono ?_; rw [HBT.out, HDD.out]; rintro e WT ⟨rfl, kk, hg⟩
        have k1 := k1.grown hg (by intro e; injection e with e; omega)
        have hb := hb.grown hg hb.size (by intro j hj; injection hj with hj; omega)
        have k0 := kk
        clear kk hg hsz1
        have hsz := hb.size
        have k0_c0 := k0.cell 0; have k0_f0 := k0.frozen 0; have k0_c1 := k0.cell 1; have k0_f1 := k0.frozen 1; have k0_c2 := k0.cell 2; have k0_f2 := k0.frozen 2; have k0_c3 := k0.cell 3; have k0_f3 := k0.frozen 3; have k0_l := k0.lt
        have k1_c0 := k1.cell 0; have k1_f0 := k1.frozen 0; have k1_c1 := k1.cell 1; have k1_f1 := k1.frozen 1; have k1_c2 := k1.cell 2; have k1_f2 := k1.frozen 2; have k1_c3 := k1.cell 3; have k1_f3 := k1.frozen 3; have k1_l := k1.lt
        go_wp2
        refine bodyPost_ret (v := .tuple #[.agg #[.int .i64 bt.sz, .int .i64 bt.ev, .int .i64 bt.lf, .int .i64 bt.tm], .bool dd, .bool true]) (by simp [results, Try.results23, go_sem, k1_c0, k1_c1, k1_c2, k1_c3, k0_c0, k0_c1, k0_c2, k0_c3]) rfl ?_
        exact ⟨by rw [HBT.out, HDD.out]; rfl, (by repeat (first | exact hb | exact Below.refl _ _ | refine Below.setCell ?_ (by first | (simp; done) | (simp; omega) | omega) _ | refine Below.alloc ?_ (by first | (simp; done) | (simp; omega) | omega) _))⟩
end Go.Proofs.Ytmdoddikaaaamaa
