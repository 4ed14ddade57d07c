import Derived.Test.YtmdoddikaaaamabChecked
import Derived.WalkKit
import Derived.ProofKit
import Derived.OpenShut
import Derived.ShutString
import Derived.ChangeOld
import Derived.Below
import Derived.Lib.Hide
import Derived.Deep.QuietTactic
import Derived.BigQuiet
import Derived.Shelf.Abstract
import Derived.Test.YtmdoddikaaaamabZRunI
namespace Go.Proofs.Ytmdoddikaaaamab
open Go.ChangeShapes Go.WideShapes Go.ChangeAt Go.RowKit
open Go.ChangeMaps (open_string shut_string)
set_option linter.unusedVariables false
set_option maxRecDepth 100000
set_option maxHeartbeats 6400000 in
theorem impl_RunBucket_any (b : Bk) (A : Option Addr) (n c : Nat) (xs : List Int) (w : World) (h : Row i64v w w.heap.size A n xs) (hn : n ≤ 1048576) :
    Calls Try.prog 53 #[.agg #[.int .i64 b.sz, .int .i64 b.ev, .int .i64 b.lf, .int .i64 b.tm], .slice A n c] w (RunsOut (okRun b xs) (giveK (okRun b xs) (runG stB b xs).2) (runG stB b xs).1 w) := by
  cases tb : bktB b with
  | false =>
    have E := Lib.hid (okRun_no (xs := xs) tb)
    go_enter Try.func53, Try.ntmps53
    go_wp2_with fail
    obtain ⟨k2, k4, hb⟩ := two_boxes w 66 66 #[.int .i64 b.sz, .int .i64 b.ev, .int .i64 b.lf, .int .i64 b.tm] #[.int .i64 0, .int .i64 0, .int .i64 0, .int .i64 0]
    generalize (w.alloc (.cells #[.int .i64 b.sz, .int .i64 b.ev, .int .i64 b.lf, .int .i64 b.tm] 66)).alloc (.cells #[.int .i64 0, .int .i64 0, .int .i64 0, .int .i64 0] 66) = W at *
    have g2 : ∀ s : Gr W, s.u.cell? ⟨w.heap.size, 3, none⟩ = some (.int .i64 b.tm) := fun s => (s.hb.cell (p := ⟨w.heap.size, 3, none⟩) k2.lt).trans (k2.cell 3)
    have g20 : ∀ s : Gr W, s.u.cell? ⟨w.heap.size, 0, none⟩ = some (.int .i64 b.sz) := fun s => (s.hb.cell (p := ⟨w.heap.size, 0, none⟩) k2.lt).trans (k2.cell 0)
    have g21 : ∀ s : Gr W, s.u.cell? ⟨w.heap.size, 1, none⟩ = some (.int .i64 b.ev) := fun s => (s.hb.cell (p := ⟨w.heap.size, 1, none⟩) k2.lt).trans (k2.cell 1)
    have g22 : ∀ s : Gr W, s.u.cell? ⟨w.heap.size, 2, none⟩ = some (.int .i64 b.lf) := fun s => (s.hb.cell (p := ⟨w.heap.size, 2, none⟩) k2.lt).trans (k2.cell 2)
    have K2 := Lib.hid k2; have K4 := Lib.hid k4; have HB := Lib.hid hb; clear k2 k4 hb
    refine wp_region_calm (w0 := W) (by kernel_rfl) (by kernel_rfl) (Below.refl _ _).drew ?_
    repeat (go_big_quiet_step (((go_at_call 54; exact calm_of (impl_ValidBucket_b _ _ _ tb)))))
    refine wpQuiet_nil ?_
    intro _ hw'
    obtain ⟨s7, hw''⟩ := hw'
    subst hw''
    have hb7 := s7.hb
    have k2 := K2.out.below hb7 K2.out.lt; have k4 := K4.out.below hb7 K4.out.lt; have hb := HB.out.trans (hb7.mono HB.out.size)
    have k2_c0 := k2.cell 0; have k2_f0 := k2.frozen 0; have k2_c1 := k2.cell 1; have k2_f1 := k2.frozen 1; have k2_c2 := k2.cell 2; have k2_f2 := k2.frozen 2; have k2_c3 := k2.cell 3; have k2_f3 := k2.frozen 3; have k2_l := k2.lt
    have k4_c0 := k4.cell 0; have k4_f0 := k4.frozen 0; have k4_c1 := k4.cell 1; have k4_f1 := k4.frozen 1; have k4_c2 := k4.cell 2; have k4_f2 := k4.frozen 2; have k4_c3 := k4.cell 3; have k4_f3 := k4.frozen 3; have k4_l := k4.lt
    have hsz := hb.size
    go_wp2
    refine bodyPost_ret (v := .tuple #[.agg #[.int .i64 0, .int .i64 0, .int .i64 0, .int .i64 0], .slice none 0 0, .bool false]) (by simp [results, Try.results53, go_sem, k4_c0, k4_c1, k4_c2, k4_c3]) rfl ?_
    rw [E.out]
    exact runsOut_no (by repeat (first | exact hb | refine Below.setCell ?_ (by first | (simp; done) | (simp; omega) | omega) _))
  | true =>
    have HTB := Lib.hid tb
    have E0 := Lib.hid (okRun_eq (xs := xs) tb)
    by_cases hn0 : 0 < n
    · obtain ⟨x0, off, z, rfl, hxb, hz, hc⟩ := h.at_ hn0
      have hd : decide ((0 : Int) < (n : Int)) = true := decide_eq_true (by omega)
      have hd2 : decide (0 < n) = true := decide_eq_true hn0
      have hi : (0 : Int) < (n : Int) := by omega
      have hc : w.cell? ⟨x0, off, none⟩ = some (.int .i64 z) := by simpa using hc
      have HS := Lib.hid (start_of b.tm hz)
      clear hz
      by_cases hlo : z < b.tm
      · have h3 : decide (z < b.tm) = true := decide_eq_true hlo
        have E := Lib.hid (show okRun b xs = false by rw [E0.out, HS.out, decide_eq_false (by omega)]; rfl)
        go_enter Try.func53, Try.ntmps53
        go_wp2_with fail
        obtain ⟨k2, k4, hb⟩ := two_boxes w 66 66 #[.int .i64 b.sz, .int .i64 b.ev, .int .i64 b.lf, .int .i64 b.tm] #[.int .i64 0, .int .i64 0, .int .i64 0, .int .i64 0]
        generalize (w.alloc (.cells #[.int .i64 b.sz, .int .i64 b.ev, .int .i64 b.lf, .int .i64 b.tm] 66)).alloc (.cells #[.int .i64 0, .int .i64 0, .int .i64 0, .int .i64 0] 66) = W at *
        have g2 : ∀ s : Gr W, s.u.cell? ⟨w.heap.size, 3, none⟩ = some (.int .i64 b.tm) := fun s => (s.hb.cell (p := ⟨w.heap.size, 3, none⟩) k2.lt).trans (k2.cell 3)
        have g20 : ∀ s : Gr W, s.u.cell? ⟨w.heap.size, 0, none⟩ = some (.int .i64 b.sz) := fun s => (s.hb.cell (p := ⟨w.heap.size, 0, none⟩) k2.lt).trans (k2.cell 0)
        have g21 : ∀ s : Gr W, s.u.cell? ⟨w.heap.size, 1, none⟩ = some (.int .i64 b.ev) := fun s => (s.hb.cell (p := ⟨w.heap.size, 1, none⟩) k2.lt).trans (k2.cell 1)
        have g22 : ∀ s : Gr W, s.u.cell? ⟨w.heap.size, 2, none⟩ = some (.int .i64 b.lf) := fun s => (s.hb.cell (p := ⟨w.heap.size, 2, none⟩) k2.lt).trans (k2.cell 2)
        have gz : ∀ s : Gr W, s.u.cell? ⟨x0, off, none⟩ = some (.int .i64 z) := fun s => (s.hb.cell (p := ⟨x0, off, none⟩) (Nat.lt_of_lt_of_le hxb hb.size)).trans ((hb.cell (p := ⟨x0, off, none⟩) hxb).trans hc)
        have K2 := Lib.hid k2; have K4 := Lib.hid k4; have HB := Lib.hid hb; clear k2 k4 hb
        refine wp_region_calm (w0 := W) (by kernel_rfl) (by kernel_rfl) (Below.refl _ _).drew ?_
        repeat (go_big_quiet_step (((go_at_call 54; exact calm_of (impl_ValidBucket_b _ _ _ tb)))))
        refine wpQuiet_nil ?_
        intro _ hw'
        obtain ⟨s7, hw''⟩ := hw'
        subst hw''
        have hb7 := s7.hb
        have k2 := K2.out.below hb7 K2.out.lt; have k4 := K4.out.below hb7 K4.out.lt; have hb := HB.out.trans (hb7.mono HB.out.size)
        have k2_c0 := k2.cell 0; have k2_f0 := k2.frozen 0; have k2_c1 := k2.cell 1; have k2_f1 := k2.frozen 1; have k2_c2 := k2.cell 2; have k2_f2 := k2.frozen 2; have k2_c3 := k2.cell 3; have k2_f3 := k2.frozen 3; have k2_l := k2.lt
        have k4_c0 := k4.cell 0; have k4_f0 := k4.frozen 0; have k4_c1 := k4.cell 1; have k4_f1 := k4.frozen 1; have k4_c2 := k4.cell 2; have k4_f2 := k4.frozen 2; have k4_c3 := k4.cell 3; have k4_f3 := k4.frozen 3; have k4_l := k4.lt
        have hsz := hb.size
        go_wp2
        refine bodyPost_ret (v := .tuple #[.agg #[.int .i64 0, .int .i64 0, .int .i64 0, .int .i64 0], .slice none 0 0, .bool false]) (by simp [results, Try.results53, go_sem, k4_c0, k4_c1, k4_c2, k4_c3]) rfl ?_
        rw [E.out]
        exact runsOut_no (by repeat (first | exact hb | refine Below.setCell ?_ (by first | (simp; done) | (simp; omega) | omega) _))
      · have h3 : decide (z < b.tm) = false := decide_eq_false hlo
        have HS1 := Lib.hid (show startF b.tm xs = true by rw [HS.out, decide_eq_true (by omega)])
        have HH := Lib.hid h; clear h
        go_enter Try.func53, Try.ntmps53
        go_wp2_with fail
        obtain ⟨k2, k4, hb⟩ := two_boxes w 66 66 #[.int .i64 b.sz, .int .i64 b.ev, .int .i64 b.lf, .int .i64 b.tm] #[.int .i64 0, .int .i64 0, .int .i64 0, .int .i64 0]
        generalize (w.alloc (.cells #[.int .i64 b.sz, .int .i64 b.ev, .int .i64 b.lf, .int .i64 b.tm] 66)).alloc (.cells #[.int .i64 0, .int .i64 0, .int .i64 0, .int .i64 0] 66) = W at *
        have g2 : ∀ s : Gr W, s.u.cell? ⟨w.heap.size, 3, none⟩ = some (.int .i64 b.tm) := fun s => (s.hb.cell (p := ⟨w.heap.size, 3, none⟩) k2.lt).trans (k2.cell 3)
        have g20 : ∀ s : Gr W, s.u.cell? ⟨w.heap.size, 0, none⟩ = some (.int .i64 b.sz) := fun s => (s.hb.cell (p := ⟨w.heap.size, 0, none⟩) k2.lt).trans (k2.cell 0)
        have g21 : ∀ s : Gr W, s.u.cell? ⟨w.heap.size, 1, none⟩ = some (.int .i64 b.ev) := fun s => (s.hb.cell (p := ⟨w.heap.size, 1, none⟩) k2.lt).trans (k2.cell 1)
        have g22 : ∀ s : Gr W, s.u.cell? ⟨w.heap.size, 2, none⟩ = some (.int .i64 b.lf) := fun s => (s.hb.cell (p := ⟨w.heap.size, 2, none⟩) k2.lt).trans (k2.cell 2)
        have gz : ∀ s : Gr W, s.u.cell? ⟨x0, off, none⟩ = some (.int .i64 z) := fun s => (s.hb.cell (p := ⟨x0, off, none⟩) (Nat.lt_of_lt_of_le hxb hb.size)).trans ((hb.cell (p := ⟨x0, off, none⟩) hxb).trans hc)
        have K2 := Lib.hid k2; have K4 := Lib.hid k4; have HB := Lib.hid hb; clear k2 k4 hb
        refine wp_region_calm (w0 := W) (by kernel_rfl) (by kernel_rfl) (Below.refl _ _).drew ?_
        repeat (go_big_quiet_step (((go_at_call 54; exact calm_of (impl_ValidBucket_b _ _ _ tb)))))
        refine wpQuiet_nil ?_
        intro _ hw'
        obtain ⟨s7, hw''⟩ := hw'
        subst hw''
        have hb7 := s7.hb
        have k2 := K2.out.below hb7 K2.out.lt; have k4 := K4.out.below hb7 K4.out.lt; have hb := HB.out.trans (hb7.mono HB.out.size)
        have k2_c0 := k2.cell 0; have k2_f0 := k2.frozen 0; have k2_c1 := k2.cell 1; have k2_f1 := k2.frozen 1; have k2_c2 := k2.cell 2; have k2_f2 := k2.frozen 2; have k2_c3 := k2.cell 3; have k2_f3 := k2.frozen 3; have k2_l := k2.lt
        have k4_c0 := k4.cell 0; have k4_f0 := k4.frozen 0; have k4_c1 := k4.cell 1; have k4_f1 := k4.frozen 1; have k4_c2 := k4.cell 2; have k4_f2 := k4.frozen 2; have k4_c3 := k4.cell 3; have k4_f3 := k4.frozen 3; have k4_l := k4.lt
        have hsz := hb.size
        go_wp2_with fail
        clear k2_c0 k2_f0 k2_c1 k2_f1 k2_c2 k2_f2 k2_c3 k2_f3 k4_c0 k4_f0 k4_c1 k4_f1 k4_c2 k4_f2 k4_c3 k4_f3 k2_l k4_l hsz
        go_at_call 115; refine (runCallsB_any w.heap.size (w.heap.size + 1) b w.heap.size _ n c xs _ (HH.out.below hb) hb.size (Nat.le_refl _) hn k2 k4 HTB.out HS1.out (by omega)).mono ?_; rintro e W9 ⟨A9, n9, c9, zs, rfl, hzs, how, hb9, hI, hs9⟩
        have hbz := hb.size
        have hb := hb.trans hb9
        have HZS := Lib.hid hzs; have HOW := Lib.hid (World.ownsRow.mono how hbz); clear hzs how hb9
        cases tc : ticksB xs with
        | false =>
          have E := Lib.hid (show okRun b xs = false by rw [E0.out, tc, Bool.and_false])
          rw [tc] at hI
          obtain ⟨k2, k4⟩ := hI
          have k2_c0 := k2.cell 0; have k2_f0 := k2.frozen 0; have k2_c1 := k2.cell 1; have k2_f1 := k2.frozen 1; have k2_c2 := k2.cell 2; have k2_f2 := k2.frozen 2; have k2_c3 := k2.cell 3; have k2_f3 := k2.frozen 3; have k2_l := k2.lt
          have k4_c0 := k4.cell 0; have k4_f0 := k4.frozen 0; have k4_c1 := k4.cell 1; have k4_f1 := k4.frozen 1; have k4_c2 := k4.cell 2; have k4_f2 := k4.frozen 2; have k4_c3 := k4.cell 3; have k4_f3 := k4.frozen 3; have k4_l := k4.lt
          have hsz := hb.size
          go_wp2
          refine bodyPost_ret (v := .tuple #[.agg #[.int .i64 0, .int .i64 0, .int .i64 0, .int .i64 0], .slice none 0 0, .bool false]) (by simp [results, Try.results53, go_sem, k4_c0, k4_c1, k4_c2, k4_c3]) rfl ?_
          rw [E.out]
          exact runsOut_no (by repeat (first | exact hb | refine Below.setCell ?_ (by first | (simp; done) | (simp; omega) | omega) _))
        | true =>
          have E := Lib.hid (show okRun b xs = true by rw [E0.out, tc, HS1.out]; rfl)
          have HZ := HZS.out; rw [tc, if_pos rfl] at HZ; have HZ := Lib.hid HZ
          rw [tc, if_pos rfl] at hI
          obtain ⟨k2, k4⟩ := hI
          obtain ⟨bt, hbt⟩ : ∃ z, (runG stB b xs).2 = z := ⟨_, rfl⟩
          rw [hbt] at k2
          have HBT := Lib.hid hbt; clear hbt
          have k2_c0 := k2.cell 0; have k2_f0 := k2.frozen 0; have k2_c1 := k2.cell 1; have k2_f1 := k2.frozen 1; have k2_c2 := k2.cell 2; have k2_f2 := k2.frozen 2; have k2_c3 := k2.cell 3; have k2_f3 := k2.frozen 3; have k2_l := k2.lt
          have k4_c0 := k4.cell 0; have k4_f0 := k4.frozen 0; have k4_c1 := k4.cell 1; have k4_f1 := k4.frozen 1; have k4_c2 := k4.cell 2; have k4_f2 := k4.frozen 2; have k4_c3 := k4.cell 3; have k4_f3 := k4.frozen 3; have k4_l := k4.lt
          have hsz := hb.size
          go_wp2
          refine bodyPost_ret (v := .tuple #[.agg #[.int .i64 bt.sz, .int .i64 bt.ev, .int .i64 bt.lf, .int .i64 bt.tm], .slice A9 n9 c9, .bool true]) (by simp [results, Try.results53, go_sem, k4_c0, k2_c0, k4_c1, k2_c1, k4_c2, k2_c2, k4_c3, k2_c3]) rfl ?_
          rw [E.out, HBT.out]
          exact ⟨A9, n9, c9, zs, rfl, HZ.out, row_far4 HOW.out k4 (by decide), (by repeat (first | exact hb | refine Below.setCell ?_ (by first | (simp; done) | (simp; omega) | omega) _))⟩
    · have hd : decide ((0 : Int) < (n : Int)) = false := decide_eq_false (by omega)
      have hd2 : decide (0 < n) = false := decide_eq_false hn0
      have HS1 := Lib.hid (start_nil b.tm (xs := xs) (by rw [h.1]; omega))
      have HH := Lib.hid h; clear h
      go_enter Try.func53, Try.ntmps53
      go_wp2_with fail
      obtain ⟨k2, k4, hb⟩ := two_boxes w 66 66 #[.int .i64 b.sz, .int .i64 b.ev, .int .i64 b.lf, .int .i64 b.tm] #[.int .i64 0, .int .i64 0, .int .i64 0, .int .i64 0]
      generalize (w.alloc (.cells #[.int .i64 b.sz, .int .i64 b.ev, .int .i64 b.lf, .int .i64 b.tm] 66)).alloc (.cells #[.int .i64 0, .int .i64 0, .int .i64 0, .int .i64 0] 66) = W at *
      have g2 : ∀ s : Gr W, s.u.cell? ⟨w.heap.size, 3, none⟩ = some (.int .i64 b.tm) := fun s => (s.hb.cell (p := ⟨w.heap.size, 3, none⟩) k2.lt).trans (k2.cell 3)
      have g20 : ∀ s : Gr W, s.u.cell? ⟨w.heap.size, 0, none⟩ = some (.int .i64 b.sz) := fun s => (s.hb.cell (p := ⟨w.heap.size, 0, none⟩) k2.lt).trans (k2.cell 0)
      have g21 : ∀ s : Gr W, s.u.cell? ⟨w.heap.size, 1, none⟩ = some (.int .i64 b.ev) := fun s => (s.hb.cell (p := ⟨w.heap.size, 1, none⟩) k2.lt).trans (k2.cell 1)
      have g22 : ∀ s : Gr W, s.u.cell? ⟨w.heap.size, 2, none⟩ = some (.int .i64 b.lf) := fun s => (s.hb.cell (p := ⟨w.heap.size, 2, none⟩) k2.lt).trans (k2.cell 2)
      have K2 := Lib.hid k2; have K4 := Lib.hid k4; have HB := Lib.hid hb; clear k2 k4 hb
      refine wp_region_calm (w0 := W) (by kernel_rfl) (by kernel_rfl) (Below.refl _ _).drew ?_
      repeat (go_big_quiet_step (((go_at_call 54; exact calm_of (impl_ValidBucket_b _ _ _ tb)))))
      refine wpQuiet_nil ?_
      intro _ hw'
      obtain ⟨s7, hw''⟩ := hw'
      subst hw''
      have hb7 := s7.hb
      have k2 := K2.out.below hb7 K2.out.lt; have k4 := K4.out.below hb7 K4.out.lt; have hb := HB.out.trans (hb7.mono HB.out.size)
      have k2_c0 := k2.cell 0; have k2_f0 := k2.frozen 0; have k2_c1 := k2.cell 1; have k2_f1 := k2.frozen 1; have k2_c2 := k2.cell 2; have k2_f2 := k2.frozen 2; have k2_c3 := k2.cell 3; have k2_f3 := k2.frozen 3; have k2_l := k2.lt
      have k4_c0 := k4.cell 0; have k4_f0 := k4.frozen 0; have k4_c1 := k4.cell 1; have k4_f1 := k4.frozen 1; have k4_c2 := k4.cell 2; have k4_f2 := k4.frozen 2; have k4_c3 := k4.cell 3; have k4_f3 := k4.frozen 3; have k4_l := k4.lt
      have hsz := hb.size
      go_wp2_with fail
      clear k2_c0 k2_f0 k2_c1 k2_f1 k2_c2 k2_f2 k2_c3 k2_f3 k4_c0 k4_f0 k4_c1 k4_f1 k4_c2 k4_f2 k4_c3 k4_f3 k2_l k4_l hsz
      go_at_call 115; refine (runCallsB_any w.heap.size (w.heap.size + 1) b w.heap.size _ n c xs _ (HH.out.below hb) hb.size (Nat.le_refl _) hn k2 k4 HTB.out HS1.out (by omega)).mono ?_; rintro e W9 ⟨A9, n9, c9, zs, rfl, hzs, how, hb9, hI, hs9⟩
      have hbz := hb.size
      have hb := hb.trans hb9
      have HZS := Lib.hid hzs; have HOW := Lib.hid (World.ownsRow.mono how hbz); clear hzs how hb9
      cases tc : ticksB xs with
      | false =>
        have E := Lib.hid (show okRun b xs = false by rw [E0.out, tc, Bool.and_false])
        rw [tc] at hI
        obtain ⟨k2, k4⟩ := hI
        have k2_c0 := k2.cell 0; have k2_f0 := k2.frozen 0; have k2_c1 := k2.cell 1; have k2_f1 := k2.frozen 1; have k2_c2 := k2.cell 2; have k2_f2 := k2.frozen 2; have k2_c3 := k2.cell 3; have k2_f3 := k2.frozen 3; have k2_l := k2.lt
        have k4_c0 := k4.cell 0; have k4_f0 := k4.frozen 0; have k4_c1 := k4.cell 1; have k4_f1 := k4.frozen 1; have k4_c2 := k4.cell 2; have k4_f2 := k4.frozen 2; have k4_c3 := k4.cell 3; have k4_f3 := k4.frozen 3; have k4_l := k4.lt
        have hsz := hb.size
        go_wp2
        refine bodyPost_ret (v := .tuple #[.agg #[.int .i64 0, .int .i64 0, .int .i64 0, .int .i64 0], .slice none 0 0, .bool false]) (by simp [results, Try.results53, go_sem, k4_c0, k4_c1, k4_c2, k4_c3]) rfl ?_
        rw [E.out]
        exact runsOut_no (by repeat (first | exact hb | refine Below.setCell ?_ (by first | (simp; done) | (simp; omega) | omega) _))
      | true =>
        have E := Lib.hid (show okRun b xs = true by rw [E0.out, tc, HS1.out]; rfl)
        have HZ := HZS.out; rw [tc, if_pos rfl] at HZ; have HZ := Lib.hid HZ
        rw [tc, if_pos rfl] at hI
        obtain ⟨k2, k4⟩ := hI
        obtain ⟨bt, hbt⟩ : ∃ z, (runG stB b xs).2 = z := ⟨_, rfl⟩
        rw [hbt] at k2
        have HBT := Lib.hid hbt; clear hbt
        have k2_c0 := k2.cell 0; have k2_f0 := k2.frozen 0; have k2_c1 := k2.cell 1; have k2_f1 := k2.frozen 1; have k2_c2 := k2.cell 2; have k2_f2 := k2.frozen 2; have k2_c3 := k2.cell 3; have k2_f3 := k2.frozen 3; have k2_l := k2.lt
        have k4_c0 := k4.cell 0; have k4_f0 := k4.frozen 0; have k4_c1 := k4.cell 1; have k4_f1 := k4.frozen 1; have k4_c2 := k4.cell 2; have k4_f2 := k4.frozen 2; have k4_c3 := k4.cell 3; have k4_f3 := k4.frozen 3; have k4_l := k4.lt
        have hsz := hb.size
        go_wp2
        refine bodyPost_ret (v := .tuple #[.agg #[.int .i64 bt.sz, .int .i64 bt.ev, .int .i64 bt.lf, .int .i64 bt.tm], .slice A9 n9 c9, .bool true]) (by simp [results, Try.results53, go_sem, k4_c0, k2_c0, k4_c1, k2_c1, k4_c2, k2_c2, k4_c3, k2_c3]) rfl ?_
        rw [E.out, HBT.out]
        exact ⟨A9, n9, c9, zs, rfl, HZ.out, row_far4 HOW.out k4 (by decide), (by repeat (first | exact hb | refine Below.setCell ?_ (by first | (simp; done) | (simp; omega) | omega) _))⟩
end Go.Proofs.Ytmdoddikaaaamab
