import Derived.Test.YtdpclbmcmgknjabDoorChecked
import Derived.WalkKit
import Derived.ProofKit
import Derived.OpenShut
import Derived.ShutString
import Derived.ChangeOld
import Derived.Below
import Derived.Lib.Hide
import Derived.Deep.QuietTactic
import Derived.BigQuiet
import Derived.Test.YtdpclbmcmgknjabDoorZEvtA
import Derived.Test.YtdpclbmcmgknjabDoorZMsgV
namespace Go.Proofs.YtdpclbmcmgknjabDoor
open Go.ChangeShapes Go.WideShapes Go.ChangeAt Go.RowKit
open Go.ChangeMaps (open_string shut_string)
set_option linter.unusedVariables false
set_option maxRecDepth 100000
theorem num_pos {n : Int} (h : numB n = true) : 1 ≤ n ∧ n ≤ 1000000000 := by simpa [numB] using h
set_option maxHeartbeats 25600000 in
theorem l07Event_b (g : Nat) (e : Ev) (r : Bool) (w : World) (k : Blk w g 27 #[.int .i64 e.kd, .int .i64 e.nu, .int .i64 e.mb, .int .i64 e.tk, .string e.tx, .int .i64 e.rp]) (hs : e.tx.size ≤ 1048576) (h : evB e = r) : Calls Tryd.prog 12 #[.pointer (some ⟨g, 0, none⟩)] w fun v w' => v = .returned (.bool r) ∧ ∃ q, w' = w.drewN q := by
  have HH := Lib.hid h; clear h
  have c0 := k.cell 0; have c1 := k.cell 1; have c2 := k.cell 2; have c3 := k.cell 3; have c4 := k.cell 4; have c5 := k.cell 5
  clear k
  cases t0 : numB e.nu with
  | false =>
    obtain rfl : r = false := by rw [← HH.out]; simp [evB, t0]
    clear HH
    go_enter Tryd.func12, Tryd.ntmps12
    go_wp2_with (first | (go_at_call 19; refine (l00In_b _ _ _ _ _ (show decide (1 ≤ e.nu ∧ e.nu ≤ 1000000000) = _ from t0)).mono ?_; rintro v w1 ⟨rfl, rfl⟩))
    go_ret
    exact ⟨rfl, by first | exact ⟨0, rfl⟩ | exact ⟨_, rfl⟩ | exact ⟨_, World.drewN_drewN ..⟩⟩
  | true =>
    cases t1 : idB e.mb with
    | false =>
      obtain rfl : r = false := by rw [← HH.out]; simp [evB, t0, t1]
      clear HH
      go_enter Tryd.func12, Tryd.ntmps12
      go_wp2_with (first | (go_at_call 19; refine (l00In_b _ _ _ _ _ (show decide (1 ≤ e.nu ∧ e.nu ≤ 1000000000) = _ from t0)).mono ?_; rintro v w1 ⟨rfl, rfl⟩) | (go_at_call 20; refine (l01Mem_b _ _ _ t1).mono ?_; rintro v w1 ⟨rfl, rfl⟩))
      go_ret
      exact ⟨rfl, by first | exact ⟨0, rfl⟩ | exact ⟨_, rfl⟩ | exact ⟨_, World.drewN_drewN ..⟩⟩
    | true =>
      by_cases k0 : e.kd = 0
      · rw [k0] at c0
        have kk := kindB_0 k0
        cases t2 : tickB e.tk with
        | false =>
          obtain rfl : r = false := by rw [← HH.out]; simp [evB, t0, t1, kk, postEB, t2]
          clear kk HH
          go_enter Tryd.func12, Tryd.ntmps12
          go_wp2_with (first | (go_at_call 19; refine (l00In_b _ _ _ _ _ (show decide (1 ≤ e.nu ∧ e.nu ≤ 1000000000) = _ from t0)).mono ?_; rintro v w1 ⟨rfl, rfl⟩) | (go_at_call 20; refine (l01Mem_b _ _ _ t1).mono ?_; rintro v w1 ⟨rfl, rfl⟩) | (go_at_call 21; refine (l01Tick_b _ _ _ t2).mono ?_; rintro v w1 ⟨rfl, rfl⟩))
          all_goals (try (go_quiet (first | (go_at_call 21; exact Calls.quiet_here (l01Tick_b _ _ _ t2))); go_wp2))
          go_ret
          exact ⟨rfl, by first | exact ⟨0, rfl⟩ | exact ⟨_, rfl⟩ | exact ⟨_, World.drewN_drewN ..⟩⟩
        | true =>
          cases t3 : textB e.tx with
          | false =>
            obtain rfl : r = false := by rw [← HH.out]; simp [evB, t0, t1, kk, postEB, t2, t3]
            clear kk HH
            go_enter Tryd.func12, Tryd.ntmps12
            go_wp2_with (first | (go_at_call 19; refine (l00In_b _ _ _ _ _ (show decide (1 ≤ e.nu ∧ e.nu ≤ 1000000000) = _ from t0)).mono ?_; rintro v w1 ⟨rfl, rfl⟩) | (go_at_call 20; refine (l01Mem_b _ _ _ t1).mono ?_; rintro v w1 ⟨rfl, rfl⟩) | (go_at_call 21; refine (l01Tick_b _ _ _ t2).mono ?_; rintro v w1 ⟨rfl, rfl⟩) | (go_at_call 22; refine (l01Text_b _ _ _ hs t3).mono ?_; rintro v w1 ⟨rfl, rfl⟩))
            all_goals (try (go_quiet (first | (go_at_call 21; exact Calls.quiet_here (l01Tick_b _ _ _ t2)) | (go_at_call 22; exact Calls.quiet_here (l01Text_b _ _ _ hs t3))); go_wp2))
            go_ret
            exact ⟨rfl, by first | exact ⟨0, rfl⟩ | exact ⟨_, rfl⟩ | exact ⟨_, World.drewN_drewN ..⟩⟩
          | true =>
            have nw : IntKind.i64.wrap (e.nu - 1) = e.nu - 1 := IntWalk.i64_in _ (by have := num_pos t0; omega)
            cases t4 : decide (0 ≤ e.rp ∧ e.rp ≤ e.nu - 1) with
            | false =>
              have t5 : (decide (0 ≤ e.rp) && decide (e.rp < e.nu)) = false := by rw [← t4, Bool.eq_iff_iff]; simp; omega
              obtain rfl : r = false := by rw [← HH.out]; simp only [Bool.and_assoc, evB, t0, t1, kk, postEB, t2, t3, t5, Bool.and_false]
              clear kk HH
              go_enter Tryd.func12, Tryd.ntmps12
              go_wp2_with (first | (go_at_call 19; refine (l00In_b _ _ _ _ _ (show decide (1 ≤ e.nu ∧ e.nu ≤ 1000000000) = _ from t0)).mono ?_; rintro v w1 ⟨rfl, rfl⟩) | (go_at_call 20; refine (l01Mem_b _ _ _ t1).mono ?_; rintro v w1 ⟨rfl, rfl⟩) | (go_at_call 21; refine (l01Tick_b _ _ _ t2).mono ?_; rintro v w1 ⟨rfl, rfl⟩) | (go_at_call 22; refine (l01Text_b _ _ _ hs t3).mono ?_; rintro v w1 ⟨rfl, rfl⟩) | (go_at_call 19; refine (l00In_b _ _ _ _ _ t4).mono ?_; rintro v w1 ⟨rfl, rfl⟩))
              all_goals (try (go_quiet (first | (go_at_call 21; exact Calls.quiet_here (l01Tick_b _ _ _ t2)) | (go_at_call 22; exact Calls.quiet_here (l01Text_b _ _ _ hs t3)) | (go_at_call 19; exact Calls.quiet_here (l00In_b _ _ _ _ _ t4))); go_wp2))
              go_ret
              exact ⟨rfl, by first | exact ⟨0, rfl⟩ | exact ⟨_, rfl⟩ | exact ⟨_, World.drewN_drewN ..⟩⟩
            | true =>
              have t5 : (decide (0 ≤ e.rp) && decide (e.rp < e.nu)) = true := by rw [← t4, Bool.eq_iff_iff]; simp; omega
              obtain rfl : r = true := by rw [← HH.out]; simp only [Bool.and_assoc, evB, t0, t1, kk, postEB, t2, t3, t5, Bool.and_true]
              clear kk HH
              go_enter Tryd.func12, Tryd.ntmps12
              go_wp2_with (first | (go_at_call 19; refine (l00In_b _ _ _ _ _ (show decide (1 ≤ e.nu ∧ e.nu ≤ 1000000000) = _ from t0)).mono ?_; rintro v w1 ⟨rfl, rfl⟩) | (go_at_call 20; refine (l01Mem_b _ _ _ t1).mono ?_; rintro v w1 ⟨rfl, rfl⟩) | (go_at_call 21; refine (l01Tick_b _ _ _ t2).mono ?_; rintro v w1 ⟨rfl, rfl⟩) | (go_at_call 22; refine (l01Text_b _ _ _ hs t3).mono ?_; rintro v w1 ⟨rfl, rfl⟩) | (go_at_call 19; refine (l00In_b _ _ _ _ _ t4).mono ?_; rintro v w1 ⟨rfl, rfl⟩))
              all_goals (try (go_quiet (first | (go_at_call 21; exact Calls.quiet_here (l01Tick_b _ _ _ t2)) | (go_at_call 22; exact Calls.quiet_here (l01Text_b _ _ _ hs t3)) | (go_at_call 19; exact Calls.quiet_here (l00In_b _ _ _ _ _ t4))); go_wp2))
              go_ret
              exact ⟨rfl, by first | exact ⟨0, rfl⟩ | exact ⟨_, rfl⟩ | exact ⟨_, World.drewN_drewN ..⟩⟩
      · have k0b : (e.kd == 0) = false := by simp [k0]
        have k0d : decide (e.kd = 0) = false := decide_eq_false k0
        by_cases k1 : e.kd = 1
        · rw [k1] at c0
          have kk := kindB_1 k1
          by_cases z1 : e.tk = 0
          · rw [z1] at c3
            cases t3 : textB e.tx with
            | false =>
              obtain rfl : r = false := by rw [← HH.out]; simp [evB, t0, t1, kk, editB, t3]
              clear kk HH
              go_enter Tryd.func12, Tryd.ntmps12
              go_wp2_with (first | (go_at_call 19; refine (l00In_b _ _ _ _ _ (show decide (1 ≤ e.nu ∧ e.nu ≤ 1000000000) = _ from t0)).mono ?_; rintro v w1 ⟨rfl, rfl⟩) | (go_at_call 20; refine (l01Mem_b _ _ _ t1).mono ?_; rintro v w1 ⟨rfl, rfl⟩) | (go_at_call 22; refine (l01Text_b _ _ _ hs t3).mono ?_; rintro v w1 ⟨rfl, rfl⟩))
              all_goals (try (go_quiet (first | (go_at_call 22; exact Calls.quiet_here (l01Text_b _ _ _ hs t3))); go_wp2))
              go_ret
              exact ⟨rfl, by first | exact ⟨0, rfl⟩ | exact ⟨_, rfl⟩ | exact ⟨_, World.drewN_drewN ..⟩⟩
            | true =>
              by_cases z2 : e.rp = 0
              · rw [z2] at c5
                obtain rfl : r = true := by rw [← HH.out]; simp [evB, t0, t1, kk, editB, z1, t3, z2]
                clear kk HH
                go_enter Tryd.func12, Tryd.ntmps12
                go_wp2_with (first | (go_at_call 19; refine (l00In_b _ _ _ _ _ (show decide (1 ≤ e.nu ∧ e.nu ≤ 1000000000) = _ from t0)).mono ?_; rintro v w1 ⟨rfl, rfl⟩) | (go_at_call 20; refine (l01Mem_b _ _ _ t1).mono ?_; rintro v w1 ⟨rfl, rfl⟩) | (go_at_call 22; refine (l01Text_b _ _ _ hs t3).mono ?_; rintro v w1 ⟨rfl, rfl⟩))
                all_goals (try (go_quiet (first | (go_at_call 22; exact Calls.quiet_here (l01Text_b _ _ _ hs t3))); go_wp2))
                go_ret
                exact ⟨by first | rfl | exact ret_bool z2b, by first | exact ⟨0, rfl⟩ | exact ⟨_, rfl⟩ | exact ⟨_, World.drewN_drewN ..⟩⟩
              · have z2b : (e.rp == 0) = false := by simp [z2]
                have z2d : decide (e.rp = 0) = false := decide_eq_false z2
                obtain rfl : r = false := by rw [← HH.out]; simp [evB, t0, t1, kk, editB, t3, z2]
                clear kk HH
                go_enter Tryd.func12, Tryd.ntmps12
                go_wp2_with (first | (go_at_call 19; refine (l00In_b _ _ _ _ _ (show decide (1 ≤ e.nu ∧ e.nu ≤ 1000000000) = _ from t0)).mono ?_; rintro v w1 ⟨rfl, rfl⟩) | (go_at_call 20; refine (l01Mem_b _ _ _ t1).mono ?_; rintro v w1 ⟨rfl, rfl⟩) | (go_at_call 22; refine (l01Text_b _ _ _ hs t3).mono ?_; rintro v w1 ⟨rfl, rfl⟩))
                all_goals (try (go_quiet (first | (go_at_call 22; exact Calls.quiet_here (l01Text_b _ _ _ hs t3))); go_wp2))
                go_ret
                exact ⟨by first | rfl | exact ret_bool z2b, by first | exact ⟨0, rfl⟩ | exact ⟨_, rfl⟩ | exact ⟨_, World.drewN_drewN ..⟩⟩
          · have z1b : (e.tk == 0) = false := by simp [z1]
            have z1d : decide (e.tk = 0) = false := decide_eq_false z1
            obtain rfl : r = false := by rw [← HH.out]; simp [evB, t0, t1, kk, editB, z1]
            clear kk HH
            go_enter Tryd.func12, Tryd.ntmps12
            go_wp2_with (first | (go_at_call 19; refine (l00In_b _ _ _ _ _ (show decide (1 ≤ e.nu ∧ e.nu ≤ 1000000000) = _ from t0)).mono ?_; rintro v w1 ⟨rfl, rfl⟩) | (go_at_call 20; refine (l01Mem_b _ _ _ t1).mono ?_; rintro v w1 ⟨rfl, rfl⟩))
            all_goals (try (go_quiet (fail); go_wp2))
            go_ret
            exact ⟨rfl, by first | exact ⟨0, rfl⟩ | exact ⟨_, rfl⟩ | exact ⟨_, World.drewN_drewN ..⟩⟩
        · have k1b : (e.kd == 1) = false := by simp [k1]
          have k1d : decide (e.kd = 1) = false := decide_eq_false k1
          by_cases k2 : e.kd = 2
          · rw [k2] at c0
            have kk := kindB_2 k2
            by_cases z1 : e.tk = 0
            · rw [z1] at c3
              cases zx : e.tx.toList.isEmpty with
              | true =>
                by_cases z2 : e.rp = 0
                · rw [z2] at c5
                  obtain rfl : r = true := by rw [← HH.out]; simp [evB, t0, t1, kk, bareB, z1, zx, z2]
                  clear kk HH
                  go_enter Tryd.func12, Tryd.ntmps12
                  go_wp2_with (first | (go_at_call 19; refine (l00In_b _ _ _ _ _ (show decide (1 ≤ e.nu ∧ e.nu ≤ 1000000000) = _ from t0)).mono ?_; rintro v w1 ⟨rfl, rfl⟩) | (go_at_call 20; refine (l01Mem_b _ _ _ t1).mono ?_; rintro v w1 ⟨rfl, rfl⟩))
                  all_goals (try (go_quiet (fail); go_wp2))
                  go_ret
                  exact ⟨by first | rfl | exact ret_bool z2b, by first | exact ⟨0, rfl⟩ | exact ⟨_, rfl⟩ | exact ⟨_, World.drewN_drewN ..⟩⟩
                · have z2b : (e.rp == 0) = false := by simp [z2]
                  have z2d : decide (e.rp = 0) = false := decide_eq_false z2
                  obtain rfl : r = false := by rw [← HH.out]; simp [evB, t0, t1, kk, bareB, z2]
                  clear kk HH
                  go_enter Tryd.func12, Tryd.ntmps12
                  go_wp2_with (first | (go_at_call 19; refine (l00In_b _ _ _ _ _ (show decide (1 ≤ e.nu ∧ e.nu ≤ 1000000000) = _ from t0)).mono ?_; rintro v w1 ⟨rfl, rfl⟩) | (go_at_call 20; refine (l01Mem_b _ _ _ t1).mono ?_; rintro v w1 ⟨rfl, rfl⟩))
                  all_goals (try (go_quiet (fail); go_wp2))
                  go_ret
                  exact ⟨by first | rfl | exact ret_bool z2b, by first | exact ⟨0, rfl⟩ | exact ⟨_, rfl⟩ | exact ⟨_, World.drewN_drewN ..⟩⟩
              | false =>
                obtain rfl : r = false := by rw [← HH.out]; simp [evB, t0, t1, kk, bareB, zx]
                clear kk HH
                go_enter Tryd.func12, Tryd.ntmps12
                go_wp2_with (first | (go_at_call 19; refine (l00In_b _ _ _ _ _ (show decide (1 ≤ e.nu ∧ e.nu ≤ 1000000000) = _ from t0)).mono ?_; rintro v w1 ⟨rfl, rfl⟩) | (go_at_call 20; refine (l01Mem_b _ _ _ t1).mono ?_; rintro v w1 ⟨rfl, rfl⟩))
                all_goals (try (go_quiet (fail); go_wp2))
                go_ret
                exact ⟨rfl, by first | exact ⟨0, rfl⟩ | exact ⟨_, rfl⟩ | exact ⟨_, World.drewN_drewN ..⟩⟩
            · have z1b : (e.tk == 0) = false := by simp [z1]
              have z1d : decide (e.tk = 0) = false := decide_eq_false z1
              obtain rfl : r = false := by rw [← HH.out]; simp [evB, t0, t1, kk, bareB, z1]
              clear kk HH
              go_enter Tryd.func12, Tryd.ntmps12
              go_wp2_with (first | (go_at_call 19; refine (l00In_b _ _ _ _ _ (show decide (1 ≤ e.nu ∧ e.nu ≤ 1000000000) = _ from t0)).mono ?_; rintro v w1 ⟨rfl, rfl⟩) | (go_at_call 20; refine (l01Mem_b _ _ _ t1).mono ?_; rintro v w1 ⟨rfl, rfl⟩))
              all_goals (try (go_quiet (fail); go_wp2))
              go_ret
              exact ⟨rfl, by first | exact ⟨0, rfl⟩ | exact ⟨_, rfl⟩ | exact ⟨_, World.drewN_drewN ..⟩⟩
          · have k2b : (e.kd == 2) = false := by simp [k2]
            have k2d : decide (e.kd = 2) = false := decide_eq_false k2
            by_cases k3 : e.kd = 3
            · rw [k3] at c0
              have kk := kindB_3 k3
              by_cases z1 : e.tk = 0
              · rw [z1] at c3
                cases zx : e.tx.toList.isEmpty with
                | true =>
                  by_cases z2 : e.rp = 0
                  · rw [z2] at c5
                    obtain rfl : r = true := by rw [← HH.out]; simp [evB, t0, t1, kk, bareB, z1, zx, z2]
                    clear kk HH
                    go_enter Tryd.func12, Tryd.ntmps12
                    go_wp2_with (first | (go_at_call 19; refine (l00In_b _ _ _ _ _ (show decide (1 ≤ e.nu ∧ e.nu ≤ 1000000000) = _ from t0)).mono ?_; rintro v w1 ⟨rfl, rfl⟩) | (go_at_call 20; refine (l01Mem_b _ _ _ t1).mono ?_; rintro v w1 ⟨rfl, rfl⟩))
                    all_goals (try (go_quiet (fail); go_wp2))
                    go_ret
                    exact ⟨by first | rfl | exact ret_bool z2b, by first | exact ⟨0, rfl⟩ | exact ⟨_, rfl⟩ | exact ⟨_, World.drewN_drewN ..⟩⟩
                  · have z2b : (e.rp == 0) = false := by simp [z2]
                    have z2d : decide (e.rp = 0) = false := decide_eq_false z2
                    obtain rfl : r = false := by rw [← HH.out]; simp [evB, t0, t1, kk, bareB, z2]
                    clear kk HH
                    go_enter Tryd.func12, Tryd.ntmps12
                    go_wp2_with (first | (go_at_call 19; refine (l00In_b _ _ _ _ _ (show decide (1 ≤ e.nu ∧ e.nu ≤ 1000000000) = _ from t0)).mono ?_; rintro v w1 ⟨rfl, rfl⟩) | (go_at_call 20; refine (l01Mem_b _ _ _ t1).mono ?_; rintro v w1 ⟨rfl, rfl⟩))
                    all_goals (try (go_quiet (fail); go_wp2))
                    go_ret
                    exact ⟨by first | rfl | exact ret_bool z2b, by first | exact ⟨0, rfl⟩ | exact ⟨_, rfl⟩ | exact ⟨_, World.drewN_drewN ..⟩⟩
                | false =>
                  obtain rfl : r = false := by rw [← HH.out]; simp [evB, t0, t1, kk, bareB, zx]
                  clear kk HH
                  go_enter Tryd.func12, Tryd.ntmps12
                  go_wp2_with (first | (go_at_call 19; refine (l00In_b _ _ _ _ _ (show decide (1 ≤ e.nu ∧ e.nu ≤ 1000000000) = _ from t0)).mono ?_; rintro v w1 ⟨rfl, rfl⟩) | (go_at_call 20; refine (l01Mem_b _ _ _ t1).mono ?_; rintro v w1 ⟨rfl, rfl⟩))
                  all_goals (try (go_quiet (fail); go_wp2))
                  go_ret
                  exact ⟨rfl, by first | exact ⟨0, rfl⟩ | exact ⟨_, rfl⟩ | exact ⟨_, World.drewN_drewN ..⟩⟩
              · have z1b : (e.tk == 0) = false := by simp [z1]
                have z1d : decide (e.tk = 0) = false := decide_eq_false z1
                obtain rfl : r = false := by rw [← HH.out]; simp [evB, t0, t1, kk, bareB, z1]
                clear kk HH
                go_enter Tryd.func12, Tryd.ntmps12
                go_wp2_with (first | (go_at_call 19; refine (l00In_b _ _ _ _ _ (show decide (1 ≤ e.nu ∧ e.nu ≤ 1000000000) = _ from t0)).mono ?_; rintro v w1 ⟨rfl, rfl⟩) | (go_at_call 20; refine (l01Mem_b _ _ _ t1).mono ?_; rintro v w1 ⟨rfl, rfl⟩))
                all_goals (try (go_quiet (fail); go_wp2))
                go_ret
                exact ⟨rfl, by first | exact ⟨0, rfl⟩ | exact ⟨_, rfl⟩ | exact ⟨_, World.drewN_drewN ..⟩⟩
            · have k3b : (e.kd == 3) = false := by simp [k3]
              have k3d : decide (e.kd = 3) = false := decide_eq_false k3
              by_cases k4 : e.kd = 4
              · rw [k4] at c0
                have kk := kindB_4 k4
                by_cases z1 : e.tk = 0
                · rw [z1] at c3
                  cases zx : e.tx.toList.isEmpty with
                  | true =>
                    by_cases z2 : e.rp = 0
                    · rw [z2] at c5
                      obtain rfl : r = true := by rw [← HH.out]; simp [evB, t0, t1, kk, bareB, z1, zx, z2]
                      clear kk HH
                      go_enter Tryd.func12, Tryd.ntmps12
                      go_wp2_with (first | (go_at_call 19; refine (l00In_b _ _ _ _ _ (show decide (1 ≤ e.nu ∧ e.nu ≤ 1000000000) = _ from t0)).mono ?_; rintro v w1 ⟨rfl, rfl⟩) | (go_at_call 20; refine (l01Mem_b _ _ _ t1).mono ?_; rintro v w1 ⟨rfl, rfl⟩))
                      all_goals (try (go_quiet (fail); go_wp2))
                      go_ret
                      exact ⟨by first | rfl | exact ret_bool z2b, by first | exact ⟨0, rfl⟩ | exact ⟨_, rfl⟩ | exact ⟨_, World.drewN_drewN ..⟩⟩
                    · have z2b : (e.rp == 0) = false := by simp [z2]
                      have z2d : decide (e.rp = 0) = false := decide_eq_false z2
                      obtain rfl : r = false := by rw [← HH.out]; simp [evB, t0, t1, kk, bareB, z2]
                      clear kk HH
                      go_enter Tryd.func12, Tryd.ntmps12
                      go_wp2_with (first | (go_at_call 19; refine (l00In_b _ _ _ _ _ (show decide (1 ≤ e.nu ∧ e.nu ≤ 1000000000) = _ from t0)).mono ?_; rintro v w1 ⟨rfl, rfl⟩) | (go_at_call 20; refine (l01Mem_b _ _ _ t1).mono ?_; rintro v w1 ⟨rfl, rfl⟩))
                      all_goals (try (go_quiet (fail); go_wp2))
                      go_ret
                      exact ⟨by first | rfl | exact ret_bool z2b, by first | exact ⟨0, rfl⟩ | exact ⟨_, rfl⟩ | exact ⟨_, World.drewN_drewN ..⟩⟩
                  | false =>
                    obtain rfl : r = false := by rw [← HH.out]; simp [evB, t0, t1, kk, bareB, zx]
                    clear kk HH
                    go_enter Tryd.func12, Tryd.ntmps12
                    go_wp2_with (first | (go_at_call 19; refine (l00In_b _ _ _ _ _ (show decide (1 ≤ e.nu ∧ e.nu ≤ 1000000000) = _ from t0)).mono ?_; rintro v w1 ⟨rfl, rfl⟩) | (go_at_call 20; refine (l01Mem_b _ _ _ t1).mono ?_; rintro v w1 ⟨rfl, rfl⟩))
                    all_goals (try (go_quiet (fail); go_wp2))
                    go_ret
                    exact ⟨rfl, by first | exact ⟨0, rfl⟩ | exact ⟨_, rfl⟩ | exact ⟨_, World.drewN_drewN ..⟩⟩
                · have z1b : (e.tk == 0) = false := by simp [z1]
                  have z1d : decide (e.tk = 0) = false := decide_eq_false z1
                  obtain rfl : r = false := by rw [← HH.out]; simp [evB, t0, t1, kk, bareB, z1]
                  clear kk HH
                  go_enter Tryd.func12, Tryd.ntmps12
                  go_wp2_with (first | (go_at_call 19; refine (l00In_b _ _ _ _ _ (show decide (1 ≤ e.nu ∧ e.nu ≤ 1000000000) = _ from t0)).mono ?_; rintro v w1 ⟨rfl, rfl⟩) | (go_at_call 20; refine (l01Mem_b _ _ _ t1).mono ?_; rintro v w1 ⟨rfl, rfl⟩))
                  all_goals (try (go_quiet (fail); go_wp2))
                  go_ret
                  exact ⟨rfl, by first | exact ⟨0, rfl⟩ | exact ⟨_, rfl⟩ | exact ⟨_, World.drewN_drewN ..⟩⟩
              · have k4b : (e.kd == 4) = false := by simp [k4]
                have k4d : decide (e.kd = 4) = false := decide_eq_false k4
                have kk := kindB_no k0 k1 k2 k3 k4
                obtain rfl : r = false := by rw [← HH.out]; simp [evB, t0, t1, kk]
                clear kk HH
                go_enter Tryd.func12, Tryd.ntmps12
                go_wp2_with (first | (go_at_call 19; refine (l00In_b _ _ _ _ _ (show decide (1 ≤ e.nu ∧ e.nu ≤ 1000000000) = _ from t0)).mono ?_; rintro v w1 ⟨rfl, rfl⟩) | (go_at_call 20; refine (l01Mem_b _ _ _ t1).mono ?_; rintro v w1 ⟨rfl, rfl⟩))
                go_ret
                exact ⟨rfl, by first | exact ⟨0, rfl⟩ | exact ⟨_, rfl⟩ | exact ⟨_, World.drewN_drewN ..⟩⟩
end Go.Proofs.YtdpclbmcmgknjabDoor
