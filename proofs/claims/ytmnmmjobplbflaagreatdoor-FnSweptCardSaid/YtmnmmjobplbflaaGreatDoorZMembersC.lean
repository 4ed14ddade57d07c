import Derived.Test.YtmnmmjobplbflaaGreatDoorChecked
import Derived.WalkKit
import Derived.ProofKit
import Derived.OpenShut
import Derived.ShutString
import Derived.ChangeOld
import Derived.Below
import Derived.Lib.Hide
import Derived.Deep.QuietTactic
import Derived.BigQuiet
import Derived.Test.YtmnmmjobplbflaaGreatDoorZFindC
import Derived.Test.YtmnmmjobplbflaaGreatDoorZMayC
import Derived.Test.YtmnmmjobplbflaaGreatDoorZIsMembersC
namespace Go.Proofs.YtmnmmjobplbflaaGreatDoor
open Go.ChangeShapes Go.WideShapes Go.ChangeAt Go.RowKit
open Go.ChangeMaps (open_string shut_string)
set_option linter.unusedVariables false
set_option maxRecDepth 100000
theorem ret_eq {v v' : Value} (h : v = v') : Ending.returned v = .returned v' := by rw [h]
theorem l02Id_b (n : Int) (b : Bool) (w : World) (h : idB n = b) : Calls Tryz.prog 101 #[.int .i64 n] w fun e w' => e = .returned (.bool b) ∧ w = w' := by
  by_cases hh : 1 ≤ n ∧ n ≤ 1000
  · obtain rfl : b = true := by rw [← h]; simpa [idB] using hh
    clear h
    go_enter Tryz.func101, Tryz.ntmps101
    go_wp2_with (go_at_call 125; refine (l00In_yes _ _ _ _ hh).mono ?_; rintro e w' ⟨rfl, rfl⟩)
    go_ret
    exact ⟨rfl, rfl⟩
  · obtain rfl : b = false := by rw [← h]; simpa [idB] using hh
    clear h
    go_enter Tryz.func101, Tryz.ntmps101
    go_wp2_with (go_at_call 125; refine (l00In_no _ _ _ _ hh).mono ?_; rintro e w' ⟨rfl, rfl⟩)
    go_ret
    exact ⟨rfl, rfl⟩
theorem l02Tick_b (n : Int) (b : Bool) (w : World) (h : tickB n = b) : Calls Tryz.prog 102 #[.int .i64 n] w fun e w' => e = .returned (.bool b) ∧ w = w' := by
  by_cases hh : 0 ≤ n ∧ n ≤ 1000000
  · obtain rfl : b = true := by rw [← h]; simpa [tickB] using hh
    clear h
    go_enter Tryz.func102, Tryz.ntmps102
    go_wp2_with (go_at_call 125; refine (l00In_yes _ _ _ _ hh).mono ?_; rintro e w' ⟨rfl, rfl⟩)
    go_ret
    exact ⟨rfl, rfl⟩
  · obtain rfl : b = false := by rw [← h]; simpa [tickB] using hh
    clear h
    go_enter Tryz.func102, Tryz.ntmps102
    go_wp2_with (go_at_call 125; refine (l00In_no _ _ _ _ hh).mono ?_; rintro e w' ⟨rfl, rfl⟩)
    go_ret
    exact ⟨rfl, rfl⟩
theorem l02Role_b (n : Int) (b : Bool) (w : World) (h : roleB n = b) : Calls Tryz.prog 124 #[.int .i64 n] w fun e w' => e = .returned (.bool b) ∧ w = w' := by
  by_cases hh : 0 ≤ n ∧ n ≤ 3
  · obtain rfl : b = true := by rw [← h]; simpa [roleB] using hh
    exact l02Role_yes n w hh
  · obtain rfl : b = false := by rw [← h]; simpa [roleB] using hh
    exact l02Role_no n w hh
set_option maxHeartbeats 1600000 in
theorem l02Members_any (G : Nat) (A : Option Addr) (n c B : Nat) (xs : List Mb) (w : World) (hp : w.cell? ⟨G, 1, none⟩ = some (.slice A n c)) (h : SRow 4 mbC w B A n xs) (hn : n ≤ 1048576) :
    Calls Tryz.prog 100 #[.pointer (some ⟨G, 0, none⟩)] w fun e w' => e = .returned (.bool (membersB xs)) ∧ ∃ q, w' = w.drewN q := by
  have HL := Lib.hid h.1
  by_cases hl0 : n < 1
  · have HF := Lib.hid (mb_none (xs := xs) (by have := HL.out; omega))
    have hd0 : decide (n < 1) = true := by simpa using hl0
    have hd1 : decide ((n : Int) < 1) = true := by simp; omega
    go_enter Tryz.func100, Tryz.ntmps100
    go_wp2
    go_ret
    exact ⟨ret_bool HF.out.symm, 0, rfl⟩
  by_cases hl1 : 32 < n
  · have HF := Lib.hid (mb_long (xs := xs) (by have := HL.out; omega))
    have hl0' : 1 ≤ n := by omega
    clear hl0
    go_enter Tryz.func100, Tryz.ntmps100
    go_wp2
    go_ret
    exact ⟨ret_bool HF.out.symm, 0, rfl⟩
  have hl0' : 1 ≤ n := by omega
  have hl1' : n ≤ 32 := by omega
  clear hl0 hl1
  go_enter Tryz.func100, Tryz.ntmps100
  go_wp2
  go_loopw [3, 4] (fun ow i wr => ∃ k q m : Nat, k ≤ n ∧ i = .int .i64 k ∧ ow = .int .i64 m ∧ m ≤ k ∧ Hid (m = ownersTo xs k) ∧ Hid (wr = w.drewN q) ∧ Hid (MbTo xs k)) (fun _ i _ => n - (intOf i).toNat)
  case atStart => exact ⟨0, 0, 0, by omega, rfl, rfl, by omega, Lib.hid rfl, Lib.hid rfl, Lib.hid (MbTo.zero _)⟩
  case round =>
    obtain ⟨k, q, m, hk, rfl, rfl, hmk, HM, HW, HR⟩ := hrel
    have hp : wr.cell? ⟨G, 1, none⟩ = some (.slice A n c) := by rw [HW.out]; exact hp
    by_cases hlt : k < n
    · obtain ⟨b, off, z, rfl, _, hz, c0, c1, c2, c3⟩ := h.atm hlt
      have HZ := Lib.hid hz
      have c0 : wr.cell? ⟨b, off + k * 4, none⟩ = some (.int .i64 z.id) := by rw [HW.out]; exact c0
      have c1 : wr.cell? ⟨b, off + k * 4 + 1, none⟩ = some (.int .i64 z.role) := by rw [HW.out]; exact c1
      have c2 : wr.cell? ⟨b, off + k * 4 + 2, none⟩ = some (.int .i64 z.since) := by rw [HW.out]; exact c2
      have c3 : wr.cell? ⟨b, off + k * 4 + 3, none⟩ = some (.int .i64 z.quiet) := by rw [HW.out]; exact c3
      clear hz
      have hi0 : (0 : Int) ≤ (k : Int) := by omega
      have hi1 : (k : Int) < (n : Int) := by omega
      cases t0 : idB z.id with
      | false =>
        have HF := Lib.hid (mb_bad HZ.out (.inr t0))
        clear h
        go_wp2
        go_quiet ((first | (go_at_call 101; exact Calls.quiet_here (l02Id_b _ _ _ t0))))
        go_wp2
        go_ret
        exact ⟨ret_bool HF.out.symm, q + nq, by rw [HW.out, World.drewN_drewN]⟩
      | true =>
        cases t1 : roleB z.role with
        | false =>
          have HF := Lib.hid (mb_bad HZ.out (.inl (by simp [mbB, t1])))
          clear h
          go_wp2
          go_quiet ((first | (go_at_call 101; exact Calls.quiet_here (l02Id_b _ _ _ t0)) | (go_at_call 124; exact Calls.quiet_here (l02Role_b _ _ _ t1))))
          go_wp2
          go_ret
          exact ⟨ret_bool HF.out.symm, q + nq, by rw [HW.out, World.drewN_drewN]⟩
        | true =>
          cases t2 : tickB z.since with
          | false =>
            have HF := Lib.hid (mb_bad HZ.out (.inl (by simp [mbB, t2])))
            clear h
            go_wp2
            go_quiet ((first | (go_at_call 101; exact Calls.quiet_here (l02Id_b _ _ _ t0)) | (go_at_call 124; exact Calls.quiet_here (l02Role_b _ _ _ t1)) | (go_at_call 102; exact Calls.quiet_here (l02Tick_b _ _ _ t2))))
            go_wp2
            go_ret
            exact ⟨ret_bool HF.out.symm, q + nq, by rw [HW.out, World.drewN_drewN]⟩
          | true =>
            cases t3 : tickB z.quiet with
            | false =>
              have HF := Lib.hid (mb_bad HZ.out (.inl (by simp [mbB, t3])))
              clear h
              go_wp2
              go_quiet ((first | (go_at_call 101; exact Calls.quiet_here (l02Id_b _ _ _ t0)) | (go_at_call 124; exact Calls.quiet_here (l02Role_b _ _ _ t1)) | (go_at_call 102; exact Calls.quiet_here (l02Tick_b _ _ _ t2)) | (go_at_call 102; exact Calls.quiet_here (l02Tick_b _ _ _ t3))))
              go_wp2
              go_ret
              exact ⟨ret_bool HF.out.symm, q + nq, by rw [HW.out, World.drewN_drewN]⟩
            | true =>
              have HB := Lib.hid (show mbB z = true by simp [mbB, t1, t2, t3])
              by_cases hk0 : 0 < k
              · obtain ⟨b2, off2, y, e2, _, hy, y0, _, _, _⟩ := h.atm (k := k - 1) (by omega)
                simp only [Option.some.injEq, Addr.mk.injEq, and_true] at e2
                obtain ⟨rfl, rfl⟩ := e2
                have HY := Lib.hid hy
                clear hy h
                obtain ⟨j, rfl⟩ : ∃ j, k = j + 1 := ⟨k - 1, by omega⟩
                simp only [Nat.add_sub_cancel] at y0 HY
                have y0' : wr.cell? ⟨b, off + j * 4, none⟩ = some (.int .i64 y.id) := by rw [HW.out]; exact y0
                clear y0
                have hd1 : (0 : Int) < ((j + 1 : Nat) : Int) := by omega
                by_cases hyz : z.id ≤ y.id
                · have HF := Lib.hid (mb_flat hk0 HZ.out (by simpa using HY.out) hyz)
                  go_wp2
                  go_quiet ((first | (go_at_call 101; exact Calls.quiet_here (l02Id_b _ _ _ t0)) | (go_at_call 124; exact Calls.quiet_here (l02Role_b _ _ _ t1)) | (go_at_call 102; exact Calls.quiet_here (l02Tick_b _ _ _ t2)) | (go_at_call 102; exact Calls.quiet_here (l02Tick_b _ _ _ t3))))
                  go_wp2
                  go_ret
                  exact ⟨ret_bool HF.out.symm, q + nq, by rw [HW.out, World.drewN_drewN]⟩
                · have hyz' : y.id < z.id := by omega
                  have hdf : decide (z.id ≤ y.id) = false := by simpa using hyz
                  clear hyz
                  have HN := Lib.hid (HR.out.succ HZ.out HB.out t0 (fun u _ hu => by rw [Nat.add_sub_cancel, HY.out] at hu; injection hu with hu; rw [← hu]; omega))
                  by_cases hr3 : z.role = 3
                  · have he3 : (z.role == 3) = true := by simp [hr3]
                    have HC := Lib.hid (ownersTo_yes HZ.out hr3)
                    clear hr3
                    go_wp2
                    go_quiet ((first | (go_at_call 101; exact Calls.quiet_here (l02Id_b _ _ _ t0)) | (go_at_call 124; exact Calls.quiet_here (l02Role_b _ _ _ t1)) | (go_at_call 102; exact Calls.quiet_here (l02Tick_b _ _ _ t2)) | (go_at_call 102; exact Calls.quiet_here (l02Tick_b _ _ _ t3))))
                    go_wp2
                    go_roundw
                    case rel => exact ⟨j + 1 + 1, q + nq, m + 1, by omega, by go_num, by go_num, by omega, Lib.hid (by rw [HC.out, HM.out]), Lib.hid (by rw [HW.out, World.drewN_drewN]), HN⟩
                    case measure => simp [intOf]; omega
                  · have he3 : (z.role == 3) = false := by simp [hr3]
                    have HC := Lib.hid (ownersTo_no HZ.out hr3)
                    clear hr3
                    go_wp2
                    go_quiet ((first | (go_at_call 101; exact Calls.quiet_here (l02Id_b _ _ _ t0)) | (go_at_call 124; exact Calls.quiet_here (l02Role_b _ _ _ t1)) | (go_at_call 102; exact Calls.quiet_here (l02Tick_b _ _ _ t2)) | (go_at_call 102; exact Calls.quiet_here (l02Tick_b _ _ _ t3))))
                    go_wp2
                    go_roundw
                    case rel => exact ⟨j + 1 + 1, q + nq, m, by omega, by go_num, rfl, by omega, Lib.hid (by rw [HC.out, HM.out]), Lib.hid (by rw [HW.out, World.drewN_drewN]), HN⟩
                    case measure => simp [intOf]; omega
              · have hd0 : decide ((0 : Int) < (k : Int)) = false := by simp; omega
                have hd0' : decide (0 < k) = false := by simp; omega
                have HN := Lib.hid (HR.out.succ HZ.out HB.out t0 (fun u hu => absurd hu hk0))
                clear h hk0
                by_cases hr3 : z.role = 3
                · have he3 : (z.role == 3) = true := by simp [hr3]
                  have HC := Lib.hid (ownersTo_yes HZ.out hr3)
                  clear hr3
                  go_wp2
                  go_quiet ((first | (go_at_call 101; exact Calls.quiet_here (l02Id_b _ _ _ t0)) | (go_at_call 124; exact Calls.quiet_here (l02Role_b _ _ _ t1)) | (go_at_call 102; exact Calls.quiet_here (l02Tick_b _ _ _ t2)) | (go_at_call 102; exact Calls.quiet_here (l02Tick_b _ _ _ t3))))
                  go_wp2
                  go_roundw
                  case rel => exact ⟨k + 1, q + nq, m + 1, by omega, by go_num, by go_num, by omega, Lib.hid (by rw [HC.out, HM.out]), Lib.hid (by rw [HW.out, World.drewN_drewN]), HN⟩
                  case measure => simp [intOf]; omega
                · have he3 : (z.role == 3) = false := by simp [hr3]
                  have HC := Lib.hid (ownersTo_no HZ.out hr3)
                  clear hr3
                  go_wp2
                  go_quiet ((first | (go_at_call 101; exact Calls.quiet_here (l02Id_b _ _ _ t0)) | (go_at_call 124; exact Calls.quiet_here (l02Role_b _ _ _ t1)) | (go_at_call 102; exact Calls.quiet_here (l02Tick_b _ _ _ t2)) | (go_at_call 102; exact Calls.quiet_here (l02Tick_b _ _ _ t3))))
                  go_wp2
                  go_roundw
                  case rel => exact ⟨k + 1, q + nq, m, by omega, by go_num, rfl, by omega, Lib.hid (by rw [HC.out, HM.out]), Lib.hid (by rw [HW.out, World.drewN_drewN]), HN⟩
                  case measure => simp [intOf]; omega
    · have HE := Lib.hid (mb_full HR.out (by have := HL.out; omega) (by have := HL.out; omega))
      go_wp2
      go_ret
      exact ⟨ret_bool (by rw [HE.out, ← HM.out]), q, HW.out⟩
end Go.Proofs.YtmnmmjobplbflaaGreatDoor
