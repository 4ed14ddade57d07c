import Derived.Test.YteeodjbionjlmaaChecked
import Derived.WalkKit
import Derived.ProofKit
import Derived.OpenShut
import Derived.ShutString
import Derived.ChangeOld
import Derived.Below
import Derived.Lib.Hide
import Derived.Deep.QuietTactic
import Derived.BigQuiet
import Derived.Test.YteeodjbionjlmaaJr
import Derived.Test.YteeodjbionjlmaaJyc
namespace Go.Proofs.Yteeodjbionjlmaa
open Go.ChangeShapes Go.WideShapes Go.ChangeAt Go.RowKit
open Go.ChangeMaps (open_string shut_string)
set_option linter.unusedVariables false
theorem Calls.quiet_here {P : Program} {f : FuncId} {args : Array Value} {w : World} {n : Nat} {v : Value}
    (h : Calls P f args (w.drewN n) fun e w' => e = .returned v ∧ w.drewN n = w') : Calls P f args (w.drewN n) fun e w'' => e = .returned v ∧ ∃ m, w'' = w.drewN m :=
  h.mono fun _ _ ⟨he, hm⟩ => ⟨he, n, hm.symm⟩
set_option maxHeartbeats 800000 in
theorem l00Rises_any (A : Option Addr) (n c B : Nat) (xs : List Int) (lo hi : Int) (w : World) (h : Row i64v w B A n xs) (hn : n ≤ 1073741824) :
    Calls Try.prog 141 #[.slice A n c, .int .i64 lo, .int .i64 hi] w fun e w' => e = .returned (.bool (risesB xs lo hi)) ∧ ∃ q, w' = w.drewN q := by
  have HL := Lib.hid h.1
  go_enter Try.func141, Try.ntmps141
  go_wp2
  go_loopw [7] (fun i wr => ∃ k q : Nat, k ≤ n ∧ i = .int .i64 k ∧ wr = w.drewN q ∧ RiseTo xs lo hi k) (fun i _ => n - (intOf i).toNat)
  case atStart => exact ⟨0, 0, by omega, rfl, rfl, RiseTo.zero _ _ _⟩
  case round =>
    obtain ⟨k, q, hk, rfl, hwq, hr⟩ := hrel
    have HW := Lib.hid hwq
    clear hwq
    have HR := Lib.hid hr
    clear hr
    by_cases hlt : k < n
    · obtain ⟨b, off, z, rfl, _, hz, hc⟩ := h.ati hlt
      have HZ := Lib.hid hz
      have hc : wr.cell? ⟨b, off + k, none⟩ = some (.int .i64 z) := by rw [HW.out]; exact hc
      clear hz
      have hp : (0 : Int) ≤ (k : Int) := by omega
      have hq : (k : Int) < (n : Int) := by omega
      by_cases hin : lo ≤ z ∧ z ≤ hi
      · by_cases hk0 : 0 < k
        · obtain ⟨b2, off2, y, e2, _, hy, hcy⟩ := h.ati (k := k - 1) (by omega)
          simp only [Option.some.injEq, Addr.mk.injEq, and_true] at e2
          obtain ⟨rfl, rfl⟩ := e2
          have HY := Lib.hid hy
          clear hy h
          obtain ⟨j, rfl⟩ : ∃ j, k = j + 1 := ⟨k - 1, by omega⟩
          simp only [Nat.add_sub_cancel] at hcy HY
          have hcy' : wr.cell? ⟨b, off + j, none⟩ = some (.int .i64 y) := by rw [HW.out]; exact hcy
          clear hcy
          have hd1 : (0 : Int) < ((j + 1 : Nat) : Int) := by omega
          by_cases hyz : z ≤ y
          · have HF := Lib.hid (rises_flat (lo := lo) (hi := hi) hk0 HZ.out (by simpa using HY.out) hyz)
            go_wp2
            go_quiet ((go_at_call 78; exact Calls.quiet_here (l00In_yes _ _ _ _ hin)))
            go_wp2
            go_ret
            exact ⟨ret_bool HF.out.symm, q + nq, by rw [HW.out, World.drewN_drewN]⟩
          · have hyz' : y < z := by omega
            have hdf : decide (z ≤ y) = false := by simpa using hyz
            clear hyz
            go_wp2
            go_quiet ((go_at_call 78; exact Calls.quiet_here (l00In_yes _ _ _ _ hin)))
            go_wp2
            go_roundw
            case rel => exact ⟨j + 1 + 1, q + nq, by omega, by go_num, by rw [HW.out, World.drewN_drewN], HR.out.succ HZ.out hin.1 hin.2 (fun u _ hu => by rw [Nat.add_sub_cancel, HY.out] at hu; injection hu with hu; omega)⟩
            case measure => simp [intOf]; omega
        · have hd0 : decide ((0 : Int) < (k : Int)) = false := by simp; omega
          have hd0' : decide (0 < k) = false := by simp; omega
          have HK := Lib.hid hk0
          clear h hk0
          go_wp2
          go_quiet ((go_at_call 78; exact Calls.quiet_here (l00In_yes _ _ _ _ hin)))
          go_wp2
          go_roundw
          case rel => exact ⟨k + 1, q + nq, by omega, by go_num, by rw [HW.out, World.drewN_drewN], HR.out.succ HZ.out hin.1 hin.2 (fun u hu => absurd hu HK.out)⟩
          case measure => simp [intOf]; omega
      · have HF := Lib.hid (rises_out HZ.out hin)
        clear h
        go_wp2
        go_quiet ((go_at_call 78; exact Calls.quiet_here (l00In_no _ _ _ _ hin)))
        go_wp2
        go_ret
        exact ⟨ret_bool HF.out.symm, q + nq, by rw [HW.out, World.drewN_drewN]⟩
    · have HE := Lib.hid (rises_full HR.out (by have := HL.out; omega))
      go_wp2
      go_ret
      exact ⟨ret_bool HE.out.symm, q, HW.out⟩

theorem isMember_yes (n : Int) (w : World) (h : 1 ≤ n ∧ n ≤ 1000) :
    Calls Try.prog 137 #[.int .i64 n] w fun e w' => e = .returned (.bool true) ∧ w = w' := by
  obtain ⟨h1, h2⟩ := h
  go_enter Try.func137, Try.ntmps137
  go_wp2
  go_ret
  exact ⟨rfl, rfl⟩
theorem isMember_no (n : Int) (w : World) (h : ¬ (1 ≤ n ∧ n ≤ 1000)) :
    Calls Try.prog 137 #[.int .i64 n] w fun e w' => e = .returned (.bool false) ∧ w = w' := by
  by_cases h1 : n < 1
  · clear h
    go_enter Try.func137, Try.ntmps137
    go_wp2
    go_ret
    exact ⟨rfl, rfl⟩
  · have h2 : 1000 < n := by omega
    clear h
    go_enter Try.func137, Try.ntmps137
    go_wp2
    go_ret
    exact ⟨ret_bool (by simp; omega), rfl⟩
set_option maxHeartbeats 800000 in
theorem impl_IsMembers_any (A : Option Addr) (n c B : Nat) (xs : List Int) (w : World) (h : Row i64v w B A n xs) (hn : n ≤ 1073741824) :
    Calls Try.prog 114 #[.slice A n c] w fun e w' => e = .returned (.bool (memB xs)) ∧ w = w' := by
  have HL := Lib.hid h.1
  go_enter Try.func114, Try.ntmps114
  go_wp2
  go_loop [7] (fun i => ∃ k : Nat, k ≤ n ∧ i = .int .i64 k ∧ RiseTo xs 1 1000 k) (fun i => n - (intOf i).toNat)
  case atStart => exact ⟨0, by omega, rfl, RiseTo.zero _ _ _⟩
  case round =>
    obtain ⟨k, hk, rfl, hr⟩ := hrel
    have HR := Lib.hid hr
    clear hr
    by_cases hlt : k < n
    · obtain ⟨b, off, z, rfl, _, hz, hc⟩ := h.ati hlt
      have HZ := Lib.hid hz
      clear hz
      have hp : (0 : Int) ≤ (k : Int) := by omega
      have hq : (k : Int) < (n : Int) := by omega
      by_cases hin : 1 ≤ z ∧ z ≤ 1000
      · by_cases hk0 : 0 < k
        · obtain ⟨b2, off2, y, e2, _, hy, hcy⟩ := h.ati (k := k - 1) (by omega)
          simp only [Option.some.injEq, Addr.mk.injEq, and_true] at e2
          obtain ⟨rfl, rfl⟩ := e2
          have HY := Lib.hid hy
          clear hy h
          obtain ⟨j, rfl⟩ : ∃ j, k = j + 1 := ⟨k - 1, by omega⟩
          simp only [Nat.add_sub_cancel] at hcy HY
          have hcy' : w.cell? ⟨b, off + j, none⟩ = some (.int .i64 y) := hcy
          have hd1 : (0 : Int) < ((j + 1 : Nat) : Int) := by omega
          by_cases hyz : z ≤ y
          · have HF := Lib.hid (rises_flat (lo := 1) (hi := 1000) hk0 HZ.out (by simpa using HY.out) hyz)
            go_wp2_with (go_at_call 137; refine (isMember_yes _ _ hin).mono ?_; rintro e w' ⟨rfl, rfl⟩)
            go_ret
            exact ⟨ret_bool HF.out.symm, rfl⟩
          · have hyz' : y < z := by omega
            have hdf : decide (z ≤ y) = false := by simpa using hyz
            clear hyz
            go_wp2_with (go_at_call 137; refine (isMember_yes _ _ hin).mono ?_; rintro e w' ⟨rfl, rfl⟩)
            go_round
            case rel => exact ⟨j + 1 + 1, by omega, by go_num, HR.out.succ HZ.out hin.1 hin.2 (fun u _ hu => by rw [Nat.add_sub_cancel, HY.out] at hu; injection hu with hu; omega)⟩
            case measure => simp [intOf]; omega
        · have hd0 : decide ((0 : Int) < (k : Int)) = false := by simp; omega
          have hd0' : decide (0 < k) = false := by simp; omega
          have HK := Lib.hid hk0
          clear h hk0
          go_wp2_with (go_at_call 137; refine (isMember_yes _ _ hin).mono ?_; rintro e w' ⟨rfl, rfl⟩)
          go_round
          case rel => exact ⟨k + 1, by omega, by go_num, HR.out.succ HZ.out hin.1 hin.2 (fun u hu => absurd hu HK.out)⟩
          case measure => simp [intOf]; omega
      · have HF := Lib.hid (rises_out HZ.out hin)
        clear h
        go_wp2_with (go_at_call 137; refine (isMember_no _ _ hin).mono ?_; rintro e w' ⟨rfl, rfl⟩)
        go_ret
        exact ⟨ret_bool HF.out.symm, rfl⟩
    · have HE := Lib.hid (rises_full HR.out (by have := HL.out; omega))
      go_wp2
      go_ret
      exact ⟨ret_bool HE.out.symm, rfl⟩
end Go.Proofs.Yteeodjbionjlmaa
