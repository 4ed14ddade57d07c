import Derived.Test.YteeodjbionjlmaaChecked
import Derived.WalkKit
import Derived.ProofKit
import Derived.OpenShut
import Derived.ShutString
import Derived.ChangeOld
import Derived.Below
import Derived.Lib.Hide
import Derived.Deep.QuietTactic
import Derived.BigQuiet
import Derived.Test.YteeodjbionjlmaaRows3
import Derived.Test.YteeodjbionjlmaaRoomE
namespace Go.Proofs.Yteeodjbionjlmaa
open Go.ChangeShapes Go.WideShapes Go.ChangeAt Go.RowKit
open Go.ChangeMaps (open_string shut_string)
set_option linter.unusedVariables false
set_option maxRecDepth 100000
theorem drewN_exE {w wr : World} {q a : Nat} (h : wr = w.drewN q) : ∃ q', wr.drewN a = w.drewN q' := ⟨q + a, by rw [h, World.drewN_drewN]⟩
theorem toList_injM {a b : ByteArray} (h : a.toList = b.toList) : a = b := by
  rw [ByteArray.toList_eq, ByteArray.toList_eq] at h
  have ext : ∀ a b : ByteArray, a.data = b.data → a = b := fun a b h => by cases a; cases b; simp_all
  exact ext a b (Array.ext' h)
theorem sameL_step {α : Type} {xs ys : List α} {k : Nat} {z : α} (h : xs.take k = ys.take k) (h1 : xs[k]? = some z) (h2 : ys[k]? = some z) : xs.take (k + 1) = ys.take (k + 1) := by
  rw [List.take_add_one, List.take_add_one, h, h1, h2]
theorem sameL_not {α : Type} {xs ys : List α} {k : Nat} {z y : α} (h1 : xs[k]? = some z) (h2 : ys[k]? = some y) (h : z ≠ y) : ¬ xs = ys := by
  rintro rfl
  rw [h1] at h2
  exact h (by injection h2)
theorem sameL_full {α : Type} {xs ys : List α} {k : Nat} (h : xs.take k = ys.take k) (h1 : xs.length ≤ k) (h2 : ys.length ≤ k) : xs = ys := by
  rwa [List.take_of_length_le h1, List.take_of_length_le h2] at h
set_option maxHeartbeats 1600000 in
theorem slEqual_b (A A' : Option Addr) (n c m d B B' : Nat) (xs ys : List Int) (v : Bool) (w : World) (h : Row i64v w B A n xs) (h' : Row i64v w B' A' m ys) (hn : n ≤ 1048576) (hm : m ≤ 1048576) (hv : decide (xs = ys) = v) :
    Calls Try.prog 97 #[.slice A n c, .slice A' m d] w fun e w' => e = .returned (.bool v) ∧ ∃ q, w' = w.drewN q := by
  have HL := Lib.hid h.1
  have HL' := Lib.hid h'.1
  have HV := Lib.hid hv
  clear hv
  by_cases hnm : n = m
  · subst hnm
    go_enter Try.func97, Try.ntmps97
    go_wp2
    go_loopw [13] (fun i wr => ∃ k : Nat, k ≤ n ∧ i = .int .i64 k ∧ Hid (∃ q, wr = w.drewN q) ∧ Hid (xs.take k = ys.take k)) (fun i _ => n - (intOf i).toNat)
    case atStart => exact ⟨0, by omega, rfl, Lib.hid ⟨0, rfl⟩, Lib.hid rfl⟩
    case round =>
      obtain ⟨k, hk, rfl, HW, HT⟩ := hrel
      have r1 : Row i64v wr B A n xs := by obtain ⟨q, hq⟩ := HW.out; rw [hq]; exact h
      have r2 : Row i64v wr B' A' n ys := by obtain ⟨q, hq⟩ := HW.out; rw [hq]; exact h'
      by_cases hlt : k < n
      · have hlt' : decide ((k : Int) < (n : Int)) = true := decide_eq_true (by omega)
        obtain ⟨b, off, z, rfl, hb, hz, c0⟩ := r1.ati hlt
        obtain ⟨b', off', y, rfl, hb', hy, d0⟩ := r2.ati hlt
        have HZ := Lib.hid hz
        have HY := Lib.hid hy
        have hp : (0 : Int) ≤ (k : Int) := by omega
        have hp2 : (k : Int) < (n : Int) := by omega
        clear hz hy r1 r2 h h'
        cases hzy : (z == y) with
        | true =>
          have HN := Lib.hid (sameL_step HT.out HZ.out (by rw [eq_of_beq hzy]; exact HY.out))
          go_wp2
          go_quiet (fail)
          go_wp2
          go_roundw
          case rel => exact ⟨k + 1, by omega, by go_num, Lib.hid (by obtain ⟨q, hq⟩ := HW.out; exact drewN_exE hq), HN⟩
          case measure => simp [intOf]; omega
        | false =>
          have HN := Lib.hid (sameL_not HZ.out HY.out (by intro e; rw [e] at hzy; simp at hzy))
          go_wp2
          go_quiet (fail)
          go_wp2
          go_ret
          exact ⟨ret_bool (by rw [← HV.out]; simp [HN.out]), by obtain ⟨q, hq⟩ := HW.out; exact drewN_exE hq⟩
      · have hlt' : decide ((k : Int) < (n : Int)) = false := decide_eq_false (by omega)
        have HF := Lib.hid (sameL_full HT.out (by have := HL.out; omega) (by have := HL'.out; omega))
        go_wp2
        go_ret
        exact ⟨ret_bool (by rw [← HV.out]; simp [HF.out]), HW.out⟩
  · have HF := Lib.hid (show ¬ xs = ys by rintro rfl; exact hnm (HL.out.symm.trans HL'.out))
    have hne : ((n : Int) == (m : Int)) = false := by simp; omega
    go_enter Try.func97, Try.ntmps97
    go_wp2
    go_ret
    exact ⟨ret_bool (by rw [← HV.out]; simp [HF.out]), 0, rfl⟩
set_option maxHeartbeats 1600000 in
theorem l00Same_b (A A' : Option Addr) (n c m d B B' : Nat) (xs ys : List Int) (v : Bool) (w : World) (h : Row i64v w B A n xs) (h' : Row i64v w B' A' m ys) (hn : n ≤ 1048576) (hm : m ≤ 1048576) (hv : decide (xs = ys) = v) :
    Calls Try.prog 94 #[.slice A n c, .slice A' m d] w fun e w' => e = .returned (.bool v) ∧ ∃ q, w' = w.drewN q := by
  have HL := Lib.hid h.1
  have HL' := Lib.hid h'.1
  have HV := Lib.hid hv
  clear hv
  by_cases hnm : n = m
  · subst hnm
    go_enter Try.func94, Try.ntmps94
    go_wp2
    go_loopw [5] (fun i wr => ∃ k : Nat, k ≤ n ∧ i = .int .i64 k ∧ Hid (∃ q, wr = w.drewN q) ∧ Hid (xs.take k = ys.take k)) (fun i _ => n - (intOf i).toNat)
    case atStart => exact ⟨0, by omega, rfl, Lib.hid ⟨0, rfl⟩, Lib.hid rfl⟩
    case round =>
      obtain ⟨k, hk, rfl, HW, HT⟩ := hrel
      have r1 : Row i64v wr B A n xs := by obtain ⟨q, hq⟩ := HW.out; rw [hq]; exact h
      have r2 : Row i64v wr B' A' n ys := by obtain ⟨q, hq⟩ := HW.out; rw [hq]; exact h'
      by_cases hlt : k < n
      · have hlt' : decide ((k : Int) < (n : Int)) = true := decide_eq_true (by omega)
        obtain ⟨b, off, z, rfl, hb, hz, c0⟩ := r1.ati hlt
        obtain ⟨b', off', y, rfl, hb', hy, d0⟩ := r2.ati hlt
        have HZ := Lib.hid hz
        have HY := Lib.hid hy
        have hp : (0 : Int) ≤ (k : Int) := by omega
        have hp2 : (k : Int) < (n : Int) := by omega
        clear hz hy r1 r2 h h'
        cases hzy : (z == y) with
        | true =>
          have HN := Lib.hid (sameL_step HT.out HZ.out (by rw [eq_of_beq hzy]; exact HY.out))
          go_wp2
          go_quiet (fail)
          go_wp2
          go_roundw
          case rel => exact ⟨k + 1, by omega, by go_num, Lib.hid (by obtain ⟨q, hq⟩ := HW.out; exact drewN_exE hq), HN⟩
          case measure => simp [intOf]; omega
        | false =>
          have HN := Lib.hid (sameL_not HZ.out HY.out (by intro e; rw [e] at hzy; simp at hzy))
          go_wp2
          go_quiet (fail)
          go_wp2
          go_ret
          exact ⟨ret_bool (by rw [← HV.out]; simp [HN.out]), by obtain ⟨q, hq⟩ := HW.out; exact drewN_exE hq⟩
      · have hlt' : decide ((k : Int) < (n : Int)) = false := decide_eq_false (by omega)
        have HF := Lib.hid (sameL_full HT.out (by have := HL.out; omega) (by have := HL'.out; omega))
        go_wp2
        go_ret
        exact ⟨ret_bool (by rw [← HV.out]; simp [HF.out]), HW.out⟩
  · have HF := Lib.hid (show ¬ xs = ys by rintro rfl; exact hnm (HL.out.symm.trans HL'.out))
    have hne : ((n : Int) == (m : Int)) = false := by simp; omega
    go_enter Try.func94, Try.ntmps94
    go_wp2
    go_ret
    exact ⟨ret_bool (by rw [← HV.out]; simp [HF.out]), 0, rfl⟩
end Go.Proofs.Yteeodjbionjlmaa
