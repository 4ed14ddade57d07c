import Derived.Test.YtgomffcdoglbfaaChecked
import Derived.WalkKit
import Derived.ProofKit
import Derived.OpenShut
import Derived.ShutString
import Derived.ChangeOld
import Derived.Below
import Derived.Lib.Hide
import Derived.Laws.StructEq
import Derived.RegionTactic
import Derived.BigRegion
import Derived.Test.YtgomffcdoglbfaaJt
import Derived.Test.YtgomffcdoglbfaaZListK
namespace Go.Proofs.Ytgomffcdoglbfaa
open Go.ChangeShapes Go.WideShapes Go.ChangeAt Go.RowKit
open Go.ChangeMaps (open_string shut_string)
set_option linter.unusedVariables false
set_option maxRecDepth 100000
theorem neqK (x y : Bn) (w : World) : (binOp .neq 74 (.agg #[.int .i64 x.id, .int .i64 x.til]) (.agg #[.int .i64 y.id, .int .i64 y.til])).run Try.prog w = .ok (.bool (!decide (x = y))) w := by
  have u2 := Try.underlying2
  have hS : Try.prog.underlying 74 = some (.struct (Try.prog.fieldsOf 74)) := by kernel_rfl
  have hp : Try.prog.stoodInHeld 74 = false := by kernel_rfl
  rw [run_neq_struct, show (10000 : Nat) = 9999 + 1 from rfl, run_equalIn_agg w 9999 74 _ _ hS hp]
  simp only [Program.fieldsOf, Try.underlying74]
  go_simp
  simp only [bn_eq]
  repeat' split
  all_goals simp_all
set_option maxHeartbeats 800000 in
theorem equalK_any (A A' : Option Addr) (n c m d B B' : Nat) (xs ys : List Bn) (w : World) (h : SRow 2 bnC w B A n xs) (h' : SRow 2 bnC w B' A' m ys) (hn : n ≤ 1048576) (hm : m ≤ 1048576) :
    Calls Try.prog 53 #[.slice A n c, .slice A' m d] w fun e w' => e = .returned (.bool (decide (xs = ys))) ∧ ∃ q, w' = w.drewN q := by
  have HL := Lib.hid h.1
  have HL' := Lib.hid h'.1
  have hgd : Try.prog.eqGuardType Try.prog.depth 74 = false := by kernel_rfl
  by_cases hnm : n = m
  · subst hnm
    go_enter Try.func53, Try.ntmps53
    go_wp2
    go_loopw [13] (fun i wr => ∃ k q : Nat, k ≤ n ∧ i = .int .i64 k ∧ Hid (wr = w.drewN q) ∧ Hid (xs.take k = ys.take k)) (fun i _ => n - (intOf i).toNat)
    case atStart => exact ⟨0, 0, by omega, rfl, Lib.hid rfl, Lib.hid rfl⟩
    case round =>
      obtain ⟨k, q, hk, rfl, HW, HT⟩ := hrel
      have r1 : SRow 2 bnC wr B A n xs := by rw [HW.out]; exact h
      have r2 : SRow 2 bnC wr B' A' n ys := by rw [HW.out]; exact h'
      by_cases hlt : k < n
      · obtain ⟨b, off, z, rfl, hb, hz, c0, c1⟩ := r1.atbn hlt
        obtain ⟨b', off', y, rfl, hb', hy, d0, d1⟩ := r2.atbn hlt
        have HZ := Lib.hid hz
        have HY := Lib.hid hy
        have hp : (0 : Int) ≤ (k : Int) := by omega
        have hp2 : (k : Int) < (n : Int) := by omega
        clear hz hy r1 r2 h h'
        by_cases hzy : z = y
        · subst hzy
          have HN := Lib.hid (same_step HT.out HZ.out HY.out)
          have hne := neqK z z
          simp only [decide_true, Bool.not_true] at hne
          go_wp2
          go_region
          all_goals (try go_wp2)
          exact ⟨⟨k + 1, q + 1, by omega, by go_num, Lib.hid (by rw [HW.out]; show (w.drewN q).drewN 1 = _; rw [World.drewN_drewN]), HN⟩, by simp [intOf]; omega⟩
        · have HN := Lib.hid (same_not HZ.out HY.out hzy)
          have hne := neqK z y
          simp only [hzy, decide_false, Bool.not_false] at hne
          clear hzy
          go_wp2
          go_region
          all_goals (try go_wp2)
          go_ret
          exact ⟨ret_bool (by simp [HN.out]), q + 1, by rw [HW.out]; show (w.drewN q).drewN 1 = _; rw [World.drewN_drewN]⟩
      · have HF := Lib.hid (same_full HT.out (by have := HL.out; omega) (by have := HL'.out; omega))
        go_wp2
        go_ret
        exact ⟨ret_bool (by rw [HF.out]; simp), q, HW.out⟩
  · have HF := Lib.hid (show ¬ xs = ys by rintro rfl; exact hnm (HL.out.symm.trans HL'.out))
    have hne : ((n : Int) == (m : Int)) = false := by simp; omega
    go_enter Try.func53, Try.ntmps53
    go_wp2
    go_ret
    exact ⟨ret_bool (by simp [HF.out]), 0, rfl⟩
end Go.Proofs.Ytgomffcdoglbfaa
