import Derived.Test.YtmnmmjobplbflaaGreatDoorChecked
import Derived.WalkKit
import Derived.ProofKit
import Derived.OpenShut
import Derived.ShutString
import Derived.ChangeOld
import Derived.Below
import Derived.Lib.Hide
import Derived.Laws.StructEq
import Derived.RegionTactic
import Derived.BigRegion
import Derived.Test.YtmnmmjobplbflaaGreatDoorJd
namespace Go.Proofs.YtmnmmjobplbflaaGreatDoor
open Go.ChangeShapes Go.WideShapes Go.ChangeAt Go.RowKit
open Go.ChangeMaps (open_string shut_string)
set_option linter.unusedVariables false
set_option maxRecDepth 100000
--M{
instance : DecidableEq Mb := fun a b => decidable_of_iff (a.id = b.id ∧ a.role = b.role ∧ a.since = b.since ∧ a.quiet = b.quiet) (by cases a; cases b; simp)
instance : DecidableEq Iv := fun a b => decidable_of_iff (a.id = b.id ∧ a.byy = b.byy ∧ a.til = b.til) (by cases a; cases b; simp)
instance : DecidableEq Bn := fun a b => decidable_of_iff (a.id = b.id ∧ a.til = b.til) (by cases a; cases b; simp)
theorem same_step {α : Type} {xs ys : List α} {k : Nat} {z : α} (h : xs.take k = ys.take k) (h1 : xs[k]? = some z) (h2 : ys[k]? = some z) : xs.take (k + 1) = ys.take (k + 1) := by
  rw [List.take_add_one, List.take_add_one, h, h1, h2]
theorem same_not {α : Type} {xs ys : List α} {k : Nat} {z y : α} (h1 : xs[k]? = some z) (h2 : ys[k]? = some y) (h : z ≠ y) : ¬ xs = ys := by
  rintro rfl
  rw [h1] at h2
  exact h (by injection h2)
theorem same_full {α : Type} {xs ys : List α} {k : Nat} (h : xs.take k = ys.take k) (h1 : xs.length ≤ k) (h2 : ys.length ≤ k) : xs = ys := by
  rwa [List.take_of_length_le h1, List.take_of_length_le h2] at h
theorem mb_eq (a b : Mb) : a = b ↔ (a.id = b.id ∧ a.role = b.role ∧ a.since = b.since ∧ a.quiet = b.quiet) := by cases a; cases b; simp
theorem iv_eq (a b : Iv) : a = b ↔ (a.id = b.id ∧ a.byy = b.byy ∧ a.til = b.til) := by cases a; cases b; simp
theorem bn_eq (a b : Bn) : a = b ↔ (a.id = b.id ∧ a.til = b.til) := by cases a; cases b; simp
--M}
theorem neqM (x y : Mb) (w : World) : (binOp .neq 66 (.agg #[.int .i64 x.id, .int .i64 x.role, .int .i64 x.since, .int .i64 x.quiet]) (.agg #[.int .i64 y.id, .int .i64 y.role, .int .i64 y.since, .int .i64 y.quiet])).run Tryz.prog w = .ok (.bool (!decide (x = y))) w := by
  have u2 := Tryz.underlying2
  have hS : Tryz.prog.underlying 66 = some (.struct (Tryz.prog.fieldsOf 66)) := by kernel_rfl
  have hp : Tryz.prog.stoodInHeld 66 = false := by kernel_rfl
  rw [run_neq_struct, show (10000 : Nat) = 9999 + 1 from rfl, run_equalIn_agg w 9999 66 _ _ hS hp]
  simp only [Program.fieldsOf, Tryz.underlying66]
  go_simp
  simp only [mb_eq]
  repeat' split
  all_goals simp_all
set_option maxHeartbeats 800000 in
theorem equalM_any (A A' : Option Addr) (n c m d B B' : Nat) (xs ys : List Mb) (w : World) (h : SRow 4 mbC w B A n xs) (h' : SRow 4 mbC w B' A' m ys) (hn : n ≤ 1048576) (hm : m ≤ 1048576) :
    Calls Tryz.prog 47 #[.slice A n c, .slice A' m d] w fun e w' => e = .returned (.bool (decide (xs = ys))) ∧ ∃ q, w' = w.drewN q := by
  have HL := Lib.hid h.1
  have HL' := Lib.hid h'.1
  have hgd : Tryz.prog.eqGuardType Tryz.prog.depth 66 = false := by kernel_rfl
  by_cases hnm : n = m
  · subst hnm
    go_enter Tryz.func47, Tryz.ntmps47
    go_wp2
    go_loopw [13] (fun i wr => ∃ k q : Nat, k ≤ n ∧ i = .int .i64 k ∧ Hid (wr = w.drewN q) ∧ Hid (xs.take k = ys.take k)) (fun i _ => n - (intOf i).toNat)
    case atStart => exact ⟨0, 0, by omega, rfl, Lib.hid rfl, Lib.hid rfl⟩
    case round =>
      obtain ⟨k, q, hk, rfl, HW, HT⟩ := hrel
      have r1 : SRow 4 mbC wr B A n xs := by rw [HW.out]; exact h
      have r2 : SRow 4 mbC wr B' A' n ys := by rw [HW.out]; exact h'
      by_cases hlt : k < n
      · obtain ⟨b, off, z, rfl, hb, hz, c0, c1, c2, c3⟩ := r1.atm hlt
        obtain ⟨b', off', y, rfl, hb', hy, d0, d1, d2, d3⟩ := r2.atm hlt
        have HZ := Lib.hid hz
        have HY := Lib.hid hy
        have hp : (0 : Int) ≤ (k : Int) := by omega
        have hp2 : (k : Int) < (n : Int) := by omega
        clear hz hy r1 r2 h h'
        by_cases hzy : z = y
        · subst hzy
          have HN := Lib.hid (same_step HT.out HZ.out HY.out)
          have hne := neqM z z
          simp only [decide_true, Bool.not_true] at hne
          go_wp2
          go_region
          all_goals (try go_wp2)
          exact ⟨⟨k + 1, q + 1, by omega, by go_num, Lib.hid (by rw [HW.out]; show (w.drewN q).drewN 1 = _; rw [World.drewN_drewN]), HN⟩, by simp [intOf]; omega⟩
        · have HN := Lib.hid (same_not HZ.out HY.out hzy)
          have hne := neqM z y
          simp only [hzy, decide_false, Bool.not_false] at hne
          clear hzy
          go_wp2
          go_region
          all_goals (try go_wp2)
          go_ret
          exact ⟨ret_bool (by simp [HN.out]), q + 1, by rw [HW.out]; show (w.drewN q).drewN 1 = _; rw [World.drewN_drewN]⟩
      · have HF := Lib.hid (same_full HT.out (by have := HL.out; omega) (by have := HL'.out; omega))
        go_wp2
        go_ret
        exact ⟨ret_bool (by rw [HF.out]; simp), q, HW.out⟩
  · have HF := Lib.hid (show ¬ xs = ys by rintro rfl; exact hnm (HL.out.symm.trans HL'.out))
    have hne : ((n : Int) == (m : Int)) = false := by simp; omega
    go_enter Tryz.func47, Tryz.ntmps47
    go_wp2
    go_ret
    exact ⟨ret_bool (by simp [HF.out]), 0, rfl⟩
end Go.Proofs.YtmnmmjobplbflaaGreatDoor
namespace Go.Proofs.YtmnmmjobplbflaaGreatDoor
open Go.ChangeShapes Go.WideShapes Go.ChangeAt Go.RowKit
open Go.ChangeMaps (open_string shut_string)
set_option linter.unusedVariables false
set_option maxRecDepth 100000
theorem neqI (x y : Iv) (w : World) : (binOp .neq 36 (.agg #[.int .i64 x.id, .int .i64 x.byy, .int .i64 x.til]) (.agg #[.int .i64 y.id, .int .i64 y.byy, .int .i64 y.til])).run Tryz.prog w = .ok (.bool (!decide (x = y))) w := by
  have u2 := Tryz.underlying2
  have hS : Tryz.prog.underlying 36 = some (.struct (Tryz.prog.fieldsOf 36)) := by kernel_rfl
  have hp : Tryz.prog.stoodInHeld 36 = false := by kernel_rfl
  rw [run_neq_struct, show (10000 : Nat) = 9999 + 1 from rfl, run_equalIn_agg w 9999 36 _ _ hS hp]
  simp only [Program.fieldsOf, Tryz.underlying36]
  go_simp
  simp only [iv_eq]
  repeat' split
  all_goals simp_all
set_option maxHeartbeats 800000 in
theorem equalI_any (A A' : Option Addr) (n c m d B B' : Nat) (xs ys : List Iv) (w : World) (h : SRow 3 ivC w B A n xs) (h' : SRow 3 ivC w B' A' m ys) (hn : n ≤ 1048576) (hm : m ≤ 1048576) :
    Calls Tryz.prog 48 #[.slice A n c, .slice A' m d] w fun e w' => e = .returned (.bool (decide (xs = ys))) ∧ ∃ q, w' = w.drewN q := by
  have HL := Lib.hid h.1
  have HL' := Lib.hid h'.1
  have hgd : Tryz.prog.eqGuardType Tryz.prog.depth 36 = false := by kernel_rfl
  by_cases hnm : n = m
  · subst hnm
    go_enter Tryz.func48, Tryz.ntmps48
    go_wp2
    go_loopw [13] (fun i wr => ∃ k q : Nat, k ≤ n ∧ i = .int .i64 k ∧ Hid (wr = w.drewN q) ∧ Hid (xs.take k = ys.take k)) (fun i _ => n - (intOf i).toNat)
    case atStart => exact ⟨0, 0, by omega, rfl, Lib.hid rfl, Lib.hid rfl⟩
    case round =>
      obtain ⟨k, q, hk, rfl, HW, HT⟩ := hrel
      have r1 : SRow 3 ivC wr B A n xs := by rw [HW.out]; exact h
      have r2 : SRow 3 ivC wr B' A' n ys := by rw [HW.out]; exact h'
      by_cases hlt : k < n
      · obtain ⟨b, off, z, rfl, hb, hz, c0, c1, c2⟩ := r1.ativ hlt
        obtain ⟨b', off', y, rfl, hb', hy, d0, d1, d2⟩ := r2.ativ hlt
        have HZ := Lib.hid hz
        have HY := Lib.hid hy
        have hp : (0 : Int) ≤ (k : Int) := by omega
        have hp2 : (k : Int) < (n : Int) := by omega
        clear hz hy r1 r2 h h'
        by_cases hzy : z = y
        · subst hzy
          have HN := Lib.hid (same_step HT.out HZ.out HY.out)
          have hne := neqI z z
          simp only [decide_true, Bool.not_true] at hne
          go_wp2
          go_region
          all_goals (try go_wp2)
          exact ⟨⟨k + 1, q + 1, by omega, by go_num, Lib.hid (by rw [HW.out]; show (w.drewN q).drewN 1 = _; rw [World.drewN_drewN]), HN⟩, by simp [intOf]; omega⟩
        · have HN := Lib.hid (same_not HZ.out HY.out hzy)
          have hne := neqI z y
          simp only [hzy, decide_false, Bool.not_false] at hne
          clear hzy
          go_wp2
          go_region
          all_goals (try go_wp2)
          go_ret
          exact ⟨ret_bool (by simp [HN.out]), q + 1, by rw [HW.out]; show (w.drewN q).drewN 1 = _; rw [World.drewN_drewN]⟩
      · have HF := Lib.hid (same_full HT.out (by have := HL.out; omega) (by have := HL'.out; omega))
        go_wp2
        go_ret
        exact ⟨ret_bool (by rw [HF.out]; simp), q, HW.out⟩
  · have HF := Lib.hid (show ¬ xs = ys by rintro rfl; exact hnm (HL.out.symm.trans HL'.out))
    have hne : ((n : Int) == (m : Int)) = false := by simp; omega
    go_enter Tryz.func48, Tryz.ntmps48
    go_wp2
    go_ret
    exact ⟨ret_bool (by simp [HF.out]), 0, rfl⟩
end Go.Proofs.YtmnmmjobplbflaaGreatDoor
namespace Go.Proofs.YtmnmmjobplbflaaGreatDoor
open Go.ChangeShapes Go.WideShapes Go.ChangeAt Go.RowKit
open Go.ChangeMaps (open_string shut_string)
set_option linter.unusedVariables false
set_option maxRecDepth 100000
theorem neqB (x y : Bn) (w : World) : (binOp .neq 38 (.agg #[.int .i64 x.id, .int .i64 x.til]) (.agg #[.int .i64 y.id, .int .i64 y.til])).run Tryz.prog w = .ok (.bool (!decide (x = y))) w := by
  have u2 := Tryz.underlying2
  have hS : Tryz.prog.underlying 38 = some (.struct (Tryz.prog.fieldsOf 38)) := by kernel_rfl
  have hp : Tryz.prog.stoodInHeld 38 = false := by kernel_rfl
  rw [run_neq_struct, show (10000 : Nat) = 9999 + 1 from rfl, run_equalIn_agg w 9999 38 _ _ hS hp]
  simp only [Program.fieldsOf, Tryz.underlying38]
  go_simp
  simp only [bn_eq]
  repeat' split
  all_goals simp_all
set_option maxHeartbeats 800000 in
theorem equalB_any (A A' : Option Addr) (n c m d B B' : Nat) (xs ys : List Bn) (w : World) (h : SRow 2 bnC w B A n xs) (h' : SRow 2 bnC w B' A' m ys) (hn : n ≤ 1048576) (hm : m ≤ 1048576) :
    Calls Tryz.prog 49 #[.slice A n c, .slice A' m d] w fun e w' => e = .returned (.bool (decide (xs = ys))) ∧ ∃ q, w' = w.drewN q := by
  have HL := Lib.hid h.1
  have HL' := Lib.hid h'.1
  have hgd : Tryz.prog.eqGuardType Tryz.prog.depth 38 = false := by kernel_rfl
  by_cases hnm : n = m
  · subst hnm
    go_enter Tryz.func49, Tryz.ntmps49
    go_wp2
    go_loopw [13] (fun i wr => ∃ k q : Nat, k ≤ n ∧ i = .int .i64 k ∧ Hid (wr = w.drewN q) ∧ Hid (xs.take k = ys.take k)) (fun i _ => n - (intOf i).toNat)
    case atStart => exact ⟨0, 0, by omega, rfl, Lib.hid rfl, Lib.hid rfl⟩
    case round =>
      obtain ⟨k, q, hk, rfl, HW, HT⟩ := hrel
      have r1 : SRow 2 bnC wr B A n xs := by rw [HW.out]; exact h
      have r2 : SRow 2 bnC wr B' A' n ys := by rw [HW.out]; exact h'
      by_cases hlt : k < n
      · obtain ⟨b, off, z, rfl, hb, hz, c0, c1⟩ := r1.atbn hlt
        obtain ⟨b', off', y, rfl, hb', hy, d0, d1⟩ := r2.atbn hlt
        have HZ := Lib.hid hz
        have HY := Lib.hid hy
        have hp : (0 : Int) ≤ (k : Int) := by omega
        have hp2 : (k : Int) < (n : Int) := by omega
        clear hz hy r1 r2 h h'
        by_cases hzy : z = y
        · subst hzy
          have HN := Lib.hid (same_step HT.out HZ.out HY.out)
          have hne := neqB z z
          simp only [decide_true, Bool.not_true] at hne
          go_wp2
          go_region
          all_goals (try go_wp2)
          exact ⟨⟨k + 1, q + 1, by omega, by go_num, Lib.hid (by rw [HW.out]; show (w.drewN q).drewN 1 = _; rw [World.drewN_drewN]), HN⟩, by simp [intOf]; omega⟩
        · have HN := Lib.hid (same_not HZ.out HY.out hzy)
          have hne := neqB z y
          simp only [hzy, decide_false, Bool.not_false] at hne
          clear hzy
          go_wp2
          go_region
          all_goals (try go_wp2)
          go_ret
          exact ⟨ret_bool (by simp [HN.out]), q + 1, by rw [HW.out]; show (w.drewN q).drewN 1 = _; rw [World.drewN_drewN]⟩
      · have HF := Lib.hid (same_full HT.out (by have := HL.out; omega) (by have := HL'.out; omega))
        go_wp2
        go_ret
        exact ⟨ret_bool (by rw [HF.out]; simp), q, HW.out⟩
  · have HF := Lib.hid (show ¬ xs = ys by rintro rfl; exact hnm (HL.out.symm.trans HL'.out))
    have hne : ((n : Int) == (m : Int)) = false := by simp; omega
    go_enter Tryz.func49, Tryz.ntmps49
    go_wp2
    go_ret
    exact ⟨ret_bool (by simp [HF.out]), 0, rfl⟩
end Go.Proofs.YtmnmmjobplbflaaGreatDoor
