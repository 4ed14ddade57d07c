import Derived.Test.YtgomffcdoglbfaaChecked
import Derived.WalkKit
import Derived.ProofKit
import Derived.OpenShut
import Derived.ShutString
import Derived.ChangeOld
import Derived.Below
import Derived.Lib.Hide
import Derived.Maps.OwnSet
import Derived.Maps.OwnOps
import Derived.Test.YtgomffcdoglbfaaZPresS
import Derived.Test.YtgomffcdoglbfaaZPresQ
import Derived.Test.YtgomffcdoglbfaaZBookK
import Derived.Test.YtgomffcdoglbfaaZLookT
namespace Go.Proofs.Ytgomffcdoglbfaa
open Go.ChangeShapes Go.WideShapes Go.ChangeAt Go.RowKit
open Go.ChangeMaps (open_string shut_string)
set_option linter.unusedVariables false
open Go.Maps
set_option maxRecDepth 100000
theorem fieldK (x y : Int) (w : World) : (Instr.field 74 (.agg #[.int .i64 x, .int .i64 y]) 1).run Try.prog w = .ok (.int .i64 y) w := by kernel_rfl
theorem zeroK (w : World) : (zeroValue 74).run Try.prog w = .ok (.agg #[.int .i64 0, .int .i64 0]) w := by kernel_rfl
set_option maxHeartbeats 800000 in
theorem l05Mark_any (G : Nat) (A1 A2 A3 : Option Addr) (n1 c1 n2 c2 n3 c3 : Nat) (hs ts ks : List Bn) (t : Int) (w : World) (hp : Blk w G 31 #[.slice A1 n1 c1, .slice A2 n2 c2, .slice A3 n3 c3]) (h : PresAt w w.heap.size A1 n1 A2 n2 A3 n3 hs ts ks) (hn : n1 + n2 + n3 ≤ 1048576) :
    Calls Try.prog 55 #[.pointer (some ⟨G, 0, none⟩), .int .i64 t] w fun e w' => e = .returned (.int .i64 (numOf ks t 0)) ∧ w = w' := by
  have HL := Lib.hid h.2.2.1
  have q2 := hp.cell 2
  have hr := h.2.2
  clear h hp
  go_enter Try.func55, Try.ntmps55
  go_wp2
  go_loop [11] (fun i => ∃ k : Nat, k ≤ n3 ∧ i = .int .i64 k ∧ Hid (NoIn t ks k)) (fun i => n3 - (intOf i).toNat)
  case atStart => exact ⟨0, by omega, rfl, Lib.hid (NoIn.zero t ks)⟩
  case round =>
    obtain ⟨k, hk, rfl, HN⟩ := hrel
    by_cases hlt : k < n3
    · obtain ⟨b, off, z, rfl, _, hz, c0, c1⟩ := hr.atbn hlt
      have HZ := Lib.hid hz
      clear hz hr
      by_cases he : z.id = t
      · have he' : (z.id == t) = true := by simp [he]
        have HE := Lib.hid he
        clear he
        go_wp2
        go_ret
        exact ⟨ret_int (numOf_at HN.out HZ.out HE.out).symm, rfl⟩
      · have he' : (z.id == t) = false := by simp [he]
        have HN' := Lib.hid (HN.out.succ HZ.out he)
        clear he
        go_wp2
        go_round
        case rel => exact ⟨k + 1, by omega, by go_num, HN'⟩
        case measure => simp [intOf]; omega
    · have HF := Lib.hid (numOf_none (d := 0) HN.out (by have := HL.out; omega))
      go_wp2
      go_ret
      exact ⟨ret_int HF.out.symm, rfl⟩
set_option maxHeartbeats 6400000 in
theorem spec_MarkOf_any (A1 A2 A3 : Option Addr) (n1 c1 n2 c2 n3 c3 : Nat) (hs ts ks : List Bn) (t : Int) (w : World) (h : PresAt w w.heap.size A1 n1 A2 n2 A3 n3 hs ts ks) (hn : n1 + n2 + n3 ≤ 1048576) :
    Calls Try.prog 19 #[.agg #[.slice A1 n1 c1, .slice A2 n2 c2, .slice A3 n3 c3], .int .i64 t] w fun e w' => e = .returned (.tuple #[.int .i64 (markZ (presB hs ts ks && idB t) ks t), .bool (presB hs ts ks && idB t)]) ∧ Below w.heap.size w w' := by
  have HL := Lib.hid h.2.2.1
  go_enter Try.func19, Try.ntmps19
  go_wp2_with fail
  obtain ⟨k0, hb0⟩ := one_box w 31 #[.slice A1 n1 c1, .slice A2 n2 c2, .slice A3 n3 c3]
  generalize w.alloc (.cells #[.slice A1 n1 c1, .slice A2 n2 c2, .slice A3 n3 c3] 31) = W at *
  have h := h.to hb0
  cases tb : presB hs ts ks with
  | false =>
    go_at_call 44; refine (l05Is_b _ _ _ _ _ _ _ _ _ _ _ _ _ _ _ k0 h hn tb).mono ?_; rintro e w1 ⟨rfl, hb1⟩
    go_wp2
    all_goals exact bodyPost_ret (v := .tuple #[.int .i64 0, .bool false]) (by simp [results, Try.results19, go_sem]) rfl ⟨by simp [markZ, tb], hb0.trans (hb1.mono hb0.size)⟩
  | true =>
    go_at_call 44; refine (l05Is_b _ _ _ _ _ _ _ _ _ _ _ _ _ _ _ k0 h hn tb).mono ?_; rintro e w1 ⟨rfl, hb1⟩
    have h := h.to hb1
    have k0 := k0.below hb1 k0.lt
    have hb0 := hb0.trans (hb1.mono hb0.size)
    clear hb1
    have l2 := k0.cell 2
    have klt := k0.lt
    cases tm : idB t with
    | false =>
      go_wp2_with (go_at_call 54; refine (l01Mem_b _ _ _ tm).mono ?_; rintro e w' ⟨rfl, rfl⟩)
      all_goals exact bodyPost_ret (v := .tuple #[.int .i64 0, .bool false]) (by simp [results, Try.results19, go_sem]) rfl ⟨by simp [markZ, tb, tm], hb0⟩
    | true =>
      go_wp2_with (first | (go_at_call 54; refine (l01Mem_b _ _ _ tm).mono ?_; rintro e w' ⟨rfl, rfl⟩) | (go_at_call 55; refine (l05Mark_any _ _ _ _ _ _ _ _ _ _ _ _ _ _ _ k0 h hn).mono ?_; rintro e w' ⟨rfl, rfl⟩))
      all_goals exact bodyPost_ret (v := .tuple #[.int .i64 (numOf ks t 0), .bool true]) (by simp [results, Try.results19, go_sem]) rfl ⟨by simp [markZ, tb, tm], hb0⟩
set_option maxHeartbeats 6400000 in
theorem impl_MarkOf_any (A1 A2 A3 : Option Addr) (n1 c1 n2 c2 n3 c3 : Nat) (hs ts ks : List Bn) (t : Int) (w : World) (h : PresAt w w.heap.size A1 n1 A2 n2 A3 n3 hs ts ks) (hn : n1 + n2 + n3 ≤ 1048576) (wft : (Lit.int .i64 t).wf = true) :
    Calls Try.prog 20 #[.agg #[.slice A1 n1 c1, .slice A2 n2 c2, .slice A3 n3 c3], .int .i64 t] w fun e w' => e = .returned (.tuple #[.int .i64 (markZ (presB hs ts ks && idB t) ks t), .bool (presB hs ts ks && idB t)]) ∧ Below w.heap.size w w' := by
  have HL := Lib.hid h.2.2.1
  go_enter Try.func20, Try.ntmps20
  go_wp2_with fail
  obtain ⟨k0, hb0⟩ := one_box w 31 #[.slice A1 n1 c1, .slice A2 n2 c2, .slice A3 n3 c3]
  generalize w.alloc (.cells #[.slice A1 n1 c1, .slice A2 n2 c2, .slice A3 n3 c3] 31) = W at *
  have h := h.to hb0
  cases tb : presB hs ts ks with
  | false =>
    go_at_call 15; refine (impl_ValidPresence_any _ _ _ _ _ _ _ _ _ _ _ _ _ h hn).mono ?_; rw [tb]; rintro e w1 ⟨rfl, hb1⟩
    go_wp2
    all_goals exact bodyPost_ret (v := .tuple #[.int .i64 0, .bool false]) (by simp [results, Try.results20, go_sem]) rfl ⟨by simp [markZ, tb], hb0.trans (hb1.mono hb0.size)⟩
  | true =>
    go_at_call 15; refine (impl_ValidPresence_any _ _ _ _ _ _ _ _ _ _ _ _ _ h hn).mono ?_; rw [tb]; rintro e w1 ⟨rfl, hb1⟩
    have h := h.to hb1
    have k0 := k0.below hb1 k0.lt
    have hb0 := hb0.trans (hb1.mono hb0.size)
    clear hb1
    have l2 := k0.cell 2
    have klt := k0.lt
    cases tm : idB t with
    | false =>
      go_wp2_with (go_at_call 56; refine (isMember_b _ _ _ tm).mono ?_; rintro e w' ⟨rfl, rfl⟩)
      all_goals exact bodyPost_ret (v := .tuple #[.int .i64 0, .bool false]) (by simp [results, Try.results20, go_sem]) rfl ⟨by simp [markZ, tb, tm], hb0⟩
    | true =>
      have HV := Lib.hid (roll_rise (presB_iff.1 tb).2.2)
      have HB := Lib.hid (And.intro tb tm)
      go_wp2_with (go_at_call 56; refine (isMember_b _ _ _ tm).mono ?_; rintro e w' ⟨rfl, rfl⟩)
      clear tb tm
      go_at_call 57; refine (byIdK_any _ _ _ _ _ h.2.2 (by omega) (rise_map.1 (memB_pair HV.out.2.2)) (fun x hx => memB_id HV.out.2.2 (List.mem_map_of_mem hx))).mono ?_; rintro e w2 ⟨rfl, hM, hb2⟩
      have hl := look_tabT kInt Try.underlying79 Try.underlying2 (zeroK _) hM t wft
      have hb0 := hb0.trans (hb2.mono hb0.size)
      have HB0 := Lib.hid hb0
      clear hM hb2 hb0 l2 klt h k0
      cases hf : findB ks t with
      | some z =>
        have hr := (hl.1 z hf).2
        have hfd := fieldK z.id z.til
        simp only [bnV] at hr
        have HF := Lib.hid (show numOf ks t 0 = z.til by unfold numOf; rw [hf])
        clear hl hf
        go_wp2
        all_goals exact bodyPost_ret (v := .tuple #[.int .i64 z.til, .bool true]) (by simp [results, Try.results20, go_sem]) rfl ⟨by rw [HB.out.1, HB.out.2]; simp [markZ, HF.out], HB0.out⟩
      | none =>
        have hr := (hl.2 hf).2
        have hfd := fieldK 0 0
        have HF := Lib.hid (show numOf ks t 0 = 0 by unfold numOf; rw [hf])
        clear hl hf
        go_wp2
        all_goals exact bodyPost_ret (v := .tuple #[.int .i64 0, .bool true]) (by simp [results, Try.results20, go_sem]) rfl ⟨by rw [HB.out.1, HB.out.2]; simp [markZ, HF.out], HB0.out⟩
end Go.Proofs.Ytgomffcdoglbfaa
