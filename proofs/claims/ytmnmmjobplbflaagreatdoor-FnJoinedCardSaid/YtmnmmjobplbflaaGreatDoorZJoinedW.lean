import Derived.Test.YtmnmmjobplbflaaGreatDoorChecked
import Derived.WalkKit
import Derived.ProofKit
import Derived.OpenShut
import Derived.ShutString
import Derived.ChangeOld
import Derived.Below
import Derived.Lib.Hide
import Derived.Laws.StructEq
import Derived.RegionTactic
import Derived.BigRegion
import Derived.Test.YtmnmmjobplbflaaGreatDoorZDrawAll
import Derived.Test.YtmnmmjobplbflaaGreatDoorZAllowC
import Derived.Test.YtmnmmjobplbflaaGreatDoorZRoomA
import Derived.Test.YtmnmmjobplbflaaGreatDoorZDeedJ
import Derived.Test.YtmnmmjobplbflaaGreatDoorZDeedV
import Derived.Test.YtmnmmjobplbflaaGreatDoorZSameM
import Derived.Test.YtmnmmjobplbflaaGreatDoorZJoinedP
namespace Go.Proofs.YtmnmmjobplbflaaGreatDoor
open Go.ChangeShapes Go.WideShapes Go.ChangeAt Go.RowKit
open Go.ChangeMaps (open_string shut_string)
set_option linter.unusedVariables false
set_option maxRecDepth 100000
set_option maxHeartbeats 1600000 in
theorem r8Members_same (A A' : Option Addr) (n c n' c' : Nat) (xs : List Mb) (w : World) (h : SRow 4 mbC w w.heap.size A n xs) (h' : SRow 4 mbC w w.heap.size A' n' xs) (hn : n ≤ 1048576) :
    Calls Tryz.prog 13 #[.slice A n c, .slice A' n' c'] w fun e w' => e = .returned (.bool true) ∧ Below w.heap.size w w' := by
  obtain rfl : n' = n := by rw [← h.1, ← h'.1]
  have HL := Lib.hid h.1
  have hgd : Tryz.prog.eqGuardType Tryz.prog.depth 66 = false := by kernel_rfl
  have hnn : ((n' : Int) != (n' : Int)) = false := by simp
  go_enter Tryz.func13, Tryz.ntmps13
  go_wp2
  go_loopw [5] (fun i wr => ∃ k q : Nat, k ≤ n' ∧ i = .int .i64 k ∧ Hid (wr = w.drewN q)) (fun i _ => n' - (intOf i).toNat)
  case atStart => exact ⟨0, 0, by omega, rfl, Lib.hid rfl⟩
  case round =>
    obtain ⟨k, q, hk, rfl, HW⟩ := hrel
    have r1 : SRow 4 mbC wr w.heap.size A n' xs := by rw [HW.out]; exact h
    have r2 : SRow 4 mbC wr w.heap.size A' n' xs := by rw [HW.out]; exact h'
    by_cases hlt : k < n'
    · obtain ⟨b, off, z, rfl, hb, hz, c0, c1, c2, c3⟩ := r1.atm hlt
      obtain ⟨b', off', y, rfl, hb', hy, d0, d1, d2, d3⟩ := r2.atm hlt
      rw [hz] at hy
      injection hy with hy
      subst hy
      have hp : (0 : Int) ≤ (k : Int) := by omega
      have hp2 : (k : Int) < (n' : Int) := by omega
      clear hz r1 r2 h h'
      have hne := neqM z z
      simp only [decide_true, Bool.not_true] at hne
      go_wp2
      go_region
      all_goals (try go_wp2)
      exact ⟨⟨k + 1, q + 1, by omega, by go_num, Lib.hid (by rw [HW.out]; show (w.drewN q).drewN 1 = _; rw [World.drewN_drewN])⟩, by simp [intOf]; omega⟩
    · go_wp2
      go_ret
      exact ⟨rfl, drew_below ⟨q, HW.out⟩⟩
set_option maxHeartbeats 12800000 in
theorem walk_all {w : World} {a b : Addr} (he0 : ErrN w a) (hR0 : ErrR w b) (A : Option Addr) (n c : Nat) (A' : Option Addr) (n' c' : Nat) (ys ys' : List Nat) (h : Row u8v w w.heap.size A n ys) (hz : ∀ z ∈ ys, z < 256) (h' : Row u8v w w.heap.size A' n' ys') (hz' : ∀ z ∈ ys', z < 256) :
    Calls Tryz.prog 3 #[.slice A n c, .slice A' n' c'] w fun e w' => e = .returned (.bool true) ∧ Below w.heap.size w w' := by
  by_cases hl : n ≤ 48 ∧ n' ≤ 48
  · obtain ⟨hl1, hl2⟩ := hl
    go_enter Tryz.func3, Tryz.ntmps3
    go_wp2_with fail
    go_at_call 6; refine (r8Long_no _ _ _ _ _ _ _ hl1 hl2).mono ?_; rintro e w1 ⟨rfl, rfl⟩
    go_wp2_with fail
    go_at_call 7; refine (R8Room_any A n c ys _ _ h (Nat.le_refl _) hz).mono ?_; rintro e w2 ⟨o, A1, n1, c1, A2, n2, c2, A3, n3, c3, ms, vs, bs, rfl, ho, ⟨hV, hF⟩, hb⟩
    have hr := ho.at_
    have h' := h'.to hb
    have hq1 := hr.1.1; have hq2 := hr.2.1.1; have hq3 := hr.2.2.1
    have hn : n1 + n2 + n3 ≤ 1048576 := by have := hV.l1; have := hV.l2; have := hV.l3; omega
    have hm1 : n1 ≤ 6 := by have := hF.1; omega
    have HB := Lib.hid (roomB_iff.2 hV)
    have HV := Lib.hid hV
    have HF := Lib.hid hF
    have HN1 := Lib.hid hq1
    have HN2 := Lib.hid hq2
    have HN3 := Lib.hid hq3
    clear hq1 hq2 hq3 hV hF h ho hz
    go_wp2_with fail
    obtain ⟨k0, hb1⟩ := one_box w2 28 #[.bool o, .slice A1 n1 c1, .slice A2 n2 c2, .slice A3 n3 c3]
    have hr := hr.to hb1
    have h' := h'.below hb1
    have hb := hb.trans (hb1.mono hb.size)
    generalize w2.alloc (.cells #[.bool o, .slice A1 n1 c1, .slice A2 n2 c2, .slice A3 n3 c3] 28) = w3 at *
    clear hb1
    go_at_call 8; refine (r8At_any A' n' c' _ ys' 0 7 _ h' hz' (by decide) (by decide) (by decide) hl2).mono ?_; rintro e w4 ⟨x1, rfl, a0, a1, rfl⟩
    have t1 : (1 : Int) ≤ 1 + x1 := by omega
    have t2 : 1 + x1 ≤ 7 := by omega
    go_wp2_with fail
    generalize 1 + x1 = t at t1 t2 ⊢
    clear a0 a1
    go_at_call 8; refine (r8At_any A' n' c' _ ys' 1 40 _ h' hz' (by decide) (by decide) (by decide) hl2).mono ?_; rintro e w4 ⟨at_, rfl, at0, at1, rfl⟩
    clear h' hz'
    have wft : (Lit.int .i64 t).wf = true := by simp [Lit.wf, IntKind.min, IntKind.max, IntKind.bits, IntKind.signed]; omega
    have tid : idB t = true := by simp [idB]; omega
    have tat : tickB at_ = true := by simp [tickB]; omega
    have hl32 : ms.length < 32 := by have := HF.out.1; omega
    obtain ⟨rt, hrt⟩ : ∃ z, roleAt ms t = z := ⟨_, rfl⟩
    have HRT := Lib.hid hrt
    obtain ⟨mt, hmt⟩ : ∃ z, decide (t ∈ mids ms) = z := ⟨_, rfl⟩
    have HMT := Lib.hid hmt
    obtain ⟨r4, hr4⟩ : ∃ z, joinS o ms vs bs t at_ = z := ⟨_, rfl⟩
    have H4 := Lib.hid hr4
    clear hrt hmt hr4
    have l0 := k0.cell 0; have l1 := k0.cell 1; have l2 := k0.cell 2; have l3 := k0.cell 3; have lt := k0.lt
    go_wp2_with fail
    clear l0 l1 l2 l3 lt
    go_at_call 9; refine (impl_JoinRoom_any _ _ _ _ _ _ _ _ _ _ _ _ _ _ _ _ hr hn (he0.below hb) (hR0.below hb) wft).mono ?_; rw [H4.out]; rintro e v1 ⟨J1, Jn1, Jc1, J2, Jn2, Jc2, J3, Jn3, Jc3, rfl, hoj, hb1, nhoj⟩
    have k0 := k0.below hb1 k0.lt
    have hr := hr.to hb1
    have hb := hb.trans (hb1.mono hb.size)
    clear hb1
    have l0 := k0.cell 0; have l1 := k0.cell 1; have l2 := k0.cell 2; have l3 := k0.cell 3; have lt := k0.lt
    go_wp2_with fail
    clear l0 l1 l2 l3 lt
    obtain ⟨kj, hb1⟩ := one_box v1 28 #[.bool r4.o, .slice J1 Jn1 Jc1, .slice J2 Jn2 Jc2, .slice J3 Jn3 Jc3]
    generalize v1.alloc (.cells #[.bool r4.o, .slice J1 Jn1 Jc1, .slice J2 Jn2 Jc2, .slice J3 Jn3 Jc3] 28) = v2 at *
    have k0 := k0.below hb1 k0.lt
    have hoj := hoj.below hb1 (Nat.le_refl _)
    have hr := hr.to hb1
    have hb := hb.trans (hb1.mono hb.size)
    clear hb1
    go_at_call 10; refine (impl_RoleOf_any _ _ _ _ _ _ _ _ _ _ _ _ _ _ _ _ hr hn (he0.below hb) wft).mono ?_; rw [if_pos HB.out, HB.out, Bool.true_and, HRT.out, HMT.out]; rintro e v3 ⟨rfl, hb1⟩
    have k0 := k0.below hb1 k0.lt
    have kj := kj.below hb1 kj.lt
    have hoj := hoj.below hb1 (Nat.le_refl _)
    have hr := hr.to hb1
    have hb := hb.trans (hb1.mono hb.size)
    clear hb1
    have p2 := k0.cell 2; have p3 := k0.cell 3
    have hvr := hr.2.1; have hbr := hr.2.2
    go_wp2
    go_loop [12, 13] (fun v i => ∃ k : Nat, k ≤ n2 ∧ i = .int .i64 k ∧ v = .bool (invK vs t at_ k)) (fun _ i => n2 - (intOf i).toNat)
    case atStart => exact ⟨0, by omega, rfl, rfl⟩
    case round =>
      obtain ⟨k, hk, rfl, rfl⟩ := hrel
      by_cases hlt : k < n2
      · have hlt' : decide ((k : Int) < (n2 : Int)) = true := decide_eq_true (by omega)
        obtain ⟨b2, off2, y, rfl, _, hy, c0, c1, c2⟩ := hvr.ativ hlt
        have HS := Lib.hid (inv_step (t := t) (at_ := at_) hy)
        have hp : (0 : Int) ≤ (k : Int) := by omega
        have hp2 : (k : Int) < (n2 : Int) := by omega
        clear hy
        cases hv : invK vs t at_ k with
        | true =>
          go_wp2
          go_round
          case rel => exact ⟨k + 1, by omega, by go_num, by rw [HS.out, hv]; rfl⟩
          case measure => simp [intOf]; omega
        | false =>
          cases q0 : (y.id == t) with
          | false =>
            go_wp2
            go_round
            case rel => exact ⟨k + 1, by omega, by go_num, by rw [HS.out, hv, q0]; rfl⟩
            case measure => simp [intOf]; omega
          | true =>
            go_wp2
            go_round
            case rel => exact ⟨k + 1, by omega, by go_num, by rw [HS.out, hv, q0]; simp⟩
            case measure => simp [intOf]; omega
      · have hlt' : decide ((k : Int) < (n2 : Int)) = false := decide_eq_false (by omega)
        have hkv : vs.length ≤ k := by have := HN2.out; omega
        obtain ⟨it, hit⟩ : ∃ z, invK vs t at_ k = z := ⟨_, rfl⟩
        have HIT := Lib.hid hit
        rw [hit]
        clear hit hvr
        go_wp2
        clear p2
        go_loop [14, 15] (fun v i => ∃ j : Nat, j ≤ n3 ∧ i = .int .i64 j ∧ v = .bool (banK bs t j)) (fun _ i => n3 - (intOf i).toNat)
        case atStart => exact ⟨0, by omega, rfl, rfl⟩
        case round =>
          obtain ⟨j, hj, rfl, rfl⟩ := hrel
          by_cases hlu : j < n3
          · have hlu' : decide ((j : Int) < (n3 : Int)) = true := decide_eq_true (by omega)
            obtain ⟨b3, off3, y, rfl, _, hy, c0, c1⟩ := hbr.atbn hlu
            have HS := Lib.hid (ban_step (t := t) hy)
            have hp : (0 : Int) ≤ (j : Int) := by omega
            have hp2 : (j : Int) < (n3 : Int) := by omega
            clear hy
            cases hv : banK bs t j with
            | true =>
              go_wp2
              go_round
              case rel => exact ⟨j + 1, by omega, by go_num, by rw [HS.out, hv]; rfl⟩
              case measure => simp [intOf]; omega
            | false =>
              go_wp2
              go_round
              case rel => exact ⟨j + 1, by omega, by go_num, by rw [HS.out, hv]; simp⟩
              case measure => simp [intOf]; omega
          · have hlu' : decide ((j : Int) < (n3 : Int)) = false := decide_eq_false (by omega)
            have hjv : bs.length ≤ j := by have := HN3.out; omega
            have HOK := Lib.hid (join_ok2 (o := o) HV.out hl32 tid tat hkv hjv)
            obtain ⟨bt, hbt⟩ : ∃ z, banK bs t j = z := ⟨_, rfl⟩
            have HBT := Lib.hid hbt
            rw [hbt]
            clear hbt hbr
            rw [H4.out, HMT.out, HBT.out, HIT.out] at HOK
            cases mt with
            | true =>
              by_cases hmn : 1 < n1
              · skip
                have ok4 : r4.ok = false := by rw [HOK.out]; rfl
                rw [ok4]
                obtain ⟨r6, hr6⟩ : ∃ z, leaveS o ms vs bs t = z := ⟨_, rfl⟩
                have H6 := Lib.hid hr6
                clear hr6
                have HLY := Lib.hid (show r6.ok = true ∧ RoomV r6.ms r6.vs r6.bs ∧ ¬ t ∈ mids r6.ms ∧ r6.ms.length + 1 = ms.length by rw [← H6.out]; exact leave_yes HV.out (of_decide_eq_true HMT.out) (by have := HN1.out; omega))
                have ok6 : r6.ok = true := HLY.out.1
                have hmy : decide ((1 : Int) < (n1 : Int)) = true := decide_eq_true (by omega)
                have l0 := k0.cell 0; have l1 := k0.cell 1; have l2 := k0.cell 2; have l3 := k0.cell 3; have lt := k0.lt
                go_wp2_with fail
                clear l0 l1 l2 l3 lt
                clear p3
                go_at_call 11; refine (impl_LeaveRoom_any _ _ _ _ _ _ _ _ _ _ _ _ _ _ _ hr hn (he0.below hb) (hR0.below hb) wft).mono ?_; rw [H6.out]; rintro e v4 ⟨L1, Ln1, Lc1, L2, Ln2, Lc2, L3, Ln3, Lc3, rfl, hol, hb1, nhol⟩
                have k0 := k0.below hb1 k0.lt
                have kj := kj.below hb1 kj.lt
                have hoj := hoj.below hb1 (Nat.le_refl _)
                have hr := hr.to hb1
                have hb := hb.trans (hb1.mono hb.size)
                clear hb1
                have l0 := k0.cell 0; have l1 := k0.cell 1; have l2 := k0.cell 2; have l3 := k0.cell 3; have lt := k0.lt
                go_wp2_with fail
                clear l0 l1 l2 l3 lt
                obtain ⟨kl, hb1⟩ := one_box v4 28 #[.bool r6.o, .slice L1 Ln1 Lc1, .slice L2 Ln2 Lc2, .slice L3 Ln3 Lc3]
                generalize v4.alloc (.cells #[.bool r6.o, .slice L1 Ln1 Lc1, .slice L2 Ln2 Lc2, .slice L3 Ln3 Lc3] 28) = v5 at *
                have k0 := k0.below hb1 k0.lt
                have kj := kj.below hb1 kj.lt
                have hoj := hoj.below hb1 (Nat.le_refl _)
                have hol := hol.below hb1 (Nat.le_refl _)
                have hr := hr.to hb1
                have hb := hb.trans (hb1.mono hb.size)
                clear hb1
                have HLB := Lib.hid (roomB_iff.2 HLY.out.2.1)
                go_at_call 10; refine (impl_RoleOf_any _ _ _ _ _ _ _ _ _ _ _ _ _ _ _ _ hol.at_ nhol (he0.below hb) wft).mono ?_; rw [if_pos HLB.out, HLB.out, Bool.true_and, decide_eq_false HLY.out.2.2.1]; rintro e v6 ⟨rfl, hb1⟩
                have k0 := k0.below hb1 k0.lt
                have kj := kj.below hb1 kj.lt
                have kl := kl.below hb1 kl.lt
                have hoj := hoj.below hb1 (Nat.le_refl _)
                have hol := hol.below hb1 (Nat.le_refl _)
                have hr := hr.to hb1
                have hb := hb.trans (hb1.mono hb.size)
                clear hb1
                have l0 := kl.cell 0; have l1 := kl.cell 1; have l2 := kl.cell 2; have l3 := kl.cell 3; have lt := kl.lt
                go_wp2_with fail
                clear l0 l1 l2 l3 lt
                go_at_call 12; refine (impl_ValidRoom_any _ _ _ _ _ _ _ _ _ _ _ _ _ _ hol.at_ nhol).mono ?_; rw [HLB.out]; rintro e v7 ⟨rfl, hb1⟩
                have k0 := k0.below hb1 k0.lt
                have kj := kj.below hb1 kj.lt
                have kl := kl.below hb1 kl.lt
                have hoj := hoj.below hb1 (Nat.le_refl _)
                have hol := hol.below hb1 (Nat.le_refl _)
                have hr := hr.to hb1
                have hb := hb.trans (hb1.mono hb.size)
                clear hb1
                have ml1 := kl.cell 1; have mlt := kl.lt
                have mr1 := k0.cell 1; have mrt := k0.lt
                have hle : Ln1 + 1 = n1 := by have e := hol.at_.1.1; have := HLY.out.2.2.2; have := HN1.out; omega
                have hw1 : IntKind.i64.wrap ((n1 : Int) - 1) = (n1 : Int) - 1 := IntWalk.i64_in _ (by omega)
                have hw2 : ((Ln1 : Int) == (n1 : Int) - 1) = true := by simp; omega
                clear hle
                go_wp2
                go_ret
                exact ⟨rfl, hb⟩
              · skip
                have ok4 : r4.ok = false := by rw [HOK.out]; rfl
                rw [ok4]
                obtain ⟨r6, hr6⟩ : ∃ z, leaveS o ms vs bs t = z := ⟨_, rfl⟩
                have H6 := Lib.hid hr6
                clear hr6
                have ok6 : r6.ok = false := by rw [← H6.out, leave_lone HV.out (of_decide_eq_true HMT.out) (by have := HN1.out; omega)]; rfl
                have hmy : decide ((1 : Int) < (n1 : Int)) = false := decide_eq_false (by omega)
                have l0 := k0.cell 0; have l1 := k0.cell 1; have l2 := k0.cell 2; have l3 := k0.cell 3; have lt := k0.lt
                go_wp2_with fail
                clear l0 l1 l2 l3 lt
                clear p3
                go_at_call 11; refine (impl_LeaveRoom_any _ _ _ _ _ _ _ _ _ _ _ _ _ _ _ hr hn (he0.below hb) (hR0.below hb) wft).mono ?_; rw [H6.out]; rintro e v4 ⟨L1, Ln1, Lc1, L2, Ln2, Lc2, L3, Ln3, Lc3, rfl, hol, hb1, nhol⟩
                have k0 := k0.below hb1 k0.lt
                have kj := kj.below hb1 kj.lt
                have hoj := hoj.below hb1 (Nat.le_refl _)
                have hr := hr.to hb1
                have hb := hb.trans (hb1.mono hb.size)
                clear hb1
                have l0 := k0.cell 0; have l1 := k0.cell 1; have l2 := k0.cell 2; have l3 := k0.cell 3; have lt := k0.lt
                go_wp2_with fail
                clear l0 l1 l2 l3 lt
                obtain ⟨kl, hb1⟩ := one_box v4 28 #[.bool r6.o, .slice L1 Ln1 Lc1, .slice L2 Ln2 Lc2, .slice L3 Ln3 Lc3]
                generalize v4.alloc (.cells #[.bool r6.o, .slice L1 Ln1 Lc1, .slice L2 Ln2 Lc2, .slice L3 Ln3 Lc3] 28) = v5 at *
                have k0 := k0.below hb1 k0.lt
                have kj := kj.below hb1 kj.lt
                have hoj := hoj.below hb1 (Nat.le_refl _)
                have hol := hol.below hb1 (Nat.le_refl _)
                have hr := hr.to hb1
                have hb := hb.trans (hb1.mono hb.size)
                clear hb1
                obtain ⟨q1, hq1⟩ : ∃ z, (if roomB r6.ms r6.vs r6.bs = true then roleAt r6.ms t else 0) = z := ⟨_, rfl⟩
                obtain ⟨q2, hq2⟩ : ∃ z, (roomB r6.ms r6.vs r6.bs && decide (t ∈ mids r6.ms)) = z := ⟨_, rfl⟩
                have Q1 := Lib.hid hq1
                have Q2 := Lib.hid hq2
                clear hq1 hq2
                go_at_call 10; refine (impl_RoleOf_any _ _ _ _ _ _ _ _ _ _ _ _ _ _ _ _ hol.at_ nhol (he0.below hb) wft).mono ?_; rw [Q1.out, Q2.out]; rintro e v6 ⟨rfl, hb1⟩
                have k0 := k0.below hb1 k0.lt
                have kj := kj.below hb1 kj.lt
                have kl := kl.below hb1 kl.lt
                have hoj := hoj.below hb1 (Nat.le_refl _)
                have hol := hol.below hb1 (Nat.le_refl _)
                have hr := hr.to hb1
                have hb := hb.trans (hb1.mono hb.size)
                clear hb1
                go_wp2
                go_ret
                exact ⟨rfl, hb⟩
            | false =>
              cases bt with
              | true =>
                have ok4 : r4.ok = false := by rw [HOK.out]; rfl
                rw [ok4]
                obtain ⟨r6, hr6⟩ : ∃ z, leaveS o ms vs bs t = z := ⟨_, rfl⟩
                have H6 := Lib.hid hr6
                clear hr6
                have ok6 : r6.ok = false := by rw [← H6.out, leave_nobody (of_decide_eq_false HMT.out)]; rfl
                have l0 := k0.cell 0; have l1 := k0.cell 1; have l2 := k0.cell 2; have l3 := k0.cell 3; have lt := k0.lt
                go_wp2_with fail
                clear l0 l1 l2 l3 lt
                clear p3
                go_at_call 11; refine (impl_LeaveRoom_any _ _ _ _ _ _ _ _ _ _ _ _ _ _ _ hr hn (he0.below hb) (hR0.below hb) wft).mono ?_; rw [H6.out]; rintro e v4 ⟨L1, Ln1, Lc1, L2, Ln2, Lc2, L3, Ln3, Lc3, rfl, hol, hb1, nhol⟩
                have k0 := k0.below hb1 k0.lt
                have kj := kj.below hb1 kj.lt
                have hoj := hoj.below hb1 (Nat.le_refl _)
                have hr := hr.to hb1
                have hb := hb.trans (hb1.mono hb.size)
                clear hb1
                have l0 := k0.cell 0; have l1 := k0.cell 1; have l2 := k0.cell 2; have l3 := k0.cell 3; have lt := k0.lt
                go_wp2_with fail
                clear l0 l1 l2 l3 lt
                obtain ⟨kl, hb1⟩ := one_box v4 28 #[.bool r6.o, .slice L1 Ln1 Lc1, .slice L2 Ln2 Lc2, .slice L3 Ln3 Lc3]
                generalize v4.alloc (.cells #[.bool r6.o, .slice L1 Ln1 Lc1, .slice L2 Ln2 Lc2, .slice L3 Ln3 Lc3] 28) = v5 at *
                have k0 := k0.below hb1 k0.lt
                have kj := kj.below hb1 kj.lt
                have hoj := hoj.below hb1 (Nat.le_refl _)
                have hol := hol.below hb1 (Nat.le_refl _)
                have hr := hr.to hb1
                have hb := hb.trans (hb1.mono hb.size)
                clear hb1
                obtain ⟨q1, hq1⟩ : ∃ z, (if roomB r6.ms r6.vs r6.bs = true then roleAt r6.ms t else 0) = z := ⟨_, rfl⟩
                obtain ⟨q2, hq2⟩ : ∃ z, (roomB r6.ms r6.vs r6.bs && decide (t ∈ mids r6.ms)) = z := ⟨_, rfl⟩
                have Q1 := Lib.hid hq1
                have Q2 := Lib.hid hq2
                clear hq1 hq2
                go_at_call 10; refine (impl_RoleOf_any _ _ _ _ _ _ _ _ _ _ _ _ _ _ _ _ hol.at_ nhol (he0.below hb) wft).mono ?_; rw [Q1.out, Q2.out]; rintro e v6 ⟨rfl, hb1⟩
                have k0 := k0.below hb1 k0.lt
                have kj := kj.below hb1 kj.lt
                have kl := kl.below hb1 kl.lt
                have hoj := hoj.below hb1 (Nat.le_refl _)
                have hol := hol.below hb1 (Nat.le_refl _)
                have hr := hr.to hb1
                have hb := hb.trans (hb1.mono hb.size)
                clear hb1
                go_wp2
                go_ret
                exact ⟨rfl, hb⟩
              | false =>
                cases o with
                | true =>
                  have ok4 : r4.ok = true := by rw [HOK.out]; rfl
                  rw [ok4]
                  obtain ⟨e4, hnm, hnb⟩ := join_yes (k := k) (j := j) HV.out hl32 tid tat (by rw [H4.out]; exact ok4)
                  have E4 := Lib.hid (H4.out.symm.trans e4)
                  have HNM := Lib.hid hnm
                  have HNB := Lib.hid hnb
                  clear e4 hnm hnb
                  have HJB := Lib.hid (show roomB r4.ms r4.vs r4.bs = true by rw [E4.out]; exact roomB_iff.2 (join_valid HV.out hl32 tid tat HNM.out HNB.out))
                  have HJR := Lib.hid (show roleAt r4.ms t = 1 by rw [E4.out]; exact role_ins HNM.out)
                  have HJM := Lib.hid (show t ∈ mids r4.ms by rw [E4.out]; exact mids_ins.2 (.inl rfl))
                  obtain ⟨r5, hr5⟩ : ∃ z, leaveS r4.o r4.ms r4.vs r4.bs t = z := ⟨_, rfl⟩
                  have H5 := Lib.hid hr5
                  clear hr5
                  have E5 := Lib.hid (show r5 = ⟨true, ms, dropK Iv.id t vs, bs, true⟩ by rw [← H5.out, E4.out]; exact (leave_back HV.out hl32 tid tat HNM.out HNB.out).1)
                  have ok5 : r5.ok = true := by rw [E5.out]
                  have HLB := Lib.hid (show roomB r5.ms r5.vs r5.bs = true by rw [E5.out]; exact roomB_iff.2 (leave_back (o := true) HV.out hl32 tid tat HNM.out HNB.out).2)
                  have HJL := Lib.hid (show Jn1 = n1 + 1 by have e : (insK Mb.id ⟨t, 1, at_, 0⟩ ms).length = Jn1 := (by have e := hoj.at_.1.1; rw [E4.out] at e; exact e); have e2 : (insK Mb.id ⟨t, 1, at_, 0⟩ ms).length = ms.length + 1 := insR_len; have := HN1.out; omega)
                  have u0 := k0.cell 0
                  have l0 := kj.cell 0; have l1 := kj.cell 1; have l2 := kj.cell 2; have l3 := kj.cell 3; have lt := kj.lt
                  go_wp2_with fail
                  clear l0 l1 l2 l3 lt
                  clear u0 p3
                  go_at_call 10; refine (impl_RoleOf_any _ _ _ _ _ _ _ _ _ _ _ _ _ _ _ _ hoj.at_ nhoj (he0.below hb) wft).mono ?_; rw [if_pos HJB.out, HJB.out, Bool.true_and, HJR.out, decide_eq_true HJM.out]; rintro e v4 ⟨rfl, hb1⟩
                  have k0 := k0.below hb1 k0.lt
                  have kj := kj.below hb1 kj.lt
                  have hoj := hoj.below hb1 (Nat.le_refl _)
                  have hr := hr.to hb1
                  have hb := hb.trans (hb1.mono hb.size)
                  clear hb1
                  have l0 := kj.cell 0; have l1 := kj.cell 1; have l2 := kj.cell 2; have l3 := kj.cell 3; have lt := kj.lt
                  go_wp2_with fail
                  clear l0 l1 l2 l3 lt
                  go_at_call 11; refine (impl_LeaveRoom_any _ _ _ _ _ _ _ _ _ _ _ _ _ _ _ hoj.at_ nhoj (he0.below hb) (hR0.below hb) wft).mono ?_; rw [H5.out]; rintro e v5 ⟨L1, Ln1, Lc1, L2, Ln2, Lc2, L3, Ln3, Lc3, rfl, hol, hb1, nhol⟩
                  have k0 := k0.below hb1 k0.lt
                  have kj := kj.below hb1 kj.lt
                  have hoj := hoj.below hb1 (Nat.le_refl _)
                  have hr := hr.to hb1
                  have hb := hb.trans (hb1.mono hb.size)
                  clear hb1
                  have l0 := kj.cell 0; have l1 := kj.cell 1; have l2 := kj.cell 2; have l3 := kj.cell 3; have lt := kj.lt
                  go_wp2_with fail
                  clear l0 l1 l2 l3 lt
                  obtain ⟨kl, hb1⟩ := one_box v5 28 #[.bool r5.o, .slice L1 Ln1 Lc1, .slice L2 Ln2 Lc2, .slice L3 Ln3 Lc3]
                  generalize v5.alloc (.cells #[.bool r5.o, .slice L1 Ln1 Lc1, .slice L2 Ln2 Lc2, .slice L3 Ln3 Lc3] 28) = v6 at *
                  have k0 := k0.below hb1 k0.lt
                  have kj := kj.below hb1 kj.lt
                  have hoj := hoj.below hb1 (Nat.le_refl _)
                  have hol := hol.below hb1 (Nat.le_refl _)
                  have hr := hr.to hb1
                  have hb := hb.trans (hb1.mono hb.size)
                  clear hb1
                  go_at_call 12; refine (impl_ValidRoom_any _ _ _ _ _ _ _ _ _ _ _ _ _ _ hoj.at_ nhoj).mono ?_; rw [HJB.out]; rintro e v7 ⟨rfl, hb1⟩
                  have k0 := k0.below hb1 k0.lt
                  have kj := kj.below hb1 kj.lt
                  have kl := kl.below hb1 kl.lt
                  have hoj := hoj.below hb1 (Nat.le_refl _)
                  have hol := hol.below hb1 (Nat.le_refl _)
                  have hr := hr.to hb1
                  have hb := hb.trans (hb1.mono hb.size)
                  clear hb1
                  have l0 := kl.cell 0; have l1 := kl.cell 1; have l2 := kl.cell 2; have l3 := kl.cell 3; have lt := kl.lt
                  go_wp2_with fail
                  clear l0 l1 l2 l3 lt
                  go_at_call 12; refine (impl_ValidRoom_any _ _ _ _ _ _ _ _ _ _ _ _ _ _ hol.at_ nhol).mono ?_; rw [HLB.out]; rintro e v8 ⟨rfl, hb1⟩
                  have k0 := k0.below hb1 k0.lt
                  have kj := kj.below hb1 kj.lt
                  have kl := kl.below hb1 kl.lt
                  have hoj := hoj.below hb1 (Nat.le_refl _)
                  have hol := hol.below hb1 (Nat.le_refl _)
                  have hr := hr.to hb1
                  have hb := hb.trans (hb1.mono hb.size)
                  clear hb1
                  have ml1 := kl.cell 1; have mlt := kl.lt
                  have mr1 := k0.cell 1; have mrt := k0.lt
                  go_wp2_with fail
                  clear ml1 mlt mr1 mrt
                  have hlr := hol.at_.1
                  rw [E5.out] at hlr
                  go_at_call 13; refine (r8Members_same _ _ _ _ _ _ _ _ hlr hr.1 (by have := hlr.1; have := HN1.out; omega)).mono ?_; rintro e v9 ⟨rfl, hb1⟩
                  clear hlr
                  have k0 := k0.below hb1 k0.lt
                  have kj := kj.below hb1 kj.lt
                  have kl := kl.below hb1 kl.lt
                  have hoj := hoj.below hb1 (Nat.le_refl _)
                  have hol := hol.below hb1 (Nat.le_refl _)
                  have hr := hr.to hb1
                  have hb := hb.trans (hb1.mono hb.size)
                  clear hb1
                  have ml1 := kj.cell 1; have mlt := kj.lt
                  have mr1 := k0.cell 1; have mrt := k0.lt
                  have hjl := HJL.out
                  have hw1 : IntKind.i64.wrap ((n1 : Int) + 1) = (n1 : Int) + 1 := IntWalk.i64_in _ (by omega)
                  have hw2 : ((Jn1 : Int) == (n1 : Int) + 1) = true := by rw [hjl]; simp
                  clear hjl
                  go_wp2
                  go_ret
                  exact ⟨rfl, hb⟩
                | false =>
                  cases it with
                  | true =>
                    have ok4 : r4.ok = true := by rw [HOK.out]; rfl
                    rw [ok4]
                    obtain ⟨e4, hnm, hnb⟩ := join_yes (k := k) (j := j) HV.out hl32 tid tat (by rw [H4.out]; exact ok4)
                    have E4 := Lib.hid (H4.out.symm.trans e4)
                    have HNM := Lib.hid hnm
                    have HNB := Lib.hid hnb
                    clear e4 hnm hnb
                    have HJB := Lib.hid (show roomB r4.ms r4.vs r4.bs = true by rw [E4.out]; exact roomB_iff.2 (join_valid HV.out hl32 tid tat HNM.out HNB.out))
                    have HJR := Lib.hid (show roleAt r4.ms t = 1 by rw [E4.out]; exact role_ins HNM.out)
                    have HJM := Lib.hid (show t ∈ mids r4.ms by rw [E4.out]; exact mids_ins.2 (.inl rfl))
                    obtain ⟨r5, hr5⟩ : ∃ z, leaveS r4.o r4.ms r4.vs r4.bs t = z := ⟨_, rfl⟩
                    have H5 := Lib.hid hr5
                    clear hr5
                    have E5 := Lib.hid (show r5 = ⟨false, ms, dropK Iv.id t vs, bs, true⟩ by rw [← H5.out, E4.out]; exact (leave_back HV.out hl32 tid tat HNM.out HNB.out).1)
                    have ok5 : r5.ok = true := by rw [E5.out]
                    have HLB := Lib.hid (show roomB r5.ms r5.vs r5.bs = true by rw [E5.out]; exact roomB_iff.2 (leave_back (o := true) HV.out hl32 tid tat HNM.out HNB.out).2)
                    have HJL := Lib.hid (show Jn1 = n1 + 1 by have e : (insK Mb.id ⟨t, 1, at_, 0⟩ ms).length = Jn1 := (by have e := hoj.at_.1.1; rw [E4.out] at e; exact e); have e2 : (insK Mb.id ⟨t, 1, at_, 0⟩ ms).length = ms.length + 1 := insR_len; have := HN1.out; omega)
                    have u0 := k0.cell 0
                    have l0 := kj.cell 0; have l1 := kj.cell 1; have l2 := kj.cell 2; have l3 := kj.cell 3; have lt := kj.lt
                    go_wp2_with fail
                    clear l0 l1 l2 l3 lt
                    clear u0 p3
                    go_at_call 10; refine (impl_RoleOf_any _ _ _ _ _ _ _ _ _ _ _ _ _ _ _ _ hoj.at_ nhoj (he0.below hb) wft).mono ?_; rw [if_pos HJB.out, HJB.out, Bool.true_and, HJR.out, decide_eq_true HJM.out]; rintro e v4 ⟨rfl, hb1⟩
                    have k0 := k0.below hb1 k0.lt
                    have kj := kj.below hb1 kj.lt
                    have hoj := hoj.below hb1 (Nat.le_refl _)
                    have hr := hr.to hb1
                    have hb := hb.trans (hb1.mono hb.size)
                    clear hb1
                    have l0 := kj.cell 0; have l1 := kj.cell 1; have l2 := kj.cell 2; have l3 := kj.cell 3; have lt := kj.lt
                    go_wp2_with fail
                    clear l0 l1 l2 l3 lt
                    go_at_call 11; refine (impl_LeaveRoom_any _ _ _ _ _ _ _ _ _ _ _ _ _ _ _ hoj.at_ nhoj (he0.below hb) (hR0.below hb) wft).mono ?_; rw [H5.out]; rintro e v5 ⟨L1, Ln1, Lc1, L2, Ln2, Lc2, L3, Ln3, Lc3, rfl, hol, hb1, nhol⟩
                    have k0 := k0.below hb1 k0.lt
                    have kj := kj.below hb1 kj.lt
                    have hoj := hoj.below hb1 (Nat.le_refl _)
                    have hr := hr.to hb1
                    have hb := hb.trans (hb1.mono hb.size)
                    clear hb1
                    have l0 := kj.cell 0; have l1 := kj.cell 1; have l2 := kj.cell 2; have l3 := kj.cell 3; have lt := kj.lt
                    go_wp2_with fail
                    clear l0 l1 l2 l3 lt
                    obtain ⟨kl, hb1⟩ := one_box v5 28 #[.bool r5.o, .slice L1 Ln1 Lc1, .slice L2 Ln2 Lc2, .slice L3 Ln3 Lc3]
                    generalize v5.alloc (.cells #[.bool r5.o, .slice L1 Ln1 Lc1, .slice L2 Ln2 Lc2, .slice L3 Ln3 Lc3] 28) = v6 at *
                    have k0 := k0.below hb1 k0.lt
                    have kj := kj.below hb1 kj.lt
                    have hoj := hoj.below hb1 (Nat.le_refl _)
                    have hol := hol.below hb1 (Nat.le_refl _)
                    have hr := hr.to hb1
                    have hb := hb.trans (hb1.mono hb.size)
                    clear hb1
                    go_at_call 12; refine (impl_ValidRoom_any _ _ _ _ _ _ _ _ _ _ _ _ _ _ hoj.at_ nhoj).mono ?_; rw [HJB.out]; rintro e v7 ⟨rfl, hb1⟩
                    have k0 := k0.below hb1 k0.lt
                    have kj := kj.below hb1 kj.lt
                    have kl := kl.below hb1 kl.lt
                    have hoj := hoj.below hb1 (Nat.le_refl _)
                    have hol := hol.below hb1 (Nat.le_refl _)
                    have hr := hr.to hb1
                    have hb := hb.trans (hb1.mono hb.size)
                    clear hb1
                    have l0 := kl.cell 0; have l1 := kl.cell 1; have l2 := kl.cell 2; have l3 := kl.cell 3; have lt := kl.lt
                    go_wp2_with fail
                    clear l0 l1 l2 l3 lt
                    go_at_call 12; refine (impl_ValidRoom_any _ _ _ _ _ _ _ _ _ _ _ _ _ _ hol.at_ nhol).mono ?_; rw [HLB.out]; rintro e v8 ⟨rfl, hb1⟩
                    have k0 := k0.below hb1 k0.lt
                    have kj := kj.below hb1 kj.lt
                    have kl := kl.below hb1 kl.lt
                    have hoj := hoj.below hb1 (Nat.le_refl _)
                    have hol := hol.below hb1 (Nat.le_refl _)
                    have hr := hr.to hb1
                    have hb := hb.trans (hb1.mono hb.size)
                    clear hb1
                    have ml1 := kl.cell 1; have mlt := kl.lt
                    have mr1 := k0.cell 1; have mrt := k0.lt
                    go_wp2_with fail
                    clear ml1 mlt mr1 mrt
                    have hlr := hol.at_.1
                    rw [E5.out] at hlr
                    go_at_call 13; refine (r8Members_same _ _ _ _ _ _ _ _ hlr hr.1 (by have := hlr.1; have := HN1.out; omega)).mono ?_; rintro e v9 ⟨rfl, hb1⟩
                    clear hlr
                    have k0 := k0.below hb1 k0.lt
                    have kj := kj.below hb1 kj.lt
                    have kl := kl.below hb1 kl.lt
                    have hoj := hoj.below hb1 (Nat.le_refl _)
                    have hol := hol.below hb1 (Nat.le_refl _)
                    have hr := hr.to hb1
                    have hb := hb.trans (hb1.mono hb.size)
                    clear hb1
                    have ml1 := kj.cell 1; have mlt := kj.lt
                    have mr1 := k0.cell 1; have mrt := k0.lt
                    have hjl := HJL.out
                    have hw1 : IntKind.i64.wrap ((n1 : Int) + 1) = (n1 : Int) + 1 := IntWalk.i64_in _ (by omega)
                    have hw2 : ((Jn1 : Int) == (n1 : Int) + 1) = true := by rw [hjl]; simp
                    clear hjl
                    go_wp2
                    go_ret
                    exact ⟨rfl, hb⟩
                  | false =>
                    have ok4 : r4.ok = false := by rw [HOK.out]; rfl
                    rw [ok4]
                    obtain ⟨r6, hr6⟩ : ∃ z, leaveS false ms vs bs t = z := ⟨_, rfl⟩
                    have H6 := Lib.hid hr6
                    clear hr6
                    have ok6 : r6.ok = false := by rw [← H6.out, leave_nobody (of_decide_eq_false HMT.out)]; rfl
                    have l0 := k0.cell 0; have l1 := k0.cell 1; have l2 := k0.cell 2; have l3 := k0.cell 3; have lt := k0.lt
                    go_wp2_with fail
                    clear l0 l1 l2 l3 lt
                    clear p3
                    go_at_call 11; refine (impl_LeaveRoom_any _ _ _ _ _ _ _ _ _ _ _ _ _ _ _ hr hn (he0.below hb) (hR0.below hb) wft).mono ?_; rw [H6.out]; rintro e v4 ⟨L1, Ln1, Lc1, L2, Ln2, Lc2, L3, Ln3, Lc3, rfl, hol, hb1, nhol⟩
                    have k0 := k0.below hb1 k0.lt
                    have kj := kj.below hb1 kj.lt
                    have hoj := hoj.below hb1 (Nat.le_refl _)
                    have hr := hr.to hb1
                    have hb := hb.trans (hb1.mono hb.size)
                    clear hb1
                    have l0 := k0.cell 0; have l1 := k0.cell 1; have l2 := k0.cell 2; have l3 := k0.cell 3; have lt := k0.lt
                    go_wp2_with fail
                    clear l0 l1 l2 l3 lt
                    obtain ⟨kl, hb1⟩ := one_box v4 28 #[.bool r6.o, .slice L1 Ln1 Lc1, .slice L2 Ln2 Lc2, .slice L3 Ln3 Lc3]
                    generalize v4.alloc (.cells #[.bool r6.o, .slice L1 Ln1 Lc1, .slice L2 Ln2 Lc2, .slice L3 Ln3 Lc3] 28) = v5 at *
                    have k0 := k0.below hb1 k0.lt
                    have kj := kj.below hb1 kj.lt
                    have hoj := hoj.below hb1 (Nat.le_refl _)
                    have hol := hol.below hb1 (Nat.le_refl _)
                    have hr := hr.to hb1
                    have hb := hb.trans (hb1.mono hb.size)
                    clear hb1
                    obtain ⟨q1, hq1⟩ : ∃ z, (if roomB r6.ms r6.vs r6.bs = true then roleAt r6.ms t else 0) = z := ⟨_, rfl⟩
                    obtain ⟨q2, hq2⟩ : ∃ z, (roomB r6.ms r6.vs r6.bs && decide (t ∈ mids r6.ms)) = z := ⟨_, rfl⟩
                    have Q1 := Lib.hid hq1
                    have Q2 := Lib.hid hq2
                    clear hq1 hq2
                    go_at_call 10; refine (impl_RoleOf_any _ _ _ _ _ _ _ _ _ _ _ _ _ _ _ _ hol.at_ nhol (he0.below hb) wft).mono ?_; rw [Q1.out, Q2.out]; rintro e v6 ⟨rfl, hb1⟩
                    have k0 := k0.below hb1 k0.lt
                    have kj := kj.below hb1 kj.lt
                    have kl := kl.below hb1 kl.lt
                    have hoj := hoj.below hb1 (Nat.le_refl _)
                    have hol := hol.below hb1 (Nat.le_refl _)
                    have hr := hr.to hb1
                    have hb := hb.trans (hb1.mono hb.size)
                    clear hb1
                    go_wp2
                    go_ret
                    exact ⟨rfl, hb⟩
  · go_enter Tryz.func3, Tryz.ntmps3
    go_wp2_with fail
    go_at_call 6; refine (r8Long_yes _ _ _ _ _ _ _ hl).mono ?_; rintro e w1 ⟨rfl, rfl⟩
    go_wp2
    go_ret
    exact ⟨rfl, Below.refl _ _⟩
end Go.Proofs.YtmnmmjobplbflaaGreatDoor
