import Derived.Test.YthekkjblgnjmgaaGreatDoorChecked
import Derived.WalkKit
import Derived.ProofKit
import Derived.OpenShut
import Derived.ShutString
import Derived.ChangeOld
import Derived.Below
import Derived.Lib.Hide
import Derived.Deep.RegionHeld3
import Derived.Test.YthekkjblgnjmgaaGreatDoorZDrawAll
import Derived.Test.YthekkjblgnjmgaaGreatDoorZAllowC
import Derived.Test.YthekkjblgnjmgaaGreatDoorZRoomA
import Derived.Test.YthekkjblgnjmgaaGreatDoorZDeedM
import Derived.Test.YthekkjblgnjmgaaGreatDoorZDeedR
import Derived.Test.YthekkjblgnjmgaaGreatDoorZDeedB
import Derived.Test.YthekkjblgnjmgaaGreatDoorZDeedL
import Derived.Test.YthekkjblgnjmgaaGreatDoorZDeedI
import Derived.Test.YthekkjblgnjmgaaGreatDoorZDeedJ
import Derived.Test.YthekkjblgnjmgaaGreatDoorZRankedP
namespace Go.Proofs.YthekkjblgnjmgaaGreatDoor
open Go.ChangeShapes Go.WideShapes Go.ChangeAt Go.RowKit
open Go.ChangeMaps (open_string shut_string)
set_option linter.unusedVariables false
set_option maxRecDepth 100000
theorem allow46 {ms : List Mb} {p at_ : Int} : allowB ms p 4 at_ = allowB ms p 6 at_ := by
  unfold allowB mayB leastL
  cases findM ms p <;> simp
theorem allow74 {ms : List Mb} {p at_ : Int} (h : allowB ms p 4 at_ = false) : allowB ms p 7 at_ = false := by
  unfold allowB mayB leastL at h ⊢
  cases hf : findM ms p with
  | none => simp
  | some m =>
    rw [hf] at h
    simp at h ⊢
    intro h1 h2 h3 h4
    exact h h1 h2 h3 (by omega)
set_option maxHeartbeats 12800000 in
theorem walk_all {w : World} {a b : Addr} (he0 : ErrN w a) (hR0 : ErrR w b) (A : Option Addr) (n c : Nat) (A' : Option Addr) (n' c' : Nat) (ys ys' : List Nat) (h : Row u8v w w.heap.size A n ys) (hz : ∀ z ∈ ys, z < 256) (h' : Row u8v w w.heap.size A' n' ys') (hz' : ∀ z ∈ ys', z < 256) :
    Calls Tryz.prog 4 #[.slice A n c, .slice A' n' c'] w fun e w' => e = .returned (.bool true) ∧ Below w.heap.size w w' := by
  by_cases hl : n ≤ 48 ∧ n' ≤ 48
  · obtain ⟨hl1, hl2⟩ := hl
    go_enter Tryz.func4, Tryz.ntmps4
    go_wp2_with fail
    go_at_call 8; refine (r8Long_no _ _ _ _ _ _ _ hl1 hl2).mono ?_; rintro e w1 ⟨rfl, rfl⟩
    go_wp2_with fail
    go_at_call 9; refine (R8Room_any A n c ys _ _ h (Nat.le_refl _) hz).mono ?_; rintro e w2 ⟨o, A1, n1, c1, A2, n2, c2, A3, n3, c3, ms, vs, bs, rfl, ho, ⟨hV, hF⟩, hb⟩
    have hr := ho.at_
    have h' := h'.to hb
    have hq1 := hr.1.1; have hq2 := hr.2.1.1; have hq3 := hr.2.2.1
    have hn : n1 + n2 + n3 ≤ 1048576 := by have := hV.l1; have := hV.l2; have := hV.l3; omega
    have HB := Lib.hid (roomB_iff.2 hV)
    have HV := Lib.hid hV
    have HF := Lib.hid hF
    clear hq1 hq2 hq3 hV hF h ho hz
    go_wp2_with fail
    obtain ⟨k0, hb1⟩ := one_box w2 28 #[.bool o, .slice A1 n1 c1, .slice A2 n2 c2, .slice A3 n3 c3]
    have hr := hr.to hb1
    have h' := h'.below hb1
    have hb := hb.trans (hb1.mono hb.size)
    generalize w2.alloc (.cells #[.bool o, .slice A1 n1 c1, .slice A2 n2 c2, .slice A3 n3 c3] 28) = w3 at *
    clear hb1
    go_at_call 10; refine (r8At_any A' n' c' _ ys' 0 6 _ h' hz' (by decide) (by decide) (by decide) hl2).mono ?_; rintro e w4 ⟨x0, rfl, a0, a1, rfl⟩
    have p1 : (1 : Int) ≤ 1 + x0 := by omega
    have p2 : 1 + x0 ≤ 6 := by omega
    go_wp2_with fail
    generalize 1 + x0 = p at p1 p2 ⊢
    clear a0 a1
    go_at_call 10; refine (r8At_any A' n' c' _ ys' 1 7 _ h' hz' (by decide) (by decide) (by decide) hl2).mono ?_; rintro e w4 ⟨x1, rfl, a0, a1, rfl⟩
    have t1 : (1 : Int) ≤ 1 + x1 := by omega
    have t2 : 1 + x1 ≤ 7 := by omega
    go_wp2_with fail
    generalize 1 + x1 = t at t1 t2 ⊢
    clear a0 a1
    go_at_call 10; refine (r8At_any A' n' c' _ ys' 2 40 _ h' hz' (by decide) (by decide) (by decide) hl2).mono ?_; rintro e w4 ⟨at_, rfl, at0, at1, rfl⟩
    go_wp2_with fail
    go_at_call 10; refine (r8At_any A' n' c' _ ys' 3 4 _ h' hz' (by decide) (by decide) (by decide) hl2).mono ?_; rintro e w4 ⟨role, rfl, ro0, ro1, rfl⟩
    clear h' hz'
    have wfp : (Lit.int .i64 p).wf = true := by simp [Lit.wf, IntKind.min, IntKind.max, IntKind.bits, IntKind.signed]; omega
    have wft : (Lit.int .i64 t).wf = true := by simp [Lit.wf, IntKind.min, IntKind.max, IntKind.bits, IntKind.signed]; omega
    have tid : idB t = true := by simp [idB]; omega
    have tl5 : tickB (at_ + 5) = true := by simp [tickB]; omega
    have tat : tickB at_ = true := by simp [tickB]; omega
    have rlb : roleB role = true := by simp [roleB]; omega
    obtain ⟨rp, hrp⟩ : ∃ z, roleAt ms p = z := ⟨_, rfl⟩
    have HRP := Lib.hid hrp
    obtain ⟨rt, hrt⟩ : ∃ z, roleAt ms t = z := ⟨_, rfl⟩
    have HRT := Lib.hid hrt
    obtain ⟨mp, hmp⟩ : ∃ z, decide (p ∈ mids ms) = z := ⟨_, rfl⟩
    have HMP := Lib.hid hmp
    obtain ⟨mt, hmt⟩ : ∃ z, decide (t ∈ mids ms) = z := ⟨_, rfl⟩
    have HMT := Lib.hid hmt
    obtain ⟨x4, hx4⟩ : ∃ z, allowB ms p 4 at_ = z := ⟨_, rfl⟩
    have HA4 := Lib.hid hx4
    have HA6 := Lib.hid (allow46.symm.trans hx4)
    obtain ⟨x7, hx7⟩ : ∃ z, allowB ms p 7 at_ = z := ⟨_, rfl⟩
    have HA7 := Lib.hid hx7
    have HPT := Lib.hid (show p = t → mp = mt by rintro rfl; rw [← hmp, ← hmt])
    obtain ⟨r1, hr1⟩ : ∃ z, muteS o ms vs bs p t (at_ + 5) at_ = z := ⟨_, rfl⟩
    have H1 := Lib.hid hr1
    obtain ⟨r2, hr2⟩ : ∃ z, roleS o ms vs bs p t role at_ = z := ⟨_, rfl⟩
    have H2 := Lib.hid hr2
    obtain ⟨r3, hr3⟩ : ∃ z, banS o ms vs bs p t (at_ + 5) at_ = z := ⟨_, rfl⟩
    have H3 := Lib.hid hr3
    clear hrp hrt hmp hmt hx4 hx7 hr1 hr2 hr3
    have l0 := k0.cell 0; have l1 := k0.cell 1; have l2 := k0.cell 2; have l3 := k0.cell 3; have lt := k0.lt
    go_wp2_with fail
    clear l0 l1 l2 l3 lt
    go_at_call 12; refine (impl_RoleOf_any _ _ _ _ _ _ _ _ _ _ _ _ _ _ _ _ hr hn (he0.below hb) wfp).mono ?_; rw [if_pos HB.out, HB.out, Bool.true_and, HRP.out, HMP.out]; rintro e v1 ⟨rfl, hb1⟩
    have k0 := k0.below hb1 k0.lt
    have hr := hr.to hb1
    have hb := hb.trans (hb1.mono hb.size)
    clear hb1
    have l0 := k0.cell 0; have l1 := k0.cell 1; have l2 := k0.cell 2; have l3 := k0.cell 3; have lt := k0.lt
    go_wp2_with fail
    clear l0 l1 l2 l3 lt
    go_at_call 12; refine (impl_RoleOf_any _ _ _ _ _ _ _ _ _ _ _ _ _ _ _ _ hr hn (he0.below hb) wft).mono ?_; rw [if_pos HB.out, HB.out, Bool.true_and, HRT.out, HMT.out]; rintro e v2 ⟨rfl, hb1⟩
    have k0 := k0.below hb1 k0.lt
    have hr := hr.to hb1
    have hb := hb.trans (hb1.mono hb.size)
    clear hb1
    have l0 := k0.cell 0; have l1 := k0.cell 1; have l2 := k0.cell 2; have l3 := k0.cell 3; have lt := k0.lt
    go_wp2_with fail
    clear l0 l1 l2 l3 lt
    go_at_call 16; refine (spec_RoleOf_any _ _ _ _ _ _ _ _ _ _ _ _ _ _ _ hr hn).mono ?_; rw [if_pos HB.out, HB.out, Bool.true_and, HRP.out, HMP.out]; rintro e v3 ⟨rfl, hb1⟩
    have k0 := k0.below hb1 k0.lt
    have hr := hr.to hb1
    have hb := hb.trans (hb1.mono hb.size)
    clear hb1
    cases mp with
    | false =>
      have HTOP := Lib.hid (show topB ms p t = false by unfold topB; rw [HMP.out]; rfl)
      have ok1 : r1.ok = false := by rw [← H1.out, mute_ok' HV.out tid tl5, HTOP.out]; rfl
      have ok2 : r2.ok = false := by rw [← H2.out, (role_ok' HV.out tid rlb).1, HTOP.out]; rfl
      have E3 := Lib.hid (show r3 = rNo by rw [← H3.out, ban_eq HV.out HF.out.2.2 tid tl5 (by omega), HTOP.out]; rfl)
      have ok3 : r3.ok = false := by rw [E3.out]; rfl
      have l0 := k0.cell 0; have l1 := k0.cell 1; have l2 := k0.cell 2; have l3 := k0.cell 3; have lt := k0.lt
      go_wp2_with fail
      clear l0 l1 l2 l3 lt
      go_at_call 17; refine (impl_MuteMember_any _ _ _ _ _ _ _ _ _ _ _ _ _ _ _ _ _ _ hr hn (he0.below hb) (hR0.below hb) wfp wft).mono ?_; rw [H1.out]; rintro e v4 ⟨U1, Un1, Uc1, U2, Un2, Uc2, U3, Un3, Uc3, rfl, hou, hb1, nhou⟩
      have k0 := k0.below hb1 k0.lt
      have hr := hr.to hb1
      have hb := hb.trans (hb1.mono hb.size)
      clear hb1
      have l0 := k0.cell 0; have l1 := k0.cell 1; have l2 := k0.cell 2; have l3 := k0.cell 3; have lt := k0.lt
      go_wp2_with fail
      clear l0 l1 l2 l3 lt
      obtain ⟨ku, hb1⟩ := one_box v4 28 #[.bool r1.o, .slice U1 Un1 Uc1, .slice U2 Un2 Uc2, .slice U3 Un3 Uc3]
      generalize v4.alloc (.cells #[.bool r1.o, .slice U1 Un1 Uc1, .slice U2 Un2 Uc2, .slice U3 Un3 Uc3] 28) = v5 at *
      have k0 := k0.below hb1 k0.lt
      have hou := hou.below hb1 (Nat.le_refl _)
      have hr := hr.to hb1
      have hb := hb.trans (hb1.mono hb.size)
      clear hb1
      go_at_call 18; refine (impl_GiveRole_any _ _ _ _ _ _ _ _ _ _ _ _ _ _ _ _ _ _ hr hn (he0.below hb) (hR0.below hb) wfp wft).mono ?_; rw [H2.out]; rintro e v6 ⟨Q1, Qn1, Qc1, Q2, Qn2, Qc2, Q3, Qn3, Qc3, rfl, hoq, hb1, nhoq⟩
      have k0 := k0.below hb1 k0.lt
      have ku := ku.below hb1 ku.lt
      have hou := hou.below hb1 (Nat.le_refl _)
      have hr := hr.to hb1
      have hb := hb.trans (hb1.mono hb.size)
      clear hb1
      have l0 := k0.cell 0; have l1 := k0.cell 1; have l2 := k0.cell 2; have l3 := k0.cell 3; have lt := k0.lt
      go_wp2_with fail
      clear l0 l1 l2 l3 lt
      obtain ⟨kg, hb1⟩ := one_box v6 28 #[.bool r2.o, .slice Q1 Qn1 Qc1, .slice Q2 Qn2 Qc2, .slice Q3 Qn3 Qc3]
      generalize v6.alloc (.cells #[.bool r2.o, .slice Q1 Qn1 Qc1, .slice Q2 Qn2 Qc2, .slice Q3 Qn3 Qc3] 28) = v7 at *
      have k0 := k0.below hb1 k0.lt
      have ku := ku.below hb1 ku.lt
      have hou := hou.below hb1 (Nat.le_refl _)
      have hoq := hoq.below hb1 (Nat.le_refl _)
      have hr := hr.to hb1
      have hb := hb.trans (hb1.mono hb.size)
      clear hb1
      go_at_call 19; refine (impl_BanMember_any _ _ _ _ _ _ _ _ _ _ _ _ _ _ _ _ _ _ hr hn (he0.below hb) (hR0.below hb) wfp wft).mono ?_; rw [H3.out]; rintro e v8 ⟨B1, Bn1, Bc1, B2, Bn2, Bc2, B3, Bn3, Bc3, rfl, hob, hb1, nhob⟩
      have k0 := k0.below hb1 k0.lt
      have ku := ku.below hb1 ku.lt
      have kg := kg.below hb1 kg.lt
      have hou := hou.below hb1 (Nat.le_refl _)
      have hoq := hoq.below hb1 (Nat.le_refl _)
      have hr := hr.to hb1
      have hb := hb.trans (hb1.mono hb.size)
      clear hb1
      have l0 := kg.cell 0; have l1 := kg.cell 1; have l2 := kg.cell 2; have l3 := kg.cell 3; have lt := kg.lt
      go_wp2_with fail
      clear l0 l1 l2 l3 lt
      obtain ⟨kb, hb1⟩ := one_box v8 28 #[.bool r3.o, .slice B1 Bn1 Bc1, .slice B2 Bn2 Bc2, .slice B3 Bn3 Bc3]
      generalize v8.alloc (.cells #[.bool r3.o, .slice B1 Bn1 Bc1, .slice B2 Bn2 Bc2, .slice B3 Bn3 Bc3] 28) = v9 at *
      have k0 := k0.below hb1 k0.lt
      have ku := ku.below hb1 ku.lt
      have kg := kg.below hb1 kg.lt
      have hou := hou.below hb1 (Nat.le_refl _)
      have hoq := hoq.below hb1 (Nat.le_refl _)
      have hob := hob.below hb1 (Nat.le_refl _)
      have hr := hr.to hb1
      have hb := hb.trans (hb1.mono hb.size)
      clear hb1
      obtain ⟨q1, hq1⟩ : ∃ z, (if roomB r2.ms r2.vs r2.bs = true then roleAt r2.ms t else 0) = z := ⟨_, rfl⟩
      obtain ⟨q2, hq2⟩ : ∃ z, (roomB r2.ms r2.vs r2.bs && decide (t ∈ mids r2.ms)) = z := ⟨_, rfl⟩
      have Q1 := Lib.hid hq1
      have Q2 := Lib.hid hq2
      clear hq1 hq2
      go_at_call 12; refine (impl_RoleOf_any _ _ _ _ _ _ _ _ _ _ _ _ _ _ _ _ hoq.at_ nhoq (he0.below hb) wft).mono ?_; rw [Q1.out, Q2.out]; rintro e v10 ⟨rfl, hb1⟩
      have k0 := k0.below hb1 k0.lt
      have ku := ku.below hb1 ku.lt
      have kg := kg.below hb1 kg.lt
      have kb := kb.below hb1 kb.lt
      have hou := hou.below hb1 (Nat.le_refl _)
      have hoq := hoq.below hb1 (Nat.le_refl _)
      have hob := hob.below hb1 (Nat.le_refl _)
      have hr := hr.to hb1
      have hb := hb.trans (hb1.mono hb.size)
      clear hb1
      go_wp2
      go_ret
      exact ⟨rfl, hb⟩
    | true =>
      cases hpt : (p == t) with
      | true =>
        have hpn : (p != t) = false := by simp [bne, hpt]
        have HTOP := Lib.hid (show topB ms p t = false by unfold topB; rw [HMP.out, decide_eq_true (eq_of_beq hpt)]; rfl)
        have emt := HPT.out (eq_of_beq hpt)
        subst emt
        have ok1 : r1.ok = false := by rw [← H1.out, mute_ok' HV.out tid tl5, HTOP.out]; rfl
        have ok2 : r2.ok = false := by rw [← H2.out, (role_ok' HV.out tid rlb).1, HTOP.out]; rfl
        have E3 := Lib.hid (show r3 = rNo by rw [← H3.out, ban_eq HV.out HF.out.2.2 tid tl5 (by omega), HTOP.out]; rfl)
        have ok3 : r3.ok = false := by rw [E3.out]; rfl
        have l0 := k0.cell 0; have l1 := k0.cell 1; have l2 := k0.cell 2; have l3 := k0.cell 3; have lt := k0.lt
        go_wp2_with fail
        clear l0 l1 l2 l3 lt
        go_at_call 17; refine (impl_MuteMember_any _ _ _ _ _ _ _ _ _ _ _ _ _ _ _ _ _ _ hr hn (he0.below hb) (hR0.below hb) wfp wft).mono ?_; rw [H1.out]; rintro e v4 ⟨U1, Un1, Uc1, U2, Un2, Uc2, U3, Un3, Uc3, rfl, hou, hb1, nhou⟩
        have k0 := k0.below hb1 k0.lt
        have hr := hr.to hb1
        have hb := hb.trans (hb1.mono hb.size)
        clear hb1
        have l0 := k0.cell 0; have l1 := k0.cell 1; have l2 := k0.cell 2; have l3 := k0.cell 3; have lt := k0.lt
        go_wp2_with fail
        clear l0 l1 l2 l3 lt
        obtain ⟨ku, hb1⟩ := one_box v4 28 #[.bool r1.o, .slice U1 Un1 Uc1, .slice U2 Un2 Uc2, .slice U3 Un3 Uc3]
        generalize v4.alloc (.cells #[.bool r1.o, .slice U1 Un1 Uc1, .slice U2 Un2 Uc2, .slice U3 Un3 Uc3] 28) = v5 at *
        have k0 := k0.below hb1 k0.lt
        have hou := hou.below hb1 (Nat.le_refl _)
        have hr := hr.to hb1
        have hb := hb.trans (hb1.mono hb.size)
        clear hb1
        go_at_call 18; refine (impl_GiveRole_any _ _ _ _ _ _ _ _ _ _ _ _ _ _ _ _ _ _ hr hn (he0.below hb) (hR0.below hb) wfp wft).mono ?_; rw [H2.out]; rintro e v6 ⟨Q1, Qn1, Qc1, Q2, Qn2, Qc2, Q3, Qn3, Qc3, rfl, hoq, hb1, nhoq⟩
        have k0 := k0.below hb1 k0.lt
        have ku := ku.below hb1 ku.lt
        have hou := hou.below hb1 (Nat.le_refl _)
        have hr := hr.to hb1
        have hb := hb.trans (hb1.mono hb.size)
        clear hb1
        have l0 := k0.cell 0; have l1 := k0.cell 1; have l2 := k0.cell 2; have l3 := k0.cell 3; have lt := k0.lt
        go_wp2_with fail
        clear l0 l1 l2 l3 lt
        obtain ⟨kg, hb1⟩ := one_box v6 28 #[.bool r2.o, .slice Q1 Qn1 Qc1, .slice Q2 Qn2 Qc2, .slice Q3 Qn3 Qc3]
        generalize v6.alloc (.cells #[.bool r2.o, .slice Q1 Qn1 Qc1, .slice Q2 Qn2 Qc2, .slice Q3 Qn3 Qc3] 28) = v7 at *
        have k0 := k0.below hb1 k0.lt
        have ku := ku.below hb1 ku.lt
        have hou := hou.below hb1 (Nat.le_refl _)
        have hoq := hoq.below hb1 (Nat.le_refl _)
        have hr := hr.to hb1
        have hb := hb.trans (hb1.mono hb.size)
        clear hb1
        go_at_call 19; refine (impl_BanMember_any _ _ _ _ _ _ _ _ _ _ _ _ _ _ _ _ _ _ hr hn (he0.below hb) (hR0.below hb) wfp wft).mono ?_; rw [H3.out]; rintro e v8 ⟨B1, Bn1, Bc1, B2, Bn2, Bc2, B3, Bn3, Bc3, rfl, hob, hb1, nhob⟩
        have k0 := k0.below hb1 k0.lt
        have ku := ku.below hb1 ku.lt
        have kg := kg.below hb1 kg.lt
        have hou := hou.below hb1 (Nat.le_refl _)
        have hoq := hoq.below hb1 (Nat.le_refl _)
        have hr := hr.to hb1
        have hb := hb.trans (hb1.mono hb.size)
        clear hb1
        have l0 := kg.cell 0; have l1 := kg.cell 1; have l2 := kg.cell 2; have l3 := kg.cell 3; have lt := kg.lt
        go_wp2_with fail
        clear l0 l1 l2 l3 lt
        obtain ⟨kb, hb1⟩ := one_box v8 28 #[.bool r3.o, .slice B1 Bn1 Bc1, .slice B2 Bn2 Bc2, .slice B3 Bn3 Bc3]
        generalize v8.alloc (.cells #[.bool r3.o, .slice B1 Bn1 Bc1, .slice B2 Bn2 Bc2, .slice B3 Bn3 Bc3] 28) = v9 at *
        have k0 := k0.below hb1 k0.lt
        have ku := ku.below hb1 ku.lt
        have kg := kg.below hb1 kg.lt
        have hou := hou.below hb1 (Nat.le_refl _)
        have hoq := hoq.below hb1 (Nat.le_refl _)
        have hob := hob.below hb1 (Nat.le_refl _)
        have hr := hr.to hb1
        have hb := hb.trans (hb1.mono hb.size)
        clear hb1
        obtain ⟨q1, hq1⟩ : ∃ z, (if roomB r2.ms r2.vs r2.bs = true then roleAt r2.ms t else 0) = z := ⟨_, rfl⟩
        obtain ⟨q2, hq2⟩ : ∃ z, (roomB r2.ms r2.vs r2.bs && decide (t ∈ mids r2.ms)) = z := ⟨_, rfl⟩
        have Q1 := Lib.hid hq1
        have Q2 := Lib.hid hq2
        clear hq1 hq2
        go_at_call 12; refine (impl_RoleOf_any _ _ _ _ _ _ _ _ _ _ _ _ _ _ _ _ hoq.at_ nhoq (he0.below hb) wft).mono ?_; rw [Q1.out, Q2.out]; rintro e v10 ⟨rfl, hb1⟩
        have k0 := k0.below hb1 k0.lt
        have ku := ku.below hb1 ku.lt
        have kg := kg.below hb1 kg.lt
        have kb := kb.below hb1 kb.lt
        have hou := hou.below hb1 (Nat.le_refl _)
        have hoq := hoq.below hb1 (Nat.le_refl _)
        have hob := hob.below hb1 (Nat.le_refl _)
        have hr := hr.to hb1
        have hb := hb.trans (hb1.mono hb.size)
        clear hb1
        go_wp2
        go_ret
        exact ⟨rfl, hb⟩
      | false =>
        have hpn : (p != t) = true := by simp [bne, hpt]
        have HNE := Lib.hid (show ¬ p = t by intro e; rw [e] at hpt; simp at hpt)
        cases mt with
        | false =>
          have HTOP := Lib.hid (show topB ms p t = true by unfold topB; rw [HMP.out, decide_eq_false HNE.out, HMT.out]; rfl)
          cases x4 with
          | false =>
            have ok1 : r1.ok = false := by rw [← H1.out, mute_ok' HV.out tid tl5, HTOP.out, HMT.out]; rfl
            have ok2 : r2.ok = false := by rw [← H2.out, (role_ok' HV.out tid rlb).1, HTOP.out, HMT.out]; rfl
            have E3 := Lib.hid (show r3 = rNo by rw [← H3.out, ban_eq HV.out HF.out.2.2 tid tl5 (by omega), HTOP.out, HA6.out]; rfl)
            have ok3 : r3.ok = false := by rw [E3.out]; rfl
            have l0 := k0.cell 0; have l1 := k0.cell 1; have l2 := k0.cell 2; have l3 := k0.cell 3; have lt := k0.lt
            go_wp2_with fail
            clear l0 l1 l2 l3 lt
            go_at_call 17; refine (impl_MuteMember_any _ _ _ _ _ _ _ _ _ _ _ _ _ _ _ _ _ _ hr hn (he0.below hb) (hR0.below hb) wfp wft).mono ?_; rw [H1.out]; rintro e v4 ⟨U1, Un1, Uc1, U2, Un2, Uc2, U3, Un3, Uc3, rfl, hou, hb1, nhou⟩
            have k0 := k0.below hb1 k0.lt
            have hr := hr.to hb1
            have hb := hb.trans (hb1.mono hb.size)
            clear hb1
            have l0 := k0.cell 0; have l1 := k0.cell 1; have l2 := k0.cell 2; have l3 := k0.cell 3; have lt := k0.lt
            go_wp2_with fail
            clear l0 l1 l2 l3 lt
            obtain ⟨ku, hb1⟩ := one_box v4 28 #[.bool r1.o, .slice U1 Un1 Uc1, .slice U2 Un2 Uc2, .slice U3 Un3 Uc3]
            generalize v4.alloc (.cells #[.bool r1.o, .slice U1 Un1 Uc1, .slice U2 Un2 Uc2, .slice U3 Un3 Uc3] 28) = v5 at *
            have k0 := k0.below hb1 k0.lt
            have hou := hou.below hb1 (Nat.le_refl _)
            have hr := hr.to hb1
            have hb := hb.trans (hb1.mono hb.size)
            clear hb1
            go_at_call 18; refine (impl_GiveRole_any _ _ _ _ _ _ _ _ _ _ _ _ _ _ _ _ _ _ hr hn (he0.below hb) (hR0.below hb) wfp wft).mono ?_; rw [H2.out]; rintro e v6 ⟨Q1, Qn1, Qc1, Q2, Qn2, Qc2, Q3, Qn3, Qc3, rfl, hoq, hb1, nhoq⟩
            have k0 := k0.below hb1 k0.lt
            have ku := ku.below hb1 ku.lt
            have hou := hou.below hb1 (Nat.le_refl _)
            have hr := hr.to hb1
            have hb := hb.trans (hb1.mono hb.size)
            clear hb1
            have l0 := k0.cell 0; have l1 := k0.cell 1; have l2 := k0.cell 2; have l3 := k0.cell 3; have lt := k0.lt
            go_wp2_with fail
            clear l0 l1 l2 l3 lt
            obtain ⟨kg, hb1⟩ := one_box v6 28 #[.bool r2.o, .slice Q1 Qn1 Qc1, .slice Q2 Qn2 Qc2, .slice Q3 Qn3 Qc3]
            generalize v6.alloc (.cells #[.bool r2.o, .slice Q1 Qn1 Qc1, .slice Q2 Qn2 Qc2, .slice Q3 Qn3 Qc3] 28) = v7 at *
            have k0 := k0.below hb1 k0.lt
            have ku := ku.below hb1 ku.lt
            have hou := hou.below hb1 (Nat.le_refl _)
            have hoq := hoq.below hb1 (Nat.le_refl _)
            have hr := hr.to hb1
            have hb := hb.trans (hb1.mono hb.size)
            clear hb1
            go_at_call 19; refine (impl_BanMember_any _ _ _ _ _ _ _ _ _ _ _ _ _ _ _ _ _ _ hr hn (he0.below hb) (hR0.below hb) wfp wft).mono ?_; rw [H3.out]; rintro e v8 ⟨B1, Bn1, Bc1, B2, Bn2, Bc2, B3, Bn3, Bc3, rfl, hob, hb1, nhob⟩
            have k0 := k0.below hb1 k0.lt
            have ku := ku.below hb1 ku.lt
            have kg := kg.below hb1 kg.lt
            have hou := hou.below hb1 (Nat.le_refl _)
            have hoq := hoq.below hb1 (Nat.le_refl _)
            have hr := hr.to hb1
            have hb := hb.trans (hb1.mono hb.size)
            clear hb1
            have l0 := k0.cell 0; have l1 := k0.cell 1; have l2 := k0.cell 2; have l3 := k0.cell 3; have lt := k0.lt
            go_wp2_with fail
            clear l0 l1 l2 l3 lt
            obtain ⟨kb, hb1⟩ := one_box v8 28 #[.bool r3.o, .slice B1 Bn1 Bc1, .slice B2 Bn2 Bc2, .slice B3 Bn3 Bc3]
            generalize v8.alloc (.cells #[.bool r3.o, .slice B1 Bn1 Bc1, .slice B2 Bn2 Bc2, .slice B3 Bn3 Bc3] 28) = v9 at *
            have k0 := k0.below hb1 k0.lt
            have ku := ku.below hb1 ku.lt
            have kg := kg.below hb1 kg.lt
            have hou := hou.below hb1 (Nat.le_refl _)
            have hoq := hoq.below hb1 (Nat.le_refl _)
            have hob := hob.below hb1 (Nat.le_refl _)
            have hr := hr.to hb1
            have hb := hb.trans (hb1.mono hb.size)
            clear hb1
            go_at_call 20; refine (impl_IsAllowed_any _ _ _ _ _ _ _ _ _ _ _ _ _ _ _ _ _ _ hr hn (he0.below hb) wfp).mono ?_; rw [HB.out, Bool.true_and, HA6.out]; rintro e v10 ⟨rfl, hb1⟩
            have k0 := k0.below hb1 k0.lt
            have ku := ku.below hb1 ku.lt
            have kg := kg.below hb1 kg.lt
            have kb := kb.below hb1 kb.lt
            have hou := hou.below hb1 (Nat.le_refl _)
            have hoq := hoq.below hb1 (Nat.le_refl _)
            have hob := hob.below hb1 (Nat.le_refl _)
            have hr := hr.to hb1
            have hb := hb.trans (hb1.mono hb.size)
            clear hb1
            have l0 := kg.cell 0; have l1 := kg.cell 1; have l2 := kg.cell 2; have l3 := kg.cell 3; have lt := kg.lt
            go_wp2_with fail
            clear l0 l1 l2 l3 lt
            obtain ⟨q1, hq1⟩ : ∃ z, (if roomB r2.ms r2.vs r2.bs = true then roleAt r2.ms t else 0) = z := ⟨_, rfl⟩
            obtain ⟨q2, hq2⟩ : ∃ z, (roomB r2.ms r2.vs r2.bs && decide (t ∈ mids r2.ms)) = z := ⟨_, rfl⟩
            have Q1 := Lib.hid hq1
            have Q2 := Lib.hid hq2
            clear hq1 hq2
            go_at_call 12; refine (impl_RoleOf_any _ _ _ _ _ _ _ _ _ _ _ _ _ _ _ _ hoq.at_ nhoq (he0.below hb) wft).mono ?_; rw [Q1.out, Q2.out]; rintro e v11 ⟨rfl, hb1⟩
            have k0 := k0.below hb1 k0.lt
            have ku := ku.below hb1 ku.lt
            have kg := kg.below hb1 kg.lt
            have kb := kb.below hb1 kb.lt
            have hou := hou.below hb1 (Nat.le_refl _)
            have hoq := hoq.below hb1 (Nat.le_refl _)
            have hob := hob.below hb1 (Nat.le_refl _)
            have hr := hr.to hb1
            have hb := hb.trans (hb1.mono hb.size)
            clear hb1
            go_wp2
            go_ret
            exact ⟨rfl, hb⟩
          | true =>
            have ok1 : r1.ok = false := by rw [← H1.out, mute_ok' HV.out tid tl5, HTOP.out, HMT.out]; rfl
            have ok2 : r2.ok = false := by rw [← H2.out, (role_ok' HV.out tid rlb).1, HTOP.out, HMT.out]; rfl
            have E3 := Lib.hid (show r3 = bannedR o ms vs bs t (at_ + 5) by rw [← H3.out, ban_eq HV.out HF.out.2.2 tid tl5 (by omega), HTOP.out, HA6.out]; rfl)
            have ok3 : r3.ok = true := by rw [E3.out]; rfl
            have l0 := k0.cell 0; have l1 := k0.cell 1; have l2 := k0.cell 2; have l3 := k0.cell 3; have lt := k0.lt
            go_wp2_with fail
            clear l0 l1 l2 l3 lt
            go_at_call 17; refine (impl_MuteMember_any _ _ _ _ _ _ _ _ _ _ _ _ _ _ _ _ _ _ hr hn (he0.below hb) (hR0.below hb) wfp wft).mono ?_; rw [H1.out]; rintro e v4 ⟨U1, Un1, Uc1, U2, Un2, Uc2, U3, Un3, Uc3, rfl, hou, hb1, nhou⟩
            have k0 := k0.below hb1 k0.lt
            have hr := hr.to hb1
            have hb := hb.trans (hb1.mono hb.size)
            clear hb1
            have l0 := k0.cell 0; have l1 := k0.cell 1; have l2 := k0.cell 2; have l3 := k0.cell 3; have lt := k0.lt
            go_wp2_with fail
            clear l0 l1 l2 l3 lt
            obtain ⟨ku, hb1⟩ := one_box v4 28 #[.bool r1.o, .slice U1 Un1 Uc1, .slice U2 Un2 Uc2, .slice U3 Un3 Uc3]
            generalize v4.alloc (.cells #[.bool r1.o, .slice U1 Un1 Uc1, .slice U2 Un2 Uc2, .slice U3 Un3 Uc3] 28) = v5 at *
            have k0 := k0.below hb1 k0.lt
            have hou := hou.below hb1 (Nat.le_refl _)
            have hr := hr.to hb1
            have hb := hb.trans (hb1.mono hb.size)
            clear hb1
            go_at_call 18; refine (impl_GiveRole_any _ _ _ _ _ _ _ _ _ _ _ _ _ _ _ _ _ _ hr hn (he0.below hb) (hR0.below hb) wfp wft).mono ?_; rw [H2.out]; rintro e v6 ⟨Q1, Qn1, Qc1, Q2, Qn2, Qc2, Q3, Qn3, Qc3, rfl, hoq, hb1, nhoq⟩
            have k0 := k0.below hb1 k0.lt
            have ku := ku.below hb1 ku.lt
            have hou := hou.below hb1 (Nat.le_refl _)
            have hr := hr.to hb1
            have hb := hb.trans (hb1.mono hb.size)
            clear hb1
            have l0 := k0.cell 0; have l1 := k0.cell 1; have l2 := k0.cell 2; have l3 := k0.cell 3; have lt := k0.lt
            go_wp2_with fail
            clear l0 l1 l2 l3 lt
            obtain ⟨kg, hb1⟩ := one_box v6 28 #[.bool r2.o, .slice Q1 Qn1 Qc1, .slice Q2 Qn2 Qc2, .slice Q3 Qn3 Qc3]
            generalize v6.alloc (.cells #[.bool r2.o, .slice Q1 Qn1 Qc1, .slice Q2 Qn2 Qc2, .slice Q3 Qn3 Qc3] 28) = v7 at *
            have k0 := k0.below hb1 k0.lt
            have ku := ku.below hb1 ku.lt
            have hou := hou.below hb1 (Nat.le_refl _)
            have hoq := hoq.below hb1 (Nat.le_refl _)
            have hr := hr.to hb1
            have hb := hb.trans (hb1.mono hb.size)
            clear hb1
            go_at_call 19; refine (impl_BanMember_any _ _ _ _ _ _ _ _ _ _ _ _ _ _ _ _ _ _ hr hn (he0.below hb) (hR0.below hb) wfp wft).mono ?_; rw [H3.out]; rintro e v8 ⟨B1, Bn1, Bc1, B2, Bn2, Bc2, B3, Bn3, Bc3, rfl, hob, hb1, nhob⟩
            have k0 := k0.below hb1 k0.lt
            have ku := ku.below hb1 ku.lt
            have kg := kg.below hb1 kg.lt
            have hou := hou.below hb1 (Nat.le_refl _)
            have hoq := hoq.below hb1 (Nat.le_refl _)
            have hr := hr.to hb1
            have hb := hb.trans (hb1.mono hb.size)
            clear hb1
            have l0 := k0.cell 0; have l1 := k0.cell 1; have l2 := k0.cell 2; have l3 := k0.cell 3; have lt := k0.lt
            go_wp2_with fail
            clear l0 l1 l2 l3 lt
            obtain ⟨kb, hb1⟩ := one_box v8 28 #[.bool r3.o, .slice B1 Bn1 Bc1, .slice B2 Bn2 Bc2, .slice B3 Bn3 Bc3]
            generalize v8.alloc (.cells #[.bool r3.o, .slice B1 Bn1 Bc1, .slice B2 Bn2 Bc2, .slice B3 Bn3 Bc3] 28) = v9 at *
            have k0 := k0.below hb1 k0.lt
            have ku := ku.below hb1 ku.lt
            have kg := kg.below hb1 kg.lt
            have hou := hou.below hb1 (Nat.le_refl _)
            have hoq := hoq.below hb1 (Nat.le_refl _)
            have hob := hob.below hb1 (Nat.le_refl _)
            have hr := hr.to hb1
            have hb := hb.trans (hb1.mono hb.size)
            clear hb1
            go_at_call 20; refine (impl_IsAllowed_any _ _ _ _ _ _ _ _ _ _ _ _ _ _ _ _ _ _ hr hn (he0.below hb) wfp).mono ?_; rw [HB.out, Bool.true_and, HA6.out]; rintro e v10 ⟨rfl, hb1⟩
            have k0 := k0.below hb1 k0.lt
            have ku := ku.below hb1 ku.lt
            have kg := kg.below hb1 kg.lt
            have kb := kb.below hb1 kb.lt
            have hou := hou.below hb1 (Nat.le_refl _)
            have hoq := hoq.below hb1 (Nat.le_refl _)
            have hob := hob.below hb1 (Nat.le_refl _)
            have hr := hr.to hb1
            have hb := hb.trans (hb1.mono hb.size)
            clear hb1
            have l0 := kg.cell 0; have l1 := kg.cell 1; have l2 := kg.cell 2; have l3 := kg.cell 3; have lt := kg.lt
            go_wp2_with fail
            clear l0 l1 l2 l3 lt
            obtain ⟨q1, hq1⟩ : ∃ z, (if roomB r2.ms r2.vs r2.bs = true then roleAt r2.ms t else 0) = z := ⟨_, rfl⟩
            obtain ⟨q2, hq2⟩ : ∃ z, (roomB r2.ms r2.vs r2.bs && decide (t ∈ mids r2.ms)) = z := ⟨_, rfl⟩
            have Q1 := Lib.hid hq1
            have Q2 := Lib.hid hq2
            clear hq1 hq2
            go_at_call 12; refine (impl_RoleOf_any _ _ _ _ _ _ _ _ _ _ _ _ _ _ _ _ hoq.at_ nhoq (he0.below hb) wft).mono ?_; rw [Q1.out, Q2.out]; rintro e v11 ⟨rfl, hb1⟩
            have k0 := k0.below hb1 k0.lt
            have ku := ku.below hb1 ku.lt
            have kg := kg.below hb1 kg.lt
            have kb := kb.below hb1 kb.lt
            have hou := hou.below hb1 (Nat.le_refl _)
            have hoq := hoq.below hb1 (Nat.le_refl _)
            have hob := hob.below hb1 (Nat.le_refl _)
            have hr := hr.to hb1
            have hb := hb.trans (hb1.mono hb.size)
            clear hb1
            have HBV := Lib.hid (show RoomV r3.ms r3.vs r3.bs by rw [E3.out]; exact ban_valid HV.out HF.out.2.2 tid tl5 HTOP.out)
            have HBI := Lib.hid (show t ∈ bids r3.bs by rw [E3.out]; exact bids_put.2 (.inl rfl))
            have HBM := Lib.hid (show ¬ t ∈ mids r3.ms by rw [E3.out]; exact fun hc => (mids_drop.1 hc).2 rfl)
            have HBX := Lib.hid (show ¬ t ∈ iids r3.vs by rw [E3.out]; intro hc; obtain ⟨y, hy, e⟩ := List.mem_map.1 hc; exact (drop_mem.1 hy).2 e)
            have HBT := Lib.hid (show topB r3.ms p t = true by rw [E3.out]; exact top_drop HTOP.out)
            have HBA := Lib.hid (show allowB r3.ms p 6 at_ = true by rw [E3.out]; exact (allow_drop (top_facts HTOP.out).2.1).trans HA6.out)
            have HBL := Lib.hid (show r3.ms.length < 32 by rw [E3.out]; exact Nat.lt_of_le_of_lt drop_len (by have := HF.out.1; omega))
            have HBO := Lib.hid (show r3.o = o by rw [E3.out]; rfl)
            obtain ⟨r4, hr4⟩ : ∃ z, joinS r3.o r3.ms r3.vs r3.bs t (at_ + 9) = z := ⟨_, rfl⟩
            have Jr4 := Lib.hid hr4
            clear hr4
            obtain ⟨r5, hr5⟩ : ∃ z, liftS r3.o r3.ms r3.vs r3.bs p t at_ = z := ⟨_, rfl⟩
            have Jr5 := Lib.hid hr5
            clear hr5
            have ok4 : r4.ok = false := by rw [← Jr4.out]; exact join_banned HBI.out
            have E5 := Lib.hid (show r5 = ⟨r3.o, r3.ms, r3.vs, dropK Bn.id t r3.bs, true⟩ by rw [← Jr5.out]; exact lift_eq HBV.out tid HBT.out HBA.out HBI.out)
            have ok5 : r5.ok = true := by rw [E5.out]
            obtain ⟨r6, hr6⟩ : ∃ z, joinS r5.o r5.ms r5.vs r5.bs t at_ = z := ⟨_, rfl⟩
            have Jr6 := Lib.hid hr6
            clear hr6
            have ok6 : r6.ok = o := by rw [← Jr6.out, E5.out]; exact (back_eq HBV.out HBL.out tid tat HBM.out HBX.out).trans HBO.out
            obtain ⟨r7, hr7⟩ : ∃ z, inviteS r3.o r3.ms r3.vs r3.bs p t at_ at_ = z := ⟨_, rfl⟩
            have Jr7 := Lib.hid hr7
            clear hr7
            have ok7 : r7.ok = false := by rw [← Jr7.out]; exact inv_banned HBV.out HBI.out
            have l0 := kb.cell 0; have l1 := kb.cell 1; have l2 := kb.cell 2; have l3 := kb.cell 3; have lt := kb.lt
            go_wp2_with fail
            clear l0 l1 l2 l3 lt
            go_at_call 11; refine (impl_JoinRoom_any _ _ _ _ _ _ _ _ _ _ _ _ _ _ _ _ hob.at_ nhob (he0.below hb) (hR0.below hb) wft).mono ?_; rw [Jr4.out]; rintro e v12 ⟨J1, Jn1, Jc1, J2, Jn2, Jc2, J3, Jn3, Jc3, rfl, hoj, hb1, nhoj⟩
            have k0 := k0.below hb1 k0.lt
            have ku := ku.below hb1 ku.lt
            have kg := kg.below hb1 kg.lt
            have kb := kb.below hb1 kb.lt
            have hou := hou.below hb1 (Nat.le_refl _)
            have hoq := hoq.below hb1 (Nat.le_refl _)
            have hob := hob.below hb1 (Nat.le_refl _)
            have hr := hr.to hb1
            have hb := hb.trans (hb1.mono hb.size)
            clear hb1
            have l0 := kb.cell 0; have l1 := kb.cell 1; have l2 := kb.cell 2; have l3 := kb.cell 3; have lt := kb.lt
            go_wp2_with fail
            clear l0 l1 l2 l3 lt
            obtain ⟨kj, hb1⟩ := one_box v12 28 #[.bool r4.o, .slice J1 Jn1 Jc1, .slice J2 Jn2 Jc2, .slice J3 Jn3 Jc3]
            generalize v12.alloc (.cells #[.bool r4.o, .slice J1 Jn1 Jc1, .slice J2 Jn2 Jc2, .slice J3 Jn3 Jc3] 28) = v13 at *
            have k0 := k0.below hb1 k0.lt
            have ku := ku.below hb1 ku.lt
            have kg := kg.below hb1 kg.lt
            have kb := kb.below hb1 kb.lt
            have hou := hou.below hb1 (Nat.le_refl _)
            have hoq := hoq.below hb1 (Nat.le_refl _)
            have hob := hob.below hb1 (Nat.le_refl _)
            have hoj := hoj.below hb1 (Nat.le_refl _)
            have hr := hr.to hb1
            have hb := hb.trans (hb1.mono hb.size)
            clear hb1
            go_at_call 12; refine (impl_RoleOf_any _ _ _ _ _ _ _ _ _ _ _ _ _ _ _ _ hob.at_ nhob (he0.below hb) wft).mono ?_; rw [if_pos (roomB_iff.2 HBV.out), roomB_iff.2 HBV.out, Bool.true_and, decide_eq_false HBM.out]; rintro e v14 ⟨rfl, hb1⟩
            have k0 := k0.below hb1 k0.lt
            have ku := ku.below hb1 ku.lt
            have kg := kg.below hb1 kg.lt
            have kb := kb.below hb1 kb.lt
            have kj := kj.below hb1 kj.lt
            have hou := hou.below hb1 (Nat.le_refl _)
            have hoq := hoq.below hb1 (Nat.le_refl _)
            have hob := hob.below hb1 (Nat.le_refl _)
            have hoj := hoj.below hb1 (Nat.le_refl _)
            have hr := hr.to hb1
            have hb := hb.trans (hb1.mono hb.size)
            clear hb1
            have l0 := kb.cell 0; have l1 := kb.cell 1; have l2 := kb.cell 2; have l3 := kb.cell 3; have lt := kb.lt
            go_wp2_with fail
            clear l0 l1 l2 l3 lt
            go_at_call 21; refine (impl_LiftBan_any _ _ _ _ _ _ _ _ _ _ _ _ _ _ _ _ _ hob.at_ nhob (he0.below hb) (hR0.below hb) wfp wft).mono ?_; rw [Jr5.out]; rintro e v15 ⟨L1, Ln1, Lc1, L2, Ln2, Lc2, L3, Ln3, Lc3, rfl, hol, hb1, nhol⟩
            have k0 := k0.below hb1 k0.lt
            have ku := ku.below hb1 ku.lt
            have kg := kg.below hb1 kg.lt
            have kb := kb.below hb1 kb.lt
            have kj := kj.below hb1 kj.lt
            have hou := hou.below hb1 (Nat.le_refl _)
            have hoq := hoq.below hb1 (Nat.le_refl _)
            have hob := hob.below hb1 (Nat.le_refl _)
            have hoj := hoj.below hb1 (Nat.le_refl _)
            have hr := hr.to hb1
            have hb := hb.trans (hb1.mono hb.size)
            clear hb1
            go_wp2_with fail
            obtain ⟨kl, hb1⟩ := one_box v15 28 #[.bool r5.o, .slice L1 Ln1 Lc1, .slice L2 Ln2 Lc2, .slice L3 Ln3 Lc3]
            generalize v15.alloc (.cells #[.bool r5.o, .slice L1 Ln1 Lc1, .slice L2 Ln2 Lc2, .slice L3 Ln3 Lc3] 28) = v16 at *
            have k0 := k0.below hb1 k0.lt
            have ku := ku.below hb1 ku.lt
            have kg := kg.below hb1 kg.lt
            have kb := kb.below hb1 kb.lt
            have kj := kj.below hb1 kj.lt
            have hou := hou.below hb1 (Nat.le_refl _)
            have hoq := hoq.below hb1 (Nat.le_refl _)
            have hob := hob.below hb1 (Nat.le_refl _)
            have hoj := hoj.below hb1 (Nat.le_refl _)
            have hol := hol.below hb1 (Nat.le_refl _)
            have hr := hr.to hb1
            have hb := hb.trans (hb1.mono hb.size)
            clear hb1
            go_at_call 11; refine (impl_JoinRoom_any _ _ _ _ _ _ _ _ _ _ _ _ _ _ _ _ hol.at_ nhol (he0.below hb) (hR0.below hb) wft).mono ?_; rw [Jr6.out]; rintro e v17 ⟨K1, Kn1, Kc1, K2, Kn2, Kc2, K3, Kn3, Kc3, rfl, hok, hb1, nhok⟩
            have k0 := k0.below hb1 k0.lt
            have ku := ku.below hb1 ku.lt
            have kg := kg.below hb1 kg.lt
            have kb := kb.below hb1 kb.lt
            have kj := kj.below hb1 kj.lt
            have kl := kl.below hb1 kl.lt
            have hou := hou.below hb1 (Nat.le_refl _)
            have hoq := hoq.below hb1 (Nat.le_refl _)
            have hob := hob.below hb1 (Nat.le_refl _)
            have hoj := hoj.below hb1 (Nat.le_refl _)
            have hol := hol.below hb1 (Nat.le_refl _)
            have hr := hr.to hb1
            have hb := hb.trans (hb1.mono hb.size)
            clear hb1
            have l0 := kb.cell 0; have l1 := kb.cell 1; have l2 := kb.cell 2; have l3 := kb.cell 3; have lt := kb.lt
            go_wp2_with fail
            clear l0 l1 l2 l3 lt
            obtain ⟨kk, hb1⟩ := one_box v17 28 #[.bool r6.o, .slice K1 Kn1 Kc1, .slice K2 Kn2 Kc2, .slice K3 Kn3 Kc3]
            generalize v17.alloc (.cells #[.bool r6.o, .slice K1 Kn1 Kc1, .slice K2 Kn2 Kc2, .slice K3 Kn3 Kc3] 28) = v18 at *
            have k0 := k0.below hb1 k0.lt
            have ku := ku.below hb1 ku.lt
            have kg := kg.below hb1 kg.lt
            have kb := kb.below hb1 kb.lt
            have kj := kj.below hb1 kj.lt
            have kl := kl.below hb1 kl.lt
            have hou := hou.below hb1 (Nat.le_refl _)
            have hoq := hoq.below hb1 (Nat.le_refl _)
            have hob := hob.below hb1 (Nat.le_refl _)
            have hoj := hoj.below hb1 (Nat.le_refl _)
            have hol := hol.below hb1 (Nat.le_refl _)
            have hok := hok.below hb1 (Nat.le_refl _)
            have hr := hr.to hb1
            have hb := hb.trans (hb1.mono hb.size)
            clear hb1
            go_at_call 22; refine (impl_InviteTo_any _ _ _ _ _ _ _ _ _ _ _ _ _ _ _ _ _ _ hob.at_ nhob (he0.below hb) (hR0.below hb) wfp wft).mono ?_; rw [Jr7.out]; rintro e v19 ⟨I1, In1, Ic1, I2, In2, Ic2, I3, In3, Ic3, rfl, hoi, hb1, nhoi⟩
            have k0 := k0.below hb1 k0.lt
            have ku := ku.below hb1 ku.lt
            have kg := kg.below hb1 kg.lt
            have kb := kb.below hb1 kb.lt
            have kj := kj.below hb1 kj.lt
            have kl := kl.below hb1 kl.lt
            have kk := kk.below hb1 kk.lt
            have hou := hou.below hb1 (Nat.le_refl _)
            have hoq := hoq.below hb1 (Nat.le_refl _)
            have hob := hob.below hb1 (Nat.le_refl _)
            have hoj := hoj.below hb1 (Nat.le_refl _)
            have hol := hol.below hb1 (Nat.le_refl _)
            have hok := hok.below hb1 (Nat.le_refl _)
            have hr := hr.to hb1
            have hb := hb.trans (hb1.mono hb.size)
            clear hb1
            have l0 := kb.cell 0; have l1 := kb.cell 1; have l2 := kb.cell 2; have l3 := kb.cell 3; have lt := kb.lt
            go_wp2_with fail
            clear l0 l1 l2 l3 lt
            obtain ⟨ki, hb1⟩ := one_box v19 28 #[.bool r7.o, .slice I1 In1 Ic1, .slice I2 In2 Ic2, .slice I3 In3 Ic3]
            generalize v19.alloc (.cells #[.bool r7.o, .slice I1 In1 Ic1, .slice I2 In2 Ic2, .slice I3 In3 Ic3] 28) = v20 at *
            have k0 := k0.below hb1 k0.lt
            have ku := ku.below hb1 ku.lt
            have kg := kg.below hb1 kg.lt
            have kb := kb.below hb1 kb.lt
            have kj := kj.below hb1 kj.lt
            have kl := kl.below hb1 kl.lt
            have kk := kk.below hb1 kk.lt
            have hou := hou.below hb1 (Nat.le_refl _)
            have hoq := hoq.below hb1 (Nat.le_refl _)
            have hob := hob.below hb1 (Nat.le_refl _)
            have hoj := hoj.below hb1 (Nat.le_refl _)
            have hol := hol.below hb1 (Nat.le_refl _)
            have hok := hok.below hb1 (Nat.le_refl _)
            have hoi := hoi.below hb1 (Nat.le_refl _)
            have hr := hr.to hb1
            have hb := hb.trans (hb1.mono hb.size)
            clear hb1
            go_at_call 14; refine (impl_ValidRoom_any _ _ _ _ _ _ _ _ _ _ _ _ _ _ hob.at_ nhob).mono ?_; rw [roomB_iff.2 HBV.out]; rintro e v21 ⟨rfl, hb1⟩
            have k0 := k0.below hb1 k0.lt
            have ku := ku.below hb1 ku.lt
            have kg := kg.below hb1 kg.lt
            have kb := kb.below hb1 kb.lt
            have kj := kj.below hb1 kj.lt
            have kl := kl.below hb1 kl.lt
            have kk := kk.below hb1 kk.lt
            have ki := ki.below hb1 ki.lt
            have hou := hou.below hb1 (Nat.le_refl _)
            have hoq := hoq.below hb1 (Nat.le_refl _)
            have hob := hob.below hb1 (Nat.le_refl _)
            have hoj := hoj.below hb1 (Nat.le_refl _)
            have hol := hol.below hb1 (Nat.le_refl _)
            have hok := hok.below hb1 (Nat.le_refl _)
            have hoi := hoi.below hb1 (Nat.le_refl _)
            have hr := hr.to hb1
            have hb := hb.trans (hb1.mono hb.size)
            clear hb1
            have l0 := k0.cell 0; have l1 := k0.cell 1; have l2 := k0.cell 2; have l3 := k0.cell 3; have lt := k0.lt
            go_wp2
            go_ret
            exact ⟨by simp, hb⟩
        | true =>
          cases hlt : decide (rt < rp) with
          | false =>
            have HTOP := Lib.hid (show topB ms p t = false by unfold topB; rw [HMP.out, decide_eq_false HNE.out, HMT.out, HRT.out, HRP.out, hlt]; rfl)
            have ok1 : r1.ok = false := by rw [← H1.out, mute_ok' HV.out tid tl5, HTOP.out]; rfl
            have ok2 : r2.ok = false := by rw [← H2.out, (role_ok' HV.out tid rlb).1, HTOP.out]; rfl
            have E3 := Lib.hid (show r3 = rNo by rw [← H3.out, ban_eq HV.out HF.out.2.2 tid tl5 (by omega), HTOP.out]; rfl)
            have ok3 : r3.ok = false := by rw [E3.out]; rfl
            have l0 := k0.cell 0; have l1 := k0.cell 1; have l2 := k0.cell 2; have l3 := k0.cell 3; have lt := k0.lt
            go_wp2_with fail
            clear l0 l1 l2 l3 lt
            go_at_call 17; refine (impl_MuteMember_any _ _ _ _ _ _ _ _ _ _ _ _ _ _ _ _ _ _ hr hn (he0.below hb) (hR0.below hb) wfp wft).mono ?_; rw [H1.out]; rintro e v4 ⟨U1, Un1, Uc1, U2, Un2, Uc2, U3, Un3, Uc3, rfl, hou, hb1, nhou⟩
            have k0 := k0.below hb1 k0.lt
            have hr := hr.to hb1
            have hb := hb.trans (hb1.mono hb.size)
            clear hb1
            have l0 := k0.cell 0; have l1 := k0.cell 1; have l2 := k0.cell 2; have l3 := k0.cell 3; have lt := k0.lt
            go_wp2_with fail
            clear l0 l1 l2 l3 lt
            obtain ⟨ku, hb1⟩ := one_box v4 28 #[.bool r1.o, .slice U1 Un1 Uc1, .slice U2 Un2 Uc2, .slice U3 Un3 Uc3]
            generalize v4.alloc (.cells #[.bool r1.o, .slice U1 Un1 Uc1, .slice U2 Un2 Uc2, .slice U3 Un3 Uc3] 28) = v5 at *
            have k0 := k0.below hb1 k0.lt
            have hou := hou.below hb1 (Nat.le_refl _)
            have hr := hr.to hb1
            have hb := hb.trans (hb1.mono hb.size)
            clear hb1
            go_at_call 18; refine (impl_GiveRole_any _ _ _ _ _ _ _ _ _ _ _ _ _ _ _ _ _ _ hr hn (he0.below hb) (hR0.below hb) wfp wft).mono ?_; rw [H2.out]; rintro e v6 ⟨Q1, Qn1, Qc1, Q2, Qn2, Qc2, Q3, Qn3, Qc3, rfl, hoq, hb1, nhoq⟩
            have k0 := k0.below hb1 k0.lt
            have ku := ku.below hb1 ku.lt
            have hou := hou.below hb1 (Nat.le_refl _)
            have hr := hr.to hb1
            have hb := hb.trans (hb1.mono hb.size)
            clear hb1
            have l0 := k0.cell 0; have l1 := k0.cell 1; have l2 := k0.cell 2; have l3 := k0.cell 3; have lt := k0.lt
            go_wp2_with fail
            clear l0 l1 l2 l3 lt
            obtain ⟨kg, hb1⟩ := one_box v6 28 #[.bool r2.o, .slice Q1 Qn1 Qc1, .slice Q2 Qn2 Qc2, .slice Q3 Qn3 Qc3]
            generalize v6.alloc (.cells #[.bool r2.o, .slice Q1 Qn1 Qc1, .slice Q2 Qn2 Qc2, .slice Q3 Qn3 Qc3] 28) = v7 at *
            have k0 := k0.below hb1 k0.lt
            have ku := ku.below hb1 ku.lt
            have hou := hou.below hb1 (Nat.le_refl _)
            have hoq := hoq.below hb1 (Nat.le_refl _)
            have hr := hr.to hb1
            have hb := hb.trans (hb1.mono hb.size)
            clear hb1
            go_at_call 19; refine (impl_BanMember_any _ _ _ _ _ _ _ _ _ _ _ _ _ _ _ _ _ _ hr hn (he0.below hb) (hR0.below hb) wfp wft).mono ?_; rw [H3.out]; rintro e v8 ⟨B1, Bn1, Bc1, B2, Bn2, Bc2, B3, Bn3, Bc3, rfl, hob, hb1, nhob⟩
            have k0 := k0.below hb1 k0.lt
            have ku := ku.below hb1 ku.lt
            have kg := kg.below hb1 kg.lt
            have hou := hou.below hb1 (Nat.le_refl _)
            have hoq := hoq.below hb1 (Nat.le_refl _)
            have hr := hr.to hb1
            have hb := hb.trans (hb1.mono hb.size)
            clear hb1
            have l0 := kg.cell 0; have l1 := kg.cell 1; have l2 := kg.cell 2; have l3 := kg.cell 3; have lt := kg.lt
            go_wp2_with fail
            clear l0 l1 l2 l3 lt
            obtain ⟨kb, hb1⟩ := one_box v8 28 #[.bool r3.o, .slice B1 Bn1 Bc1, .slice B2 Bn2 Bc2, .slice B3 Bn3 Bc3]
            generalize v8.alloc (.cells #[.bool r3.o, .slice B1 Bn1 Bc1, .slice B2 Bn2 Bc2, .slice B3 Bn3 Bc3] 28) = v9 at *
            have k0 := k0.below hb1 k0.lt
            have ku := ku.below hb1 ku.lt
            have kg := kg.below hb1 kg.lt
            have hou := hou.below hb1 (Nat.le_refl _)
            have hoq := hoq.below hb1 (Nat.le_refl _)
            have hob := hob.below hb1 (Nat.le_refl _)
            have hr := hr.to hb1
            have hb := hb.trans (hb1.mono hb.size)
            clear hb1
            obtain ⟨q1, hq1⟩ : ∃ z, (if roomB r2.ms r2.vs r2.bs = true then roleAt r2.ms t else 0) = z := ⟨_, rfl⟩
            obtain ⟨q2, hq2⟩ : ∃ z, (roomB r2.ms r2.vs r2.bs && decide (t ∈ mids r2.ms)) = z := ⟨_, rfl⟩
            have Q1 := Lib.hid hq1
            have Q2 := Lib.hid hq2
            clear hq1 hq2
            go_at_call 12; refine (impl_RoleOf_any _ _ _ _ _ _ _ _ _ _ _ _ _ _ _ _ hoq.at_ nhoq (he0.below hb) wft).mono ?_; rw [Q1.out, Q2.out]; rintro e v10 ⟨rfl, hb1⟩
            have k0 := k0.below hb1 k0.lt
            have ku := ku.below hb1 ku.lt
            have kg := kg.below hb1 kg.lt
            have kb := kb.below hb1 kb.lt
            have hou := hou.below hb1 (Nat.le_refl _)
            have hoq := hoq.below hb1 (Nat.le_refl _)
            have hob := hob.below hb1 (Nat.le_refl _)
            have hr := hr.to hb1
            have hb := hb.trans (hb1.mono hb.size)
            clear hb1
            go_wp2
            go_ret
            exact ⟨rfl, hb⟩
          | true =>
            have HTOP := Lib.hid (show topB ms p t = true by unfold topB; rw [HMP.out, decide_eq_false HNE.out, HMT.out, HRT.out, HRP.out, hlt]; rfl)
            cases x4 with
            | false =>
              have e7 : x7 = false := HA7.out.symm.trans (allow74 HA4.out)
              subst e7
              have ok1 : r1.ok = false := by rw [← H1.out, mute_ok' HV.out tid tl5, HTOP.out, HMT.out, HA4.out]; rfl
              have ok2 : r2.ok = false := by rw [← H2.out, (role_ok' HV.out tid rlb).1, HTOP.out, HMT.out, HA7.out]; rfl
              have E3 := Lib.hid (show r3 = rNo by rw [← H3.out, ban_eq HV.out HF.out.2.2 tid tl5 (by omega), HTOP.out, HA6.out]; rfl)
              have ok3 : r3.ok = false := by rw [E3.out]; rfl
              have l0 := k0.cell 0; have l1 := k0.cell 1; have l2 := k0.cell 2; have l3 := k0.cell 3; have lt := k0.lt
              go_wp2_with fail
              clear l0 l1 l2 l3 lt
              go_at_call 17; refine (impl_MuteMember_any _ _ _ _ _ _ _ _ _ _ _ _ _ _ _ _ _ _ hr hn (he0.below hb) (hR0.below hb) wfp wft).mono ?_; rw [H1.out]; rintro e v4 ⟨U1, Un1, Uc1, U2, Un2, Uc2, U3, Un3, Uc3, rfl, hou, hb1, nhou⟩
              have k0 := k0.below hb1 k0.lt
              have hr := hr.to hb1
              have hb := hb.trans (hb1.mono hb.size)
              clear hb1
              have l0 := k0.cell 0; have l1 := k0.cell 1; have l2 := k0.cell 2; have l3 := k0.cell 3; have lt := k0.lt
              go_wp2_with fail
              clear l0 l1 l2 l3 lt
              obtain ⟨ku, hb1⟩ := one_box v4 28 #[.bool r1.o, .slice U1 Un1 Uc1, .slice U2 Un2 Uc2, .slice U3 Un3 Uc3]
              generalize v4.alloc (.cells #[.bool r1.o, .slice U1 Un1 Uc1, .slice U2 Un2 Uc2, .slice U3 Un3 Uc3] 28) = v5 at *
              have k0 := k0.below hb1 k0.lt
              have hou := hou.below hb1 (Nat.le_refl _)
              have hr := hr.to hb1
              have hb := hb.trans (hb1.mono hb.size)
              clear hb1
              go_at_call 18; refine (impl_GiveRole_any _ _ _ _ _ _ _ _ _ _ _ _ _ _ _ _ _ _ hr hn (he0.below hb) (hR0.below hb) wfp wft).mono ?_; rw [H2.out]; rintro e v6 ⟨Q1, Qn1, Qc1, Q2, Qn2, Qc2, Q3, Qn3, Qc3, rfl, hoq, hb1, nhoq⟩
              have k0 := k0.below hb1 k0.lt
              have ku := ku.below hb1 ku.lt
              have hou := hou.below hb1 (Nat.le_refl _)
              have hr := hr.to hb1
              have hb := hb.trans (hb1.mono hb.size)
              clear hb1
              have l0 := k0.cell 0; have l1 := k0.cell 1; have l2 := k0.cell 2; have l3 := k0.cell 3; have lt := k0.lt
              go_wp2_with fail
              clear l0 l1 l2 l3 lt
              obtain ⟨kg, hb1⟩ := one_box v6 28 #[.bool r2.o, .slice Q1 Qn1 Qc1, .slice Q2 Qn2 Qc2, .slice Q3 Qn3 Qc3]
              generalize v6.alloc (.cells #[.bool r2.o, .slice Q1 Qn1 Qc1, .slice Q2 Qn2 Qc2, .slice Q3 Qn3 Qc3] 28) = v7 at *
              have k0 := k0.below hb1 k0.lt
              have ku := ku.below hb1 ku.lt
              have hou := hou.below hb1 (Nat.le_refl _)
              have hoq := hoq.below hb1 (Nat.le_refl _)
              have hr := hr.to hb1
              have hb := hb.trans (hb1.mono hb.size)
              clear hb1
              go_at_call 19; refine (impl_BanMember_any _ _ _ _ _ _ _ _ _ _ _ _ _ _ _ _ _ _ hr hn (he0.below hb) (hR0.below hb) wfp wft).mono ?_; rw [H3.out]; rintro e v8 ⟨B1, Bn1, Bc1, B2, Bn2, Bc2, B3, Bn3, Bc3, rfl, hob, hb1, nhob⟩
              have k0 := k0.below hb1 k0.lt
              have ku := ku.below hb1 ku.lt
              have kg := kg.below hb1 kg.lt
              have hou := hou.below hb1 (Nat.le_refl _)
              have hoq := hoq.below hb1 (Nat.le_refl _)
              have hr := hr.to hb1
              have hb := hb.trans (hb1.mono hb.size)
              clear hb1
              have l0 := k0.cell 0; have l1 := k0.cell 1; have l2 := k0.cell 2; have l3 := k0.cell 3; have lt := k0.lt
              go_wp2_with fail
              clear l0 l1 l2 l3 lt
              obtain ⟨kb, hb1⟩ := one_box v8 28 #[.bool r3.o, .slice B1 Bn1 Bc1, .slice B2 Bn2 Bc2, .slice B3 Bn3 Bc3]
              generalize v8.alloc (.cells #[.bool r3.o, .slice B1 Bn1 Bc1, .slice B2 Bn2 Bc2, .slice B3 Bn3 Bc3] 28) = v9 at *
              have k0 := k0.below hb1 k0.lt
              have ku := ku.below hb1 ku.lt
              have kg := kg.below hb1 kg.lt
              have hou := hou.below hb1 (Nat.le_refl _)
              have hoq := hoq.below hb1 (Nat.le_refl _)
              have hob := hob.below hb1 (Nat.le_refl _)
              have hr := hr.to hb1
              have hb := hb.trans (hb1.mono hb.size)
              clear hb1
              go_at_call 20; refine (impl_IsAllowed_any _ _ _ _ _ _ _ _ _ _ _ _ _ _ _ _ _ _ hr hn (he0.below hb) wfp).mono ?_; rw [HB.out, Bool.true_and, HA4.out]; rintro e v10 ⟨rfl, hb1⟩
              have k0 := k0.below hb1 k0.lt
              have ku := ku.below hb1 ku.lt
              have kg := kg.below hb1 kg.lt
              have kb := kb.below hb1 kb.lt
              have hou := hou.below hb1 (Nat.le_refl _)
              have hoq := hoq.below hb1 (Nat.le_refl _)
              have hob := hob.below hb1 (Nat.le_refl _)
              have hr := hr.to hb1
              have hb := hb.trans (hb1.mono hb.size)
              clear hb1
              have l0 := k0.cell 0; have l1 := k0.cell 1; have l2 := k0.cell 2; have l3 := k0.cell 3; have lt := k0.lt
              go_wp2_with fail
              clear l0 l1 l2 l3 lt
              go_at_call 20; refine (impl_IsAllowed_any _ _ _ _ _ _ _ _ _ _ _ _ _ _ _ _ _ _ hr hn (he0.below hb) wfp).mono ?_; rw [HB.out, Bool.true_and, HA7.out]; rintro e v11 ⟨rfl, hb1⟩
              have k0 := k0.below hb1 k0.lt
              have ku := ku.below hb1 ku.lt
              have kg := kg.below hb1 kg.lt
              have kb := kb.below hb1 kb.lt
              have hou := hou.below hb1 (Nat.le_refl _)
              have hoq := hoq.below hb1 (Nat.le_refl _)
              have hob := hob.below hb1 (Nat.le_refl _)
              have hr := hr.to hb1
              have hb := hb.trans (hb1.mono hb.size)
              clear hb1
              have l0 := k0.cell 0; have l1 := k0.cell 1; have l2 := k0.cell 2; have l3 := k0.cell 3; have lt := k0.lt
              go_wp2_with fail
              clear l0 l1 l2 l3 lt
              go_at_call 20; refine (impl_IsAllowed_any _ _ _ _ _ _ _ _ _ _ _ _ _ _ _ _ _ _ hr hn (he0.below hb) wfp).mono ?_; rw [HB.out, Bool.true_and, HA6.out]; rintro e v12 ⟨rfl, hb1⟩
              have k0 := k0.below hb1 k0.lt
              have ku := ku.below hb1 ku.lt
              have kg := kg.below hb1 kg.lt
              have kb := kb.below hb1 kb.lt
              have hou := hou.below hb1 (Nat.le_refl _)
              have hoq := hoq.below hb1 (Nat.le_refl _)
              have hob := hob.below hb1 (Nat.le_refl _)
              have hr := hr.to hb1
              have hb := hb.trans (hb1.mono hb.size)
              clear hb1
              have l0 := kg.cell 0; have l1 := kg.cell 1; have l2 := kg.cell 2; have l3 := kg.cell 3; have lt := kg.lt
              go_wp2_with fail
              clear l0 l1 l2 l3 lt
              obtain ⟨q1, hq1⟩ : ∃ z, (if roomB r2.ms r2.vs r2.bs = true then roleAt r2.ms t else 0) = z := ⟨_, rfl⟩
              obtain ⟨q2, hq2⟩ : ∃ z, (roomB r2.ms r2.vs r2.bs && decide (t ∈ mids r2.ms)) = z := ⟨_, rfl⟩
              have Q1 := Lib.hid hq1
              have Q2 := Lib.hid hq2
              clear hq1 hq2
              go_at_call 12; refine (impl_RoleOf_any _ _ _ _ _ _ _ _ _ _ _ _ _ _ _ _ hoq.at_ nhoq (he0.below hb) wft).mono ?_; rw [Q1.out, Q2.out]; rintro e v13 ⟨rfl, hb1⟩
              have k0 := k0.below hb1 k0.lt
              have ku := ku.below hb1 ku.lt
              have kg := kg.below hb1 kg.lt
              have kb := kb.below hb1 kb.lt
              have hou := hou.below hb1 (Nat.le_refl _)
              have hoq := hoq.below hb1 (Nat.le_refl _)
              have hob := hob.below hb1 (Nat.le_refl _)
              have hr := hr.to hb1
              have hb := hb.trans (hb1.mono hb.size)
              clear hb1
              go_wp2
              go_ret
              exact ⟨rfl, hb⟩
            | true =>
              cases x7 with
              | false =>
                have ok1 : r1.ok = true := by rw [← H1.out, mute_ok' HV.out tid tl5, HTOP.out, HMT.out, HA4.out]; rfl
                have ok2 : r2.ok = false := by rw [← H2.out, (role_ok' HV.out tid rlb).1, HTOP.out, HMT.out, HA7.out]; rfl
                have E3 := Lib.hid (show r3 = bannedR o ms vs bs t (at_ + 5) by rw [← H3.out, ban_eq HV.out HF.out.2.2 tid tl5 (by omega), HTOP.out, HA6.out]; rfl)
                have ok3 : r3.ok = true := by rw [E3.out]; rfl
                have l0 := k0.cell 0; have l1 := k0.cell 1; have l2 := k0.cell 2; have l3 := k0.cell 3; have lt := k0.lt
                go_wp2_with fail
                clear l0 l1 l2 l3 lt
                go_at_call 17; refine (impl_MuteMember_any _ _ _ _ _ _ _ _ _ _ _ _ _ _ _ _ _ _ hr hn (he0.below hb) (hR0.below hb) wfp wft).mono ?_; rw [H1.out]; rintro e v4 ⟨U1, Un1, Uc1, U2, Un2, Uc2, U3, Un3, Uc3, rfl, hou, hb1, nhou⟩
                have k0 := k0.below hb1 k0.lt
                have hr := hr.to hb1
                have hb := hb.trans (hb1.mono hb.size)
                clear hb1
                have l0 := k0.cell 0; have l1 := k0.cell 1; have l2 := k0.cell 2; have l3 := k0.cell 3; have lt := k0.lt
                go_wp2_with fail
                clear l0 l1 l2 l3 lt
                obtain ⟨ku, hb1⟩ := one_box v4 28 #[.bool r1.o, .slice U1 Un1 Uc1, .slice U2 Un2 Uc2, .slice U3 Un3 Uc3]
                generalize v4.alloc (.cells #[.bool r1.o, .slice U1 Un1 Uc1, .slice U2 Un2 Uc2, .slice U3 Un3 Uc3] 28) = v5 at *
                have k0 := k0.below hb1 k0.lt
                have hou := hou.below hb1 (Nat.le_refl _)
                have hr := hr.to hb1
                have hb := hb.trans (hb1.mono hb.size)
                clear hb1
                go_at_call 18; refine (impl_GiveRole_any _ _ _ _ _ _ _ _ _ _ _ _ _ _ _ _ _ _ hr hn (he0.below hb) (hR0.below hb) wfp wft).mono ?_; rw [H2.out]; rintro e v6 ⟨Q1, Qn1, Qc1, Q2, Qn2, Qc2, Q3, Qn3, Qc3, rfl, hoq, hb1, nhoq⟩
                have k0 := k0.below hb1 k0.lt
                have ku := ku.below hb1 ku.lt
                have hou := hou.below hb1 (Nat.le_refl _)
                have hr := hr.to hb1
                have hb := hb.trans (hb1.mono hb.size)
                clear hb1
                have l0 := k0.cell 0; have l1 := k0.cell 1; have l2 := k0.cell 2; have l3 := k0.cell 3; have lt := k0.lt
                go_wp2_with fail
                clear l0 l1 l2 l3 lt
                obtain ⟨kg, hb1⟩ := one_box v6 28 #[.bool r2.o, .slice Q1 Qn1 Qc1, .slice Q2 Qn2 Qc2, .slice Q3 Qn3 Qc3]
                generalize v6.alloc (.cells #[.bool r2.o, .slice Q1 Qn1 Qc1, .slice Q2 Qn2 Qc2, .slice Q3 Qn3 Qc3] 28) = v7 at *
                have k0 := k0.below hb1 k0.lt
                have ku := ku.below hb1 ku.lt
                have hou := hou.below hb1 (Nat.le_refl _)
                have hoq := hoq.below hb1 (Nat.le_refl _)
                have hr := hr.to hb1
                have hb := hb.trans (hb1.mono hb.size)
                clear hb1
                go_at_call 19; refine (impl_BanMember_any _ _ _ _ _ _ _ _ _ _ _ _ _ _ _ _ _ _ hr hn (he0.below hb) (hR0.below hb) wfp wft).mono ?_; rw [H3.out]; rintro e v8 ⟨B1, Bn1, Bc1, B2, Bn2, Bc2, B3, Bn3, Bc3, rfl, hob, hb1, nhob⟩
                have k0 := k0.below hb1 k0.lt
                have ku := ku.below hb1 ku.lt
                have kg := kg.below hb1 kg.lt
                have hou := hou.below hb1 (Nat.le_refl _)
                have hoq := hoq.below hb1 (Nat.le_refl _)
                have hr := hr.to hb1
                have hb := hb.trans (hb1.mono hb.size)
                clear hb1
                have l0 := k0.cell 0; have l1 := k0.cell 1; have l2 := k0.cell 2; have l3 := k0.cell 3; have lt := k0.lt
                go_wp2_with fail
                clear l0 l1 l2 l3 lt
                obtain ⟨kb, hb1⟩ := one_box v8 28 #[.bool r3.o, .slice B1 Bn1 Bc1, .slice B2 Bn2 Bc2, .slice B3 Bn3 Bc3]
                generalize v8.alloc (.cells #[.bool r3.o, .slice B1 Bn1 Bc1, .slice B2 Bn2 Bc2, .slice B3 Bn3 Bc3] 28) = v9 at *
                have k0 := k0.below hb1 k0.lt
                have ku := ku.below hb1 ku.lt
                have kg := kg.below hb1 kg.lt
                have hou := hou.below hb1 (Nat.le_refl _)
                have hoq := hoq.below hb1 (Nat.le_refl _)
                have hob := hob.below hb1 (Nat.le_refl _)
                have hr := hr.to hb1
                have hb := hb.trans (hb1.mono hb.size)
                clear hb1
                go_at_call 20; refine (impl_IsAllowed_any _ _ _ _ _ _ _ _ _ _ _ _ _ _ _ _ _ _ hr hn (he0.below hb) wfp).mono ?_; rw [HB.out, Bool.true_and, HA4.out]; rintro e v10 ⟨rfl, hb1⟩
                have k0 := k0.below hb1 k0.lt
                have ku := ku.below hb1 ku.lt
                have kg := kg.below hb1 kg.lt
                have kb := kb.below hb1 kb.lt
                have hou := hou.below hb1 (Nat.le_refl _)
                have hoq := hoq.below hb1 (Nat.le_refl _)
                have hob := hob.below hb1 (Nat.le_refl _)
                have hr := hr.to hb1
                have hb := hb.trans (hb1.mono hb.size)
                clear hb1
                have l0 := k0.cell 0; have l1 := k0.cell 1; have l2 := k0.cell 2; have l3 := k0.cell 3; have lt := k0.lt
                go_wp2_with fail
                clear l0 l1 l2 l3 lt
                go_at_call 20; refine (impl_IsAllowed_any _ _ _ _ _ _ _ _ _ _ _ _ _ _ _ _ _ _ hr hn (he0.below hb) wfp).mono ?_; rw [HB.out, Bool.true_and, HA7.out]; rintro e v11 ⟨rfl, hb1⟩
                have k0 := k0.below hb1 k0.lt
                have ku := ku.below hb1 ku.lt
                have kg := kg.below hb1 kg.lt
                have kb := kb.below hb1 kb.lt
                have hou := hou.below hb1 (Nat.le_refl _)
                have hoq := hoq.below hb1 (Nat.le_refl _)
                have hob := hob.below hb1 (Nat.le_refl _)
                have hr := hr.to hb1
                have hb := hb.trans (hb1.mono hb.size)
                clear hb1
                have l0 := k0.cell 0; have l1 := k0.cell 1; have l2 := k0.cell 2; have l3 := k0.cell 3; have lt := k0.lt
                go_wp2_with fail
                clear l0 l1 l2 l3 lt
                go_at_call 20; refine (impl_IsAllowed_any _ _ _ _ _ _ _ _ _ _ _ _ _ _ _ _ _ _ hr hn (he0.below hb) wfp).mono ?_; rw [HB.out, Bool.true_and, HA6.out]; rintro e v12 ⟨rfl, hb1⟩
                have k0 := k0.below hb1 k0.lt
                have ku := ku.below hb1 ku.lt
                have kg := kg.below hb1 kg.lt
                have kb := kb.below hb1 kb.lt
                have hou := hou.below hb1 (Nat.le_refl _)
                have hoq := hoq.below hb1 (Nat.le_refl _)
                have hob := hob.below hb1 (Nat.le_refl _)
                have hr := hr.to hb1
                have hb := hb.trans (hb1.mono hb.size)
                clear hb1
                have HMU := Lib.hid (show roomB r1.ms r1.vs r1.bs = true ∧ allowB r1.ms t 1 (at_ + 4) = false by rw [← H1.out]; exact mute_after HV.out tid tl5 (by rw [H1.out]; exact ok1) (by omega))
                have l0 := ku.cell 0; have l1 := ku.cell 1; have l2 := ku.cell 2; have l3 := ku.cell 3; have lt := ku.lt
                go_wp2_with fail
                clear l0 l1 l2 l3 lt
                go_at_call 20; refine (impl_IsAllowed_any _ _ _ _ _ _ _ _ _ _ _ _ _ _ _ _ _ _ hou.at_ nhou (he0.below hb) wft).mono ?_; rw [HMU.out.1, Bool.true_and, HMU.out.2]; rintro e v13 ⟨rfl, hb1⟩
                have k0 := k0.below hb1 k0.lt
                have ku := ku.below hb1 ku.lt
                have kg := kg.below hb1 kg.lt
                have kb := kb.below hb1 kb.lt
                have hou := hou.below hb1 (Nat.le_refl _)
                have hoq := hoq.below hb1 (Nat.le_refl _)
                have hob := hob.below hb1 (Nat.le_refl _)
                have hr := hr.to hb1
                have hb := hb.trans (hb1.mono hb.size)
                clear hb1
                have l0 := ku.cell 0; have l1 := ku.cell 1; have l2 := ku.cell 2; have l3 := ku.cell 3; have lt := ku.lt
                go_wp2_with fail
                clear l0 l1 l2 l3 lt
                go_at_call 14; refine (impl_ValidRoom_any _ _ _ _ _ _ _ _ _ _ _ _ _ _ hou.at_ nhou).mono ?_; rw [HMU.out.1]; rintro e v14 ⟨rfl, hb1⟩
                have k0 := k0.below hb1 k0.lt
                have ku := ku.below hb1 ku.lt
                have kg := kg.below hb1 kg.lt
                have kb := kb.below hb1 kb.lt
                have hou := hou.below hb1 (Nat.le_refl _)
                have hoq := hoq.below hb1 (Nat.le_refl _)
                have hob := hob.below hb1 (Nat.le_refl _)
                have hr := hr.to hb1
                have hb := hb.trans (hb1.mono hb.size)
                clear hb1
                have l0 := kg.cell 0; have l1 := kg.cell 1; have l2 := kg.cell 2; have l3 := kg.cell 3; have lt := kg.lt
                go_wp2_with fail
                clear l0 l1 l2 l3 lt
                obtain ⟨q1, hq1⟩ : ∃ z, (if roomB r2.ms r2.vs r2.bs = true then roleAt r2.ms t else 0) = z := ⟨_, rfl⟩
                obtain ⟨q2, hq2⟩ : ∃ z, (roomB r2.ms r2.vs r2.bs && decide (t ∈ mids r2.ms)) = z := ⟨_, rfl⟩
                have Q1 := Lib.hid hq1
                have Q2 := Lib.hid hq2
                clear hq1 hq2
                go_at_call 12; refine (impl_RoleOf_any _ _ _ _ _ _ _ _ _ _ _ _ _ _ _ _ hoq.at_ nhoq (he0.below hb) wft).mono ?_; rw [Q1.out, Q2.out]; rintro e v15 ⟨rfl, hb1⟩
                have k0 := k0.below hb1 k0.lt
                have ku := ku.below hb1 ku.lt
                have kg := kg.below hb1 kg.lt
                have kb := kb.below hb1 kb.lt
                have hou := hou.below hb1 (Nat.le_refl _)
                have hoq := hoq.below hb1 (Nat.le_refl _)
                have hob := hob.below hb1 (Nat.le_refl _)
                have hr := hr.to hb1
                have hb := hb.trans (hb1.mono hb.size)
                clear hb1
                have HBV := Lib.hid (show RoomV r3.ms r3.vs r3.bs by rw [E3.out]; exact ban_valid HV.out HF.out.2.2 tid tl5 HTOP.out)
                have HBI := Lib.hid (show t ∈ bids r3.bs by rw [E3.out]; exact bids_put.2 (.inl rfl))
                have HBM := Lib.hid (show ¬ t ∈ mids r3.ms by rw [E3.out]; exact fun hc => (mids_drop.1 hc).2 rfl)
                have HBX := Lib.hid (show ¬ t ∈ iids r3.vs by rw [E3.out]; intro hc; obtain ⟨y, hy, e⟩ := List.mem_map.1 hc; exact (drop_mem.1 hy).2 e)
                have HBT := Lib.hid (show topB r3.ms p t = true by rw [E3.out]; exact top_drop HTOP.out)
                have HBA := Lib.hid (show allowB r3.ms p 6 at_ = true by rw [E3.out]; exact (allow_drop (top_facts HTOP.out).2.1).trans HA6.out)
                have HBL := Lib.hid (show r3.ms.length < 32 by rw [E3.out]; exact Nat.lt_of_le_of_lt drop_len (by have := HF.out.1; omega))
                have HBO := Lib.hid (show r3.o = o by rw [E3.out]; rfl)
                obtain ⟨r4, hr4⟩ : ∃ z, joinS r3.o r3.ms r3.vs r3.bs t (at_ + 9) = z := ⟨_, rfl⟩
                have Jr4 := Lib.hid hr4
                clear hr4
                obtain ⟨r5, hr5⟩ : ∃ z, liftS r3.o r3.ms r3.vs r3.bs p t at_ = z := ⟨_, rfl⟩
                have Jr5 := Lib.hid hr5
                clear hr5
                have ok4 : r4.ok = false := by rw [← Jr4.out]; exact join_banned HBI.out
                have E5 := Lib.hid (show r5 = ⟨r3.o, r3.ms, r3.vs, dropK Bn.id t r3.bs, true⟩ by rw [← Jr5.out]; exact lift_eq HBV.out tid HBT.out HBA.out HBI.out)
                have ok5 : r5.ok = true := by rw [E5.out]
                obtain ⟨r6, hr6⟩ : ∃ z, joinS r5.o r5.ms r5.vs r5.bs t at_ = z := ⟨_, rfl⟩
                have Jr6 := Lib.hid hr6
                clear hr6
                have ok6 : r6.ok = o := by rw [← Jr6.out, E5.out]; exact (back_eq HBV.out HBL.out tid tat HBM.out HBX.out).trans HBO.out
                obtain ⟨r7, hr7⟩ : ∃ z, inviteS r3.o r3.ms r3.vs r3.bs p t at_ at_ = z := ⟨_, rfl⟩
                have Jr7 := Lib.hid hr7
                clear hr7
                have ok7 : r7.ok = false := by rw [← Jr7.out]; exact inv_banned HBV.out HBI.out
                have l0 := kb.cell 0; have l1 := kb.cell 1; have l2 := kb.cell 2; have l3 := kb.cell 3; have lt := kb.lt
                go_wp2_with fail
                clear l0 l1 l2 l3 lt
                go_at_call 11; refine (impl_JoinRoom_any _ _ _ _ _ _ _ _ _ _ _ _ _ _ _ _ hob.at_ nhob (he0.below hb) (hR0.below hb) wft).mono ?_; rw [Jr4.out]; rintro e v16 ⟨J1, Jn1, Jc1, J2, Jn2, Jc2, J3, Jn3, Jc3, rfl, hoj, hb1, nhoj⟩
                have k0 := k0.below hb1 k0.lt
                have ku := ku.below hb1 ku.lt
                have kg := kg.below hb1 kg.lt
                have kb := kb.below hb1 kb.lt
                have hou := hou.below hb1 (Nat.le_refl _)
                have hoq := hoq.below hb1 (Nat.le_refl _)
                have hob := hob.below hb1 (Nat.le_refl _)
                have hr := hr.to hb1
                have hb := hb.trans (hb1.mono hb.size)
                clear hb1
                have l0 := kb.cell 0; have l1 := kb.cell 1; have l2 := kb.cell 2; have l3 := kb.cell 3; have lt := kb.lt
                go_wp2_with fail
                clear l0 l1 l2 l3 lt
                obtain ⟨kj, hb1⟩ := one_box v16 28 #[.bool r4.o, .slice J1 Jn1 Jc1, .slice J2 Jn2 Jc2, .slice J3 Jn3 Jc3]
                generalize v16.alloc (.cells #[.bool r4.o, .slice J1 Jn1 Jc1, .slice J2 Jn2 Jc2, .slice J3 Jn3 Jc3] 28) = v17 at *
                have k0 := k0.below hb1 k0.lt
                have ku := ku.below hb1 ku.lt
                have kg := kg.below hb1 kg.lt
                have kb := kb.below hb1 kb.lt
                have hou := hou.below hb1 (Nat.le_refl _)
                have hoq := hoq.below hb1 (Nat.le_refl _)
                have hob := hob.below hb1 (Nat.le_refl _)
                have hoj := hoj.below hb1 (Nat.le_refl _)
                have hr := hr.to hb1
                have hb := hb.trans (hb1.mono hb.size)
                clear hb1
                go_at_call 12; refine (impl_RoleOf_any _ _ _ _ _ _ _ _ _ _ _ _ _ _ _ _ hob.at_ nhob (he0.below hb) wft).mono ?_; rw [if_pos (roomB_iff.2 HBV.out), roomB_iff.2 HBV.out, Bool.true_and, decide_eq_false HBM.out]; rintro e v18 ⟨rfl, hb1⟩
                have k0 := k0.below hb1 k0.lt
                have ku := ku.below hb1 ku.lt
                have kg := kg.below hb1 kg.lt
                have kb := kb.below hb1 kb.lt
                have kj := kj.below hb1 kj.lt
                have hou := hou.below hb1 (Nat.le_refl _)
                have hoq := hoq.below hb1 (Nat.le_refl _)
                have hob := hob.below hb1 (Nat.le_refl _)
                have hoj := hoj.below hb1 (Nat.le_refl _)
                have hr := hr.to hb1
                have hb := hb.trans (hb1.mono hb.size)
                clear hb1
                have l0 := kb.cell 0; have l1 := kb.cell 1; have l2 := kb.cell 2; have l3 := kb.cell 3; have lt := kb.lt
                go_wp2_with fail
                clear l0 l1 l2 l3 lt
                go_at_call 21; refine (impl_LiftBan_any _ _ _ _ _ _ _ _ _ _ _ _ _ _ _ _ _ hob.at_ nhob (he0.below hb) (hR0.below hb) wfp wft).mono ?_; rw [Jr5.out]; rintro e v19 ⟨L1, Ln1, Lc1, L2, Ln2, Lc2, L3, Ln3, Lc3, rfl, hol, hb1, nhol⟩
                have k0 := k0.below hb1 k0.lt
                have ku := ku.below hb1 ku.lt
                have kg := kg.below hb1 kg.lt
                have kb := kb.below hb1 kb.lt
                have kj := kj.below hb1 kj.lt
                have hou := hou.below hb1 (Nat.le_refl _)
                have hoq := hoq.below hb1 (Nat.le_refl _)
                have hob := hob.below hb1 (Nat.le_refl _)
                have hoj := hoj.below hb1 (Nat.le_refl _)
                have hr := hr.to hb1
                have hb := hb.trans (hb1.mono hb.size)
                clear hb1
                go_wp2_with fail
                obtain ⟨kl, hb1⟩ := one_box v19 28 #[.bool r5.o, .slice L1 Ln1 Lc1, .slice L2 Ln2 Lc2, .slice L3 Ln3 Lc3]
                generalize v19.alloc (.cells #[.bool r5.o, .slice L1 Ln1 Lc1, .slice L2 Ln2 Lc2, .slice L3 Ln3 Lc3] 28) = v20 at *
                have k0 := k0.below hb1 k0.lt
                have ku := ku.below hb1 ku.lt
                have kg := kg.below hb1 kg.lt
                have kb := kb.below hb1 kb.lt
                have kj := kj.below hb1 kj.lt
                have hou := hou.below hb1 (Nat.le_refl _)
                have hoq := hoq.below hb1 (Nat.le_refl _)
                have hob := hob.below hb1 (Nat.le_refl _)
                have hoj := hoj.below hb1 (Nat.le_refl _)
                have hol := hol.below hb1 (Nat.le_refl _)
                have hr := hr.to hb1
                have hb := hb.trans (hb1.mono hb.size)
                clear hb1
                go_at_call 11; refine (impl_JoinRoom_any _ _ _ _ _ _ _ _ _ _ _ _ _ _ _ _ hol.at_ nhol (he0.below hb) (hR0.below hb) wft).mono ?_; rw [Jr6.out]; rintro e v21 ⟨K1, Kn1, Kc1, K2, Kn2, Kc2, K3, Kn3, Kc3, rfl, hok, hb1, nhok⟩
                have k0 := k0.below hb1 k0.lt
                have ku := ku.below hb1 ku.lt
                have kg := kg.below hb1 kg.lt
                have kb := kb.below hb1 kb.lt
                have kj := kj.below hb1 kj.lt
                have kl := kl.below hb1 kl.lt
                have hou := hou.below hb1 (Nat.le_refl _)
                have hoq := hoq.below hb1 (Nat.le_refl _)
                have hob := hob.below hb1 (Nat.le_refl _)
                have hoj := hoj.below hb1 (Nat.le_refl _)
                have hol := hol.below hb1 (Nat.le_refl _)
                have hr := hr.to hb1
                have hb := hb.trans (hb1.mono hb.size)
                clear hb1
                have l0 := kb.cell 0; have l1 := kb.cell 1; have l2 := kb.cell 2; have l3 := kb.cell 3; have lt := kb.lt
                go_wp2_with fail
                clear l0 l1 l2 l3 lt
                obtain ⟨kk, hb1⟩ := one_box v21 28 #[.bool r6.o, .slice K1 Kn1 Kc1, .slice K2 Kn2 Kc2, .slice K3 Kn3 Kc3]
                generalize v21.alloc (.cells #[.bool r6.o, .slice K1 Kn1 Kc1, .slice K2 Kn2 Kc2, .slice K3 Kn3 Kc3] 28) = v22 at *
                have k0 := k0.below hb1 k0.lt
                have ku := ku.below hb1 ku.lt
                have kg := kg.below hb1 kg.lt
                have kb := kb.below hb1 kb.lt
                have kj := kj.below hb1 kj.lt
                have kl := kl.below hb1 kl.lt
                have hou := hou.below hb1 (Nat.le_refl _)
                have hoq := hoq.below hb1 (Nat.le_refl _)
                have hob := hob.below hb1 (Nat.le_refl _)
                have hoj := hoj.below hb1 (Nat.le_refl _)
                have hol := hol.below hb1 (Nat.le_refl _)
                have hok := hok.below hb1 (Nat.le_refl _)
                have hr := hr.to hb1
                have hb := hb.trans (hb1.mono hb.size)
                clear hb1
                go_at_call 22; refine (impl_InviteTo_any _ _ _ _ _ _ _ _ _ _ _ _ _ _ _ _ _ _ hob.at_ nhob (he0.below hb) (hR0.below hb) wfp wft).mono ?_; rw [Jr7.out]; rintro e v23 ⟨I1, In1, Ic1, I2, In2, Ic2, I3, In3, Ic3, rfl, hoi, hb1, nhoi⟩
                have k0 := k0.below hb1 k0.lt
                have ku := ku.below hb1 ku.lt
                have kg := kg.below hb1 kg.lt
                have kb := kb.below hb1 kb.lt
                have kj := kj.below hb1 kj.lt
                have kl := kl.below hb1 kl.lt
                have kk := kk.below hb1 kk.lt
                have hou := hou.below hb1 (Nat.le_refl _)
                have hoq := hoq.below hb1 (Nat.le_refl _)
                have hob := hob.below hb1 (Nat.le_refl _)
                have hoj := hoj.below hb1 (Nat.le_refl _)
                have hol := hol.below hb1 (Nat.le_refl _)
                have hok := hok.below hb1 (Nat.le_refl _)
                have hr := hr.to hb1
                have hb := hb.trans (hb1.mono hb.size)
                clear hb1
                have l0 := kb.cell 0; have l1 := kb.cell 1; have l2 := kb.cell 2; have l3 := kb.cell 3; have lt := kb.lt
                go_wp2_with fail
                clear l0 l1 l2 l3 lt
                obtain ⟨ki, hb1⟩ := one_box v23 28 #[.bool r7.o, .slice I1 In1 Ic1, .slice I2 In2 Ic2, .slice I3 In3 Ic3]
                generalize v23.alloc (.cells #[.bool r7.o, .slice I1 In1 Ic1, .slice I2 In2 Ic2, .slice I3 In3 Ic3] 28) = v24 at *
                have k0 := k0.below hb1 k0.lt
                have ku := ku.below hb1 ku.lt
                have kg := kg.below hb1 kg.lt
                have kb := kb.below hb1 kb.lt
                have kj := kj.below hb1 kj.lt
                have kl := kl.below hb1 kl.lt
                have kk := kk.below hb1 kk.lt
                have hou := hou.below hb1 (Nat.le_refl _)
                have hoq := hoq.below hb1 (Nat.le_refl _)
                have hob := hob.below hb1 (Nat.le_refl _)
                have hoj := hoj.below hb1 (Nat.le_refl _)
                have hol := hol.below hb1 (Nat.le_refl _)
                have hok := hok.below hb1 (Nat.le_refl _)
                have hoi := hoi.below hb1 (Nat.le_refl _)
                have hr := hr.to hb1
                have hb := hb.trans (hb1.mono hb.size)
                clear hb1
                go_at_call 14; refine (impl_ValidRoom_any _ _ _ _ _ _ _ _ _ _ _ _ _ _ hob.at_ nhob).mono ?_; rw [roomB_iff.2 HBV.out]; rintro e v25 ⟨rfl, hb1⟩
                have k0 := k0.below hb1 k0.lt
                have ku := ku.below hb1 ku.lt
                have kg := kg.below hb1 kg.lt
                have kb := kb.below hb1 kb.lt
                have kj := kj.below hb1 kj.lt
                have kl := kl.below hb1 kl.lt
                have kk := kk.below hb1 kk.lt
                have ki := ki.below hb1 ki.lt
                have hou := hou.below hb1 (Nat.le_refl _)
                have hoq := hoq.below hb1 (Nat.le_refl _)
                have hob := hob.below hb1 (Nat.le_refl _)
                have hoj := hoj.below hb1 (Nat.le_refl _)
                have hol := hol.below hb1 (Nat.le_refl _)
                have hok := hok.below hb1 (Nat.le_refl _)
                have hoi := hoi.below hb1 (Nat.le_refl _)
                have hr := hr.to hb1
                have hb := hb.trans (hb1.mono hb.size)
                clear hb1
                have l0 := k0.cell 0; have l1 := k0.cell 1; have l2 := k0.cell 2; have l3 := k0.cell 3; have lt := k0.lt
                go_wp2
                go_ret
                exact ⟨by simp, hb⟩
              | true =>
                have ok1 : r1.ok = true := by rw [← H1.out, mute_ok' HV.out tid tl5, HTOP.out, HMT.out, HA4.out]; rfl
                have ok2 : r2.ok = true := by rw [← H2.out, (role_ok' HV.out tid rlb).1, HTOP.out, HMT.out, HA7.out]; rfl
                have E3 := Lib.hid (show r3 = bannedR o ms vs bs t (at_ + 5) by rw [← H3.out, ban_eq HV.out HF.out.2.2 tid tl5 (by omega), HTOP.out, HA6.out]; rfl)
                have ok3 : r3.ok = true := by rw [E3.out]; rfl
                have l0 := k0.cell 0; have l1 := k0.cell 1; have l2 := k0.cell 2; have l3 := k0.cell 3; have lt := k0.lt
                go_wp2_with fail
                clear l0 l1 l2 l3 lt
                go_at_call 17; refine (impl_MuteMember_any _ _ _ _ _ _ _ _ _ _ _ _ _ _ _ _ _ _ hr hn (he0.below hb) (hR0.below hb) wfp wft).mono ?_; rw [H1.out]; rintro e v4 ⟨U1, Un1, Uc1, U2, Un2, Uc2, U3, Un3, Uc3, rfl, hou, hb1, nhou⟩
                have k0 := k0.below hb1 k0.lt
                have hr := hr.to hb1
                have hb := hb.trans (hb1.mono hb.size)
                clear hb1
                have l0 := k0.cell 0; have l1 := k0.cell 1; have l2 := k0.cell 2; have l3 := k0.cell 3; have lt := k0.lt
                go_wp2_with fail
                clear l0 l1 l2 l3 lt
                obtain ⟨ku, hb1⟩ := one_box v4 28 #[.bool r1.o, .slice U1 Un1 Uc1, .slice U2 Un2 Uc2, .slice U3 Un3 Uc3]
                generalize v4.alloc (.cells #[.bool r1.o, .slice U1 Un1 Uc1, .slice U2 Un2 Uc2, .slice U3 Un3 Uc3] 28) = v5 at *
                have k0 := k0.below hb1 k0.lt
                have hou := hou.below hb1 (Nat.le_refl _)
                have hr := hr.to hb1
                have hb := hb.trans (hb1.mono hb.size)
                clear hb1
                go_at_call 18; refine (impl_GiveRole_any _ _ _ _ _ _ _ _ _ _ _ _ _ _ _ _ _ _ hr hn (he0.below hb) (hR0.below hb) wfp wft).mono ?_; rw [H2.out]; rintro e v6 ⟨Q1, Qn1, Qc1, Q2, Qn2, Qc2, Q3, Qn3, Qc3, rfl, hoq, hb1, nhoq⟩
                have k0 := k0.below hb1 k0.lt
                have ku := ku.below hb1 ku.lt
                have hou := hou.below hb1 (Nat.le_refl _)
                have hr := hr.to hb1
                have hb := hb.trans (hb1.mono hb.size)
                clear hb1
                have l0 := k0.cell 0; have l1 := k0.cell 1; have l2 := k0.cell 2; have l3 := k0.cell 3; have lt := k0.lt
                go_wp2_with fail
                clear l0 l1 l2 l3 lt
                obtain ⟨kg, hb1⟩ := one_box v6 28 #[.bool r2.o, .slice Q1 Qn1 Qc1, .slice Q2 Qn2 Qc2, .slice Q3 Qn3 Qc3]
                generalize v6.alloc (.cells #[.bool r2.o, .slice Q1 Qn1 Qc1, .slice Q2 Qn2 Qc2, .slice Q3 Qn3 Qc3] 28) = v7 at *
                have k0 := k0.below hb1 k0.lt
                have ku := ku.below hb1 ku.lt
                have hou := hou.below hb1 (Nat.le_refl _)
                have hoq := hoq.below hb1 (Nat.le_refl _)
                have hr := hr.to hb1
                have hb := hb.trans (hb1.mono hb.size)
                clear hb1
                go_at_call 19; refine (impl_BanMember_any _ _ _ _ _ _ _ _ _ _ _ _ _ _ _ _ _ _ hr hn (he0.below hb) (hR0.below hb) wfp wft).mono ?_; rw [H3.out]; rintro e v8 ⟨B1, Bn1, Bc1, B2, Bn2, Bc2, B3, Bn3, Bc3, rfl, hob, hb1, nhob⟩
                have k0 := k0.below hb1 k0.lt
                have ku := ku.below hb1 ku.lt
                have kg := kg.below hb1 kg.lt
                have hou := hou.below hb1 (Nat.le_refl _)
                have hoq := hoq.below hb1 (Nat.le_refl _)
                have hr := hr.to hb1
                have hb := hb.trans (hb1.mono hb.size)
                clear hb1
                have l0 := k0.cell 0; have l1 := k0.cell 1; have l2 := k0.cell 2; have l3 := k0.cell 3; have lt := k0.lt
                go_wp2_with fail
                clear l0 l1 l2 l3 lt
                obtain ⟨kb, hb1⟩ := one_box v8 28 #[.bool r3.o, .slice B1 Bn1 Bc1, .slice B2 Bn2 Bc2, .slice B3 Bn3 Bc3]
                generalize v8.alloc (.cells #[.bool r3.o, .slice B1 Bn1 Bc1, .slice B2 Bn2 Bc2, .slice B3 Bn3 Bc3] 28) = v9 at *
                have k0 := k0.below hb1 k0.lt
                have ku := ku.below hb1 ku.lt
                have kg := kg.below hb1 kg.lt
                have hou := hou.below hb1 (Nat.le_refl _)
                have hoq := hoq.below hb1 (Nat.le_refl _)
                have hob := hob.below hb1 (Nat.le_refl _)
                have hr := hr.to hb1
                have hb := hb.trans (hb1.mono hb.size)
                clear hb1
                go_at_call 20; refine (impl_IsAllowed_any _ _ _ _ _ _ _ _ _ _ _ _ _ _ _ _ _ _ hr hn (he0.below hb) wfp).mono ?_; rw [HB.out, Bool.true_and, HA4.out]; rintro e v10 ⟨rfl, hb1⟩
                have k0 := k0.below hb1 k0.lt
                have ku := ku.below hb1 ku.lt
                have kg := kg.below hb1 kg.lt
                have kb := kb.below hb1 kb.lt
                have hou := hou.below hb1 (Nat.le_refl _)
                have hoq := hoq.below hb1 (Nat.le_refl _)
                have hob := hob.below hb1 (Nat.le_refl _)
                have hr := hr.to hb1
                have hb := hb.trans (hb1.mono hb.size)
                clear hb1
                have l0 := k0.cell 0; have l1 := k0.cell 1; have l2 := k0.cell 2; have l3 := k0.cell 3; have lt := k0.lt
                go_wp2_with fail
                clear l0 l1 l2 l3 lt
                go_at_call 20; refine (impl_IsAllowed_any _ _ _ _ _ _ _ _ _ _ _ _ _ _ _ _ _ _ hr hn (he0.below hb) wfp).mono ?_; rw [HB.out, Bool.true_and, HA7.out]; rintro e v11 ⟨rfl, hb1⟩
                have k0 := k0.below hb1 k0.lt
                have ku := ku.below hb1 ku.lt
                have kg := kg.below hb1 kg.lt
                have kb := kb.below hb1 kb.lt
                have hou := hou.below hb1 (Nat.le_refl _)
                have hoq := hoq.below hb1 (Nat.le_refl _)
                have hob := hob.below hb1 (Nat.le_refl _)
                have hr := hr.to hb1
                have hb := hb.trans (hb1.mono hb.size)
                clear hb1
                have l0 := k0.cell 0; have l1 := k0.cell 1; have l2 := k0.cell 2; have l3 := k0.cell 3; have lt := k0.lt
                go_wp2_with fail
                clear l0 l1 l2 l3 lt
                go_at_call 20; refine (impl_IsAllowed_any _ _ _ _ _ _ _ _ _ _ _ _ _ _ _ _ _ _ hr hn (he0.below hb) wfp).mono ?_; rw [HB.out, Bool.true_and, HA6.out]; rintro e v12 ⟨rfl, hb1⟩
                have k0 := k0.below hb1 k0.lt
                have ku := ku.below hb1 ku.lt
                have kg := kg.below hb1 kg.lt
                have kb := kb.below hb1 kb.lt
                have hou := hou.below hb1 (Nat.le_refl _)
                have hoq := hoq.below hb1 (Nat.le_refl _)
                have hob := hob.below hb1 (Nat.le_refl _)
                have hr := hr.to hb1
                have hb := hb.trans (hb1.mono hb.size)
                clear hb1
                have HMU := Lib.hid (show roomB r1.ms r1.vs r1.bs = true ∧ allowB r1.ms t 1 (at_ + 4) = false by rw [← H1.out]; exact mute_after HV.out tid tl5 (by rw [H1.out]; exact ok1) (by omega))
                have l0 := ku.cell 0; have l1 := ku.cell 1; have l2 := ku.cell 2; have l3 := ku.cell 3; have lt := ku.lt
                go_wp2_with fail
                clear l0 l1 l2 l3 lt
                go_at_call 20; refine (impl_IsAllowed_any _ _ _ _ _ _ _ _ _ _ _ _ _ _ _ _ _ _ hou.at_ nhou (he0.below hb) wft).mono ?_; rw [HMU.out.1, Bool.true_and, HMU.out.2]; rintro e v13 ⟨rfl, hb1⟩
                have k0 := k0.below hb1 k0.lt
                have ku := ku.below hb1 ku.lt
                have kg := kg.below hb1 kg.lt
                have kb := kb.below hb1 kb.lt
                have hou := hou.below hb1 (Nat.le_refl _)
                have hoq := hoq.below hb1 (Nat.le_refl _)
                have hob := hob.below hb1 (Nat.le_refl _)
                have hr := hr.to hb1
                have hb := hb.trans (hb1.mono hb.size)
                clear hb1
                have l0 := ku.cell 0; have l1 := ku.cell 1; have l2 := ku.cell 2; have l3 := ku.cell 3; have lt := ku.lt
                go_wp2_with fail
                clear l0 l1 l2 l3 lt
                go_at_call 14; refine (impl_ValidRoom_any _ _ _ _ _ _ _ _ _ _ _ _ _ _ hou.at_ nhou).mono ?_; rw [HMU.out.1]; rintro e v14 ⟨rfl, hb1⟩
                have k0 := k0.below hb1 k0.lt
                have ku := ku.below hb1 ku.lt
                have kg := kg.below hb1 kg.lt
                have kb := kb.below hb1 kb.lt
                have hou := hou.below hb1 (Nat.le_refl _)
                have hoq := hoq.below hb1 (Nat.le_refl _)
                have hob := hob.below hb1 (Nat.le_refl _)
                have hr := hr.to hb1
                have hb := hb.trans (hb1.mono hb.size)
                clear hb1
                have l0 := kg.cell 0; have l1 := kg.cell 1; have l2 := kg.cell 2; have l3 := kg.cell 3; have lt := kg.lt
                go_wp2_with fail
                clear l0 l1 l2 l3 lt
                have HG := Lib.hid (show roomB r2.ms r2.vs r2.bs = true ∧ t ∈ mids r2.ms ∧ roleAt r2.ms t = role by rw [← H2.out]; exact (role_ok' HV.out tid rlb).2 (by rw [H2.out]; exact ok2))
                go_at_call 12; refine (impl_RoleOf_any _ _ _ _ _ _ _ _ _ _ _ _ _ _ _ _ hoq.at_ nhoq (he0.below hb) wft).mono ?_; rw [if_pos HG.out.1, HG.out.1, Bool.true_and, HG.out.2.2, decide_eq_true HG.out.2.1]; rintro e v15 ⟨rfl, hb1⟩
                have k0 := k0.below hb1 k0.lt
                have ku := ku.below hb1 ku.lt
                have kg := kg.below hb1 kg.lt
                have kb := kb.below hb1 kb.lt
                have hou := hou.below hb1 (Nat.le_refl _)
                have hoq := hoq.below hb1 (Nat.le_refl _)
                have hob := hob.below hb1 (Nat.le_refl _)
                have hr := hr.to hb1
                have hb := hb.trans (hb1.mono hb.size)
                clear hb1
                have l0 := kg.cell 0; have l1 := kg.cell 1; have l2 := kg.cell 2; have l3 := kg.cell 3; have lt := kg.lt
                go_wp2_with fail
                clear l0 l1 l2 l3 lt
                go_at_call 14; refine (impl_ValidRoom_any _ _ _ _ _ _ _ _ _ _ _ _ _ _ hoq.at_ nhoq).mono ?_; rw [HG.out.1]; rintro e v16 ⟨rfl, hb1⟩
                have k0 := k0.below hb1 k0.lt
                have ku := ku.below hb1 ku.lt
                have kg := kg.below hb1 kg.lt
                have kb := kb.below hb1 kb.lt
                have hou := hou.below hb1 (Nat.le_refl _)
                have hoq := hoq.below hb1 (Nat.le_refl _)
                have hob := hob.below hb1 (Nat.le_refl _)
                have hr := hr.to hb1
                have hb := hb.trans (hb1.mono hb.size)
                clear hb1
                have HBV := Lib.hid (show RoomV r3.ms r3.vs r3.bs by rw [E3.out]; exact ban_valid HV.out HF.out.2.2 tid tl5 HTOP.out)
                have HBI := Lib.hid (show t ∈ bids r3.bs by rw [E3.out]; exact bids_put.2 (.inl rfl))
                have HBM := Lib.hid (show ¬ t ∈ mids r3.ms by rw [E3.out]; exact fun hc => (mids_drop.1 hc).2 rfl)
                have HBX := Lib.hid (show ¬ t ∈ iids r3.vs by rw [E3.out]; intro hc; obtain ⟨y, hy, e⟩ := List.mem_map.1 hc; exact (drop_mem.1 hy).2 e)
                have HBT := Lib.hid (show topB r3.ms p t = true by rw [E3.out]; exact top_drop HTOP.out)
                have HBA := Lib.hid (show allowB r3.ms p 6 at_ = true by rw [E3.out]; exact (allow_drop (top_facts HTOP.out).2.1).trans HA6.out)
                have HBL := Lib.hid (show r3.ms.length < 32 by rw [E3.out]; exact Nat.lt_of_le_of_lt drop_len (by have := HF.out.1; omega))
                have HBO := Lib.hid (show r3.o = o by rw [E3.out]; rfl)
                obtain ⟨r4, hr4⟩ : ∃ z, joinS r3.o r3.ms r3.vs r3.bs t (at_ + 9) = z := ⟨_, rfl⟩
                have Jr4 := Lib.hid hr4
                clear hr4
                obtain ⟨r5, hr5⟩ : ∃ z, liftS r3.o r3.ms r3.vs r3.bs p t at_ = z := ⟨_, rfl⟩
                have Jr5 := Lib.hid hr5
                clear hr5
                have ok4 : r4.ok = false := by rw [← Jr4.out]; exact join_banned HBI.out
                have E5 := Lib.hid (show r5 = ⟨r3.o, r3.ms, r3.vs, dropK Bn.id t r3.bs, true⟩ by rw [← Jr5.out]; exact lift_eq HBV.out tid HBT.out HBA.out HBI.out)
                have ok5 : r5.ok = true := by rw [E5.out]
                obtain ⟨r6, hr6⟩ : ∃ z, joinS r5.o r5.ms r5.vs r5.bs t at_ = z := ⟨_, rfl⟩
                have Jr6 := Lib.hid hr6
                clear hr6
                have ok6 : r6.ok = o := by rw [← Jr6.out, E5.out]; exact (back_eq HBV.out HBL.out tid tat HBM.out HBX.out).trans HBO.out
                obtain ⟨r7, hr7⟩ : ∃ z, inviteS r3.o r3.ms r3.vs r3.bs p t at_ at_ = z := ⟨_, rfl⟩
                have Jr7 := Lib.hid hr7
                clear hr7
                have ok7 : r7.ok = false := by rw [← Jr7.out]; exact inv_banned HBV.out HBI.out
                have l0 := kb.cell 0; have l1 := kb.cell 1; have l2 := kb.cell 2; have l3 := kb.cell 3; have lt := kb.lt
                go_wp2_with fail
                clear l0 l1 l2 l3 lt
                go_at_call 11; refine (impl_JoinRoom_any _ _ _ _ _ _ _ _ _ _ _ _ _ _ _ _ hob.at_ nhob (he0.below hb) (hR0.below hb) wft).mono ?_; rw [Jr4.out]; rintro e v17 ⟨J1, Jn1, Jc1, J2, Jn2, Jc2, J3, Jn3, Jc3, rfl, hoj, hb1, nhoj⟩
                have k0 := k0.below hb1 k0.lt
                have ku := ku.below hb1 ku.lt
                have kg := kg.below hb1 kg.lt
                have kb := kb.below hb1 kb.lt
                have hou := hou.below hb1 (Nat.le_refl _)
                have hoq := hoq.below hb1 (Nat.le_refl _)
                have hob := hob.below hb1 (Nat.le_refl _)
                have hr := hr.to hb1
                have hb := hb.trans (hb1.mono hb.size)
                clear hb1
                have l0 := kb.cell 0; have l1 := kb.cell 1; have l2 := kb.cell 2; have l3 := kb.cell 3; have lt := kb.lt
                go_wp2_with fail
                clear l0 l1 l2 l3 lt
                obtain ⟨kj, hb1⟩ := one_box v17 28 #[.bool r4.o, .slice J1 Jn1 Jc1, .slice J2 Jn2 Jc2, .slice J3 Jn3 Jc3]
                generalize v17.alloc (.cells #[.bool r4.o, .slice J1 Jn1 Jc1, .slice J2 Jn2 Jc2, .slice J3 Jn3 Jc3] 28) = v18 at *
                have k0 := k0.below hb1 k0.lt
                have ku := ku.below hb1 ku.lt
                have kg := kg.below hb1 kg.lt
                have kb := kb.below hb1 kb.lt
                have hou := hou.below hb1 (Nat.le_refl _)
                have hoq := hoq.below hb1 (Nat.le_refl _)
                have hob := hob.below hb1 (Nat.le_refl _)
                have hoj := hoj.below hb1 (Nat.le_refl _)
                have hr := hr.to hb1
                have hb := hb.trans (hb1.mono hb.size)
                clear hb1
                go_at_call 12; refine (impl_RoleOf_any _ _ _ _ _ _ _ _ _ _ _ _ _ _ _ _ hob.at_ nhob (he0.below hb) wft).mono ?_; rw [if_pos (roomB_iff.2 HBV.out), roomB_iff.2 HBV.out, Bool.true_and, decide_eq_false HBM.out]; rintro e v19 ⟨rfl, hb1⟩
                have k0 := k0.below hb1 k0.lt
                have ku := ku.below hb1 ku.lt
                have kg := kg.below hb1 kg.lt
                have kb := kb.below hb1 kb.lt
                have kj := kj.below hb1 kj.lt
                have hou := hou.below hb1 (Nat.le_refl _)
                have hoq := hoq.below hb1 (Nat.le_refl _)
                have hob := hob.below hb1 (Nat.le_refl _)
                have hoj := hoj.below hb1 (Nat.le_refl _)
                have hr := hr.to hb1
                have hb := hb.trans (hb1.mono hb.size)
                clear hb1
                have l0 := kb.cell 0; have l1 := kb.cell 1; have l2 := kb.cell 2; have l3 := kb.cell 3; have lt := kb.lt
                go_wp2_with fail
                clear l0 l1 l2 l3 lt
                go_at_call 21; refine (impl_LiftBan_any _ _ _ _ _ _ _ _ _ _ _ _ _ _ _ _ _ hob.at_ nhob (he0.below hb) (hR0.below hb) wfp wft).mono ?_; rw [Jr5.out]; rintro e v20 ⟨L1, Ln1, Lc1, L2, Ln2, Lc2, L3, Ln3, Lc3, rfl, hol, hb1, nhol⟩
                have k0 := k0.below hb1 k0.lt
                have ku := ku.below hb1 ku.lt
                have kg := kg.below hb1 kg.lt
                have kb := kb.below hb1 kb.lt
                have kj := kj.below hb1 kj.lt
                have hou := hou.below hb1 (Nat.le_refl _)
                have hoq := hoq.below hb1 (Nat.le_refl _)
                have hob := hob.below hb1 (Nat.le_refl _)
                have hoj := hoj.below hb1 (Nat.le_refl _)
                have hr := hr.to hb1
                have hb := hb.trans (hb1.mono hb.size)
                clear hb1
                go_wp2_with fail
                obtain ⟨kl, hb1⟩ := one_box v20 28 #[.bool r5.o, .slice L1 Ln1 Lc1, .slice L2 Ln2 Lc2, .slice L3 Ln3 Lc3]
                generalize v20.alloc (.cells #[.bool r5.o, .slice L1 Ln1 Lc1, .slice L2 Ln2 Lc2, .slice L3 Ln3 Lc3] 28) = v21 at *
                have k0 := k0.below hb1 k0.lt
                have ku := ku.below hb1 ku.lt
                have kg := kg.below hb1 kg.lt
                have kb := kb.below hb1 kb.lt
                have kj := kj.below hb1 kj.lt
                have hou := hou.below hb1 (Nat.le_refl _)
                have hoq := hoq.below hb1 (Nat.le_refl _)
                have hob := hob.below hb1 (Nat.le_refl _)
                have hoj := hoj.below hb1 (Nat.le_refl _)
                have hol := hol.below hb1 (Nat.le_refl _)
                have hr := hr.to hb1
                have hb := hb.trans (hb1.mono hb.size)
                clear hb1
                go_at_call 11; refine (impl_JoinRoom_any _ _ _ _ _ _ _ _ _ _ _ _ _ _ _ _ hol.at_ nhol (he0.below hb) (hR0.below hb) wft).mono ?_; rw [Jr6.out]; rintro e v22 ⟨K1, Kn1, Kc1, K2, Kn2, Kc2, K3, Kn3, Kc3, rfl, hok, hb1, nhok⟩
                have k0 := k0.below hb1 k0.lt
                have ku := ku.below hb1 ku.lt
                have kg := kg.below hb1 kg.lt
                have kb := kb.below hb1 kb.lt
                have kj := kj.below hb1 kj.lt
                have kl := kl.below hb1 kl.lt
                have hou := hou.below hb1 (Nat.le_refl _)
                have hoq := hoq.below hb1 (Nat.le_refl _)
                have hob := hob.below hb1 (Nat.le_refl _)
                have hoj := hoj.below hb1 (Nat.le_refl _)
                have hol := hol.below hb1 (Nat.le_refl _)
                have hr := hr.to hb1
                have hb := hb.trans (hb1.mono hb.size)
                clear hb1
                have l0 := kb.cell 0; have l1 := kb.cell 1; have l2 := kb.cell 2; have l3 := kb.cell 3; have lt := kb.lt
                go_wp2_with fail
                clear l0 l1 l2 l3 lt
                obtain ⟨kk, hb1⟩ := one_box v22 28 #[.bool r6.o, .slice K1 Kn1 Kc1, .slice K2 Kn2 Kc2, .slice K3 Kn3 Kc3]
                generalize v22.alloc (.cells #[.bool r6.o, .slice K1 Kn1 Kc1, .slice K2 Kn2 Kc2, .slice K3 Kn3 Kc3] 28) = v23 at *
                have k0 := k0.below hb1 k0.lt
                have ku := ku.below hb1 ku.lt
                have kg := kg.below hb1 kg.lt
                have kb := kb.below hb1 kb.lt
                have kj := kj.below hb1 kj.lt
                have kl := kl.below hb1 kl.lt
                have hou := hou.below hb1 (Nat.le_refl _)
                have hoq := hoq.below hb1 (Nat.le_refl _)
                have hob := hob.below hb1 (Nat.le_refl _)
                have hoj := hoj.below hb1 (Nat.le_refl _)
                have hol := hol.below hb1 (Nat.le_refl _)
                have hok := hok.below hb1 (Nat.le_refl _)
                have hr := hr.to hb1
                have hb := hb.trans (hb1.mono hb.size)
                clear hb1
                go_at_call 22; refine (impl_InviteTo_any _ _ _ _ _ _ _ _ _ _ _ _ _ _ _ _ _ _ hob.at_ nhob (he0.below hb) (hR0.below hb) wfp wft).mono ?_; rw [Jr7.out]; rintro e v24 ⟨I1, In1, Ic1, I2, In2, Ic2, I3, In3, Ic3, rfl, hoi, hb1, nhoi⟩
                have k0 := k0.below hb1 k0.lt
                have ku := ku.below hb1 ku.lt
                have kg := kg.below hb1 kg.lt
                have kb := kb.below hb1 kb.lt
                have kj := kj.below hb1 kj.lt
                have kl := kl.below hb1 kl.lt
                have kk := kk.below hb1 kk.lt
                have hou := hou.below hb1 (Nat.le_refl _)
                have hoq := hoq.below hb1 (Nat.le_refl _)
                have hob := hob.below hb1 (Nat.le_refl _)
                have hoj := hoj.below hb1 (Nat.le_refl _)
                have hol := hol.below hb1 (Nat.le_refl _)
                have hok := hok.below hb1 (Nat.le_refl _)
                have hr := hr.to hb1
                have hb := hb.trans (hb1.mono hb.size)
                clear hb1
                have l0 := kb.cell 0; have l1 := kb.cell 1; have l2 := kb.cell 2; have l3 := kb.cell 3; have lt := kb.lt
                go_wp2_with fail
                clear l0 l1 l2 l3 lt
                obtain ⟨ki, hb1⟩ := one_box v24 28 #[.bool r7.o, .slice I1 In1 Ic1, .slice I2 In2 Ic2, .slice I3 In3 Ic3]
                generalize v24.alloc (.cells #[.bool r7.o, .slice I1 In1 Ic1, .slice I2 In2 Ic2, .slice I3 In3 Ic3] 28) = v25 at *
                have k0 := k0.below hb1 k0.lt
                have ku := ku.below hb1 ku.lt
                have kg := kg.below hb1 kg.lt
                have kb := kb.below hb1 kb.lt
                have kj := kj.below hb1 kj.lt
                have kl := kl.below hb1 kl.lt
                have kk := kk.below hb1 kk.lt
                have hou := hou.below hb1 (Nat.le_refl _)
                have hoq := hoq.below hb1 (Nat.le_refl _)
                have hob := hob.below hb1 (Nat.le_refl _)
                have hoj := hoj.below hb1 (Nat.le_refl _)
                have hol := hol.below hb1 (Nat.le_refl _)
                have hok := hok.below hb1 (Nat.le_refl _)
                have hoi := hoi.below hb1 (Nat.le_refl _)
                have hr := hr.to hb1
                have hb := hb.trans (hb1.mono hb.size)
                clear hb1
                go_at_call 14; refine (impl_ValidRoom_any _ _ _ _ _ _ _ _ _ _ _ _ _ _ hob.at_ nhob).mono ?_; rw [roomB_iff.2 HBV.out]; rintro e v26 ⟨rfl, hb1⟩
                have k0 := k0.below hb1 k0.lt
                have ku := ku.below hb1 ku.lt
                have kg := kg.below hb1 kg.lt
                have kb := kb.below hb1 kb.lt
                have kj := kj.below hb1 kj.lt
                have kl := kl.below hb1 kl.lt
                have kk := kk.below hb1 kk.lt
                have ki := ki.below hb1 ki.lt
                have hou := hou.below hb1 (Nat.le_refl _)
                have hoq := hoq.below hb1 (Nat.le_refl _)
                have hob := hob.below hb1 (Nat.le_refl _)
                have hoj := hoj.below hb1 (Nat.le_refl _)
                have hol := hol.below hb1 (Nat.le_refl _)
                have hok := hok.below hb1 (Nat.le_refl _)
                have hoi := hoi.below hb1 (Nat.le_refl _)
                have hr := hr.to hb1
                have hb := hb.trans (hb1.mono hb.size)
                clear hb1
                have l0 := k0.cell 0; have l1 := k0.cell 1; have l2 := k0.cell 2; have l3 := k0.cell 3; have lt := k0.lt
                go_wp2
                go_ret
                exact ⟨by simp, hb⟩
  · go_enter Tryz.func4, Tryz.ntmps4
    go_wp2_with fail
    go_at_call 8; refine (r8Long_yes _ _ _ _ _ _ _ hl).mono ?_; rintro e w1 ⟨rfl, rfl⟩
    go_wp2
    go_ret
    exact ⟨rfl, Below.refl _ _⟩
end Go.Proofs.YthekkjblgnjmgaaGreatDoor
