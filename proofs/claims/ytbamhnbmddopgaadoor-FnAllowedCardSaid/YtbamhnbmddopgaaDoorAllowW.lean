import Derived.Test.YtbamhnbmddopgaaDoorChecked
import Derived.WalkKit
import Derived.ProofKit
import Derived.OpenShut
import Derived.ShutString
import Derived.ChangeOld
import Derived.Below
import Derived.Lib.Hide
import Derived.Deep.RegionHeld3
import Derived.Test.YtbamhnbmddopgaaDoorDrawAll
import Derived.Test.YtbamhnbmddopgaaDoorAllowC
import Derived.Test.YtbamhnbmddopgaaDoorRoomA
namespace Go.Proofs.YtbamhnbmddopgaaDoor
open Go.ChangeShapes Go.WideShapes Go.ChangeAt Go.RowKit
open Go.ChangeMaps (open_string shut_string)
set_option linter.unusedVariables false
set_option maxRecDepth 100000
set_option maxHeartbeats 6400000 in
theorem walk_all {w : World} {a : Addr} (he : ErrN w a) (A : Option Addr) (n c : Nat) (A' : Option Addr) (n' c' : Nat) (ys ys' : List Nat) (h : Row u8v w w.heap.size A n ys) (hz : ∀ z ∈ ys, z < 256) (h' : Row u8v w w.heap.size A' n' ys') (hz' : ∀ z ∈ ys', z < 256) :
    Calls Tryd.prog 4 #[.slice A n c, .slice A' n' c'] w fun e w' => e = .returned (.bool true) ∧ Below w.heap.size w w' := by
  by_cases hl : n ≤ 48 ∧ n' ≤ 48
  · obtain ⟨hl1, hl2⟩ := hl
    go_enter Tryd.func4, Tryd.ntmps4
    go_wp2_with fail
    go_at_call 10; refine (r8Long_no _ _ _ _ _ _ _ hl1 hl2).mono ?_; rintro e w1 ⟨rfl, rfl⟩
    go_wp2_with fail
    go_at_call 11; refine (R8Room_any A n c ys _ _ h (Nat.le_refl _) hz).mono ?_; rintro e w2 ⟨o, A1, n1, c1, A2, n2, c2, A3, n3, c3, ms, vs, bs, rfl, ho, hV, hb⟩
    have hr := ho.at_
    have he := he.below hb
    have h' := h'.to hb
    have hq1 := hr.1.1; have hq2 := hr.2.1.1; have hq3 := hr.2.2.1
    have hn : n1 + n2 + n3 ≤ 1048576 := by have := hV.l1; have := hV.l2; have := hV.l3; omega
    have hn1 : n1 ≤ 32 := by have := hV.l1; omega
    have HB := Lib.hid (roomB_iff.2 hV)
    have HR := Lib.hid hV.r1
    clear hq1 hq2 hq3 hV h ho hz
    go_wp2_with fail
    obtain ⟨k0, hb1⟩ := one_box w2 34 #[.bool o, .slice A1 n1 c1, .slice A2 n2 c2, .slice A3 n3 c3]
    have hr := hr.to hb1
    have he := he.below hb1
    have h' := h'.below hb1
    have hb := hb.trans (hb1.mono hb.size)
    generalize w2.alloc (.cells #[.bool o, .slice A1 n1 c1, .slice A2 n2 c2, .slice A3 n3 c3] 34) = w3 at *
    clear hb1
    go_at_call 12; refine (r8At_any A' n' c' _ ys' 0 9 _ h' hz' (by decide) (by decide) (by decide) hl2).mono ?_; rintro e w4 ⟨act, rfl, ha0, ha1, rfl⟩
    go_wp2_with fail
    go_at_call 12; refine (r8At_any A' n' c' _ ys' 1 40 _ h' hz' (by decide) (by decide) (by decide) hl2).mono ?_; rintro e w5 ⟨at_, rfl, hc0, hc1, rfl⟩
    clear h' hz'
    have l0 := k0.cell 0; have l1 := k0.cell 1; have l2 := k0.cell 2; have l3 := k0.cell 3
    go_wp2_with fail
    go_at_call 13; refine (impl_ValidRoom_any _ _ _ _ _ _ _ _ _ _ _ _ _ _ hr hn).mono ?_; rw [HB.out]; rintro e w6 ⟨rfl, hb1⟩
    have hr := hr.to hb1
    have he := he.below hb1
    have k0 := k0.below hb1 k0.lt
    have hb := hb.trans (hb1.mono hb.size)
    clear hb1 l0 l1 l2 l3
    go_wp2_with fail
    go_at_call 14; refine (impl_RoleMay_any _ _ _).mono ?_; rw [may_four]; rintro e w7 ⟨rfl, rfl⟩
    go_wp2_with fail
    go_at_call 14; refine (impl_RoleMay_any _ _ _).mono ?_; rw [may_nine]; rintro e w8 ⟨rfl, rfl⟩
    go_wp2_with fail
    go_at_call 14; refine (impl_RoleMay_any _ _ _).mono ?_; rw [may_owner ha0 ha1]; rintro e w9 ⟨rfl, rfl⟩
    go_wp2
    go_loopw [8] (fun i wr => ∃ k : Nat, 1 ≤ k ∧ k ≤ 4 ∧ i = .int .i64 k ∧ Below w6.heap.size w6 wr) (fun i _ => 4 - (intOf i).toNat)
    case atStart => exact ⟨1, by omega, by omega, rfl, Below.refl _ _⟩
    case round =>
      obtain ⟨k, hk1, hk4, rfl, hb1⟩ := hrel
      by_cases hk3 : k ≤ 3
      · have hk3' : decide ((k : Int) ≤ 3) = true := decide_eq_true (by omega)
        cases hm : mayB ((k : Int) - 1) act with
        | false =>
          go_wp2_with fail
          go_at_call 14; refine (impl_RoleMay_any _ _ _).mono ?_; rw [hm]; rintro e w7 ⟨rfl, rfl⟩
          go_wp2
          go_roundw
          case rel => exact ⟨k + 1, by omega, by omega, by go_num, hb1⟩
          case measure => simp [intOf]; omega
        | true =>
          have hm2 : mayB (k : Int) act = true := by have := may_more hm (by omega); rwa [Int.sub_add_cancel] at this
          go_wp2_with fail
          go_at_call 14; refine (impl_RoleMay_any _ _ _).mono ?_; rw [hm]; rintro e w7 ⟨rfl, rfl⟩
          go_wp2_with fail
          go_at_call 14; refine (impl_RoleMay_any _ _ _).mono ?_; rw [hm2]; rintro e w8 ⟨rfl, rfl⟩
          go_wp2
          go_roundw
          case rel => exact ⟨k + 1, by omega, by omega, by go_num, hb1⟩
          case measure => simp [intOf]; omega
      · have hk3' : decide ((k : Int) ≤ 3) = false := decide_eq_false (by omega)
        have hr := hr.to hb1
        have he := he.below hb1
        have k0 := k0.below hb1 k0.lt
        have hb := hb.trans (hb1.mono hb.size)
        clear hb1 hk1 hk4 hk3
        go_wp2
        go_loopw [9] (fun i wz => ∃ k : Nat, 1 ≤ k ∧ k ≤ 8 ∧ i = .int .i64 k ∧ Below wr.heap.size wr wz) (fun i _ => 8 - (intOf i).toNat)
        case atStart => exact ⟨1, by omega, by omega, rfl, Below.refl _ _⟩
        case round =>
          obtain ⟨k, hk1, hk8, rfl, hb1⟩ := hrel
          have hr2 := hr.to hb1
          have he2 := he.below hb1
          have k2 := k0.below hb1 k0.lt
          have hb2 := hb.trans (hb1.mono hb.size)
          by_cases hk7 : k ≤ 7
          · have hk7' : decide ((k : Int) ≤ 7) = true := decide_eq_true (by omega)
            have wfk : (Lit.int .i64 (k : Int)).wf = true := by simp [Lit.wf, IntKind.min, IntKind.max, IntKind.bits, IntKind.signed]; omega
            have HAL := Lib.hid (allow_want (t := (k : Int)) (a := act) (at_ := at_) HR.out (by simp [tickB]; omega))
            obtain ⟨ro, hro⟩ : ∃ z, roleAt ms (k : Int) = z := ⟨_, rfl⟩
            have HRO := Lib.hid hro
            clear hro
            obtain ⟨me, hme⟩ : ∃ z, decide ((k : Int) ∈ mids ms) = z := ⟨_, rfl⟩
            have HME := Lib.hid hme
            clear hme
            have l0 := k2.cell 0; have l1 := k2.cell 1; have l2 := k2.cell 2; have l3 := k2.cell 3
            go_wp2_with fail
            go_at_call 15; refine (impl_RoleOf_any _ _ _ _ _ _ _ _ _ _ _ _ _ _ _ _ hr2 hn he2 wfk).mono ?_; rw [if_pos HB.out, HB.out, Bool.true_and, HRO.out, HME.out]; rintro e w7 ⟨rfl, hb3⟩
            have hr3 := hr2.to hb3
            have he3 := he2.below hb3
            have k3 := k2.below hb3 k2.lt
            have hbX := hb1.trans (hb3.mono hb1.size)
            clear l0 l1 l2 l3
            go_wp2
            go_loopw [12, 13] (fun q i wz => ∃ j : Nat, j ≤ n1 ∧ i = .int .i64 j ∧ q = .int .i64 (quietL (k : Int) (ms.take j)) ∧ Below w7.heap.size w7 wz) (fun _ i _ => n1 - (intOf i).toNat)
            case atStart => exact ⟨0, by omega, rfl, rfl, Below.refl _ _⟩
            case round =>
              obtain ⟨j, hj, rfl, rfl, hb5⟩ := hrel
              have hr4 := hr3.to hb5
              have he4 := he3.below hb5
              have k4 := k3.below hb5 k3.lt
              have hbY := hbX.trans (hb5.mono hbX.size)
              have l0 := k4.cell 0; have l1 := k4.cell 1; have l2 := k4.cell 2; have l3 := k4.cell 3
              by_cases hjn : j < n1
              · have hjn' : decide ((j : Int) < (n1 : Int)) = true := decide_eq_true (by omega)
                obtain ⟨b, off, z, hA1, hbb, hz, z0, z1, z2, z3⟩ := hr4.1.atm hjn
                subst hA1
                by_cases hid : z.id = (k : Int)
                · have hid' : (z.id == (k : Int)) = true := by simp [hid]
                  have HI := Lib.hid hid
                  clear hid
                  go_wp2
                  go_roundw
                  case rel => exact ⟨j + 1, by omega, by go_num, by rw [quietL_step hz, if_pos HI.out], hb5⟩
                  case measure => simp [intOf]; omega
                · have hid' : (z.id == (k : Int)) = false := by simp [hid]
                  go_wp2
                  go_roundw
                  case rel => exact ⟨j + 1, by omega, by go_num, by rw [quietL_step hz, if_neg hid], hb5⟩
                  case measure => simp [intOf]; omega
              · have hjn' : decide ((j : Int) < (n1 : Int)) = false := decide_eq_false (by omega)
                have hq : ms.take j = ms := List.take_of_length_le (by have := hr4.1.1; omega)
                rw [hq]
                obtain ⟨qu, hqu⟩ : ∃ z, quietL (k : Int) ms = z := ⟨_, rfl⟩
                have HQU := Lib.hid hqu
                rw [hqu]
                clear hqu hq
                cases me with
                | false =>
                  have hal : allowB ms (k : Int) act at_ = false := by rw [HAL.out, HME.out]; rfl
                  clear HAL
                  go_wp2_with fail
                  go_at_call 16; refine (impl_IsAllowed_any _ _ _ _ _ _ _ _ _ _ _ _ _ _ _ _ _ _ hr4 hn he4 wfk).mono ?_; rw [HB.out, Bool.true_and, hal]; rintro e w9 ⟨rfl, hb6⟩
                  go_wp2
                  go_roundw
                  case rel => exact ⟨k + 1, by omega, by omega, by go_num, hbY.trans (hb6.mono hbY.size)⟩
                  case measure => simp [intOf]; omega
                | true =>
                  cases hmr : mayB ro act with
                  | false =>
                    have hal : allowB ms (k : Int) act at_ = false := by rw [HAL.out, HME.out, HRO.out, hmr]; rfl
                    clear HAL
                    go_wp2_with fail
                    go_at_call 14; refine (impl_RoleMay_any _ _ _).mono ?_; rw [hmr]; rintro e w8 ⟨rfl, rfl⟩
                    go_wp2_with fail
                    go_at_call 16; refine (impl_IsAllowed_any _ _ _ _ _ _ _ _ _ _ _ _ _ _ _ _ _ _ hr4 hn he4 wfk).mono ?_; rw [HB.out, Bool.true_and, hal]; rintro e w9 ⟨rfl, hb6⟩
                    go_wp2
                    go_roundw
                    case rel => exact ⟨k + 1, by omega, by omega, by go_num, hbY.trans (hb6.mono hbY.size)⟩
                    case measure => simp [intOf]; omega
                  | true =>
                    by_cases hac : act = 0
                    · have hac' : (act == 0) = true := by simp [hac]
                      have hal : allowB ms (k : Int) act at_ = true := by rw [HAL.out, HME.out, HRO.out, hmr, decide_eq_true hac]; rfl
                      clear HAL
                      have HAC := Lib.hid hac
                      clear hac
                      go_wp2_with fail
                      go_at_call 14; refine (impl_RoleMay_any _ _ _).mono ?_; rw [hmr]; rintro e w8 ⟨rfl, rfl⟩
                      go_wp2_with fail
                      go_at_call 16; refine (impl_IsAllowed_any _ _ _ _ _ _ _ _ _ _ _ _ _ _ _ _ _ _ hr4 hn he4 wfk).mono ?_; rw [HB.out, Bool.true_and, hal]; rintro e w9 ⟨rfl, hb6⟩
                      go_wp2
                      go_roundw
                      case rel => exact ⟨k + 1, by omega, by omega, by go_num, hbY.trans (hb6.mono hbY.size)⟩
                      case measure => simp [intOf]; omega
                    · have hac' : (act == 0) = false := by simp [hac]
                      obtain ⟨qd, hqd⟩ : ∃ z, decide (qu ≤ at_) = z := ⟨_, rfl⟩
                      have hal : allowB ms (k : Int) act at_ = qd := by rw [HAL.out, HME.out, HRO.out, hmr, decide_eq_false hac, HQU.out, hqd]; simp
                      clear HAL
                      cases qd with
                      | true =>
                        go_wp2_with fail
                        go_at_call 14; refine (impl_RoleMay_any _ _ _).mono ?_; rw [hmr]; rintro e w8 ⟨rfl, rfl⟩
                        go_wp2_with fail
                        go_at_call 16; refine (impl_IsAllowed_any _ _ _ _ _ _ _ _ _ _ _ _ _ _ _ _ _ _ hr4 hn he4 wfk).mono ?_; rw [HB.out, Bool.true_and, hal]; rintro e w9 ⟨rfl, hb6⟩
                        go_wp2
                        go_roundw
                        case rel => exact ⟨k + 1, by omega, by omega, by go_num, hbY.trans (hb6.mono hbY.size)⟩
                        case measure => simp [intOf]; omega
                      | false =>
                        go_wp2_with fail
                        go_at_call 14; refine (impl_RoleMay_any _ _ _).mono ?_; rw [hmr]; rintro e w8 ⟨rfl, rfl⟩
                        go_wp2_with fail
                        go_at_call 16; refine (impl_IsAllowed_any _ _ _ _ _ _ _ _ _ _ _ _ _ _ _ _ _ _ hr4 hn he4 wfk).mono ?_; rw [HB.out, Bool.true_and, hal]; rintro e w9 ⟨rfl, hb6⟩
                        go_wp2
                        go_roundw
                        case rel => exact ⟨k + 1, by omega, by omega, by go_num, hbY.trans (hb6.mono hbY.size)⟩
                        case measure => simp [intOf]; omega
          · have hke : k = 8 := by omega
            subst hke
            have hk7' : decide (((8 : Nat) : Int) ≤ 7) = false := by decide
            go_wp2
            go_ret
            exact ⟨rfl, hb2⟩
  · go_enter Tryd.func4, Tryd.ntmps4
    go_wp2_with fail
    go_at_call 10; refine (r8Long_yes _ _ _ _ _ _ _ hl).mono ?_; rintro e w1 ⟨rfl, rfl⟩
    go_wp2
    go_ret
    exact ⟨rfl, Below.refl _ _⟩
end Go.Proofs.YtbamhnbmddopgaaDoor
