import Derived.Test.YtmnmmjobplbflaaGreatDoorChecked
import Derived.WalkKit
import Derived.ProofKit
import Derived.OpenShut
import Derived.ShutString
import Derived.ChangeOld
import Derived.Below
import Derived.Lib.Hide
import Derived.Test.YtmnmmjobplbflaaGreatDoorZMembersC
import Derived.Test.YtmnmmjobplbflaaGreatDoorJa
namespace Go.Proofs.YtmnmmjobplbflaaGreatDoor
open Go.ChangeShapes Go.WideShapes Go.ChangeAt Go.RowKit
open Go.ChangeMaps (open_string shut_string)
set_option linter.unusedVariables false
set_option maxRecDepth 100000
theorem roomB_mem {ms : List Mb} {vs : List Iv} {bs : List Bn} (h : membersB ms = false) : roomB ms vs bs = false := by simp [roomB, h]
theorem roomB_inv {ms : List Mb} {vs : List Iv} {bs : List Bn} (h : invitesB ms vs = false) : roomB ms vs bs = false := by simp [roomB, h]
theorem roomB_ban {ms : List Mb} {vs : List Iv} {bs : List Bn} (h : bansB ms vs bs = false) : roomB ms vs bs = false := by simp [roomB, h]
theorem roomB_all {ms : List Mb} {vs : List Iv} {bs : List Bn} (h1 : membersB ms = true) (h2 : invitesB ms vs = true) (h3 : bansB ms vs bs = true) : roomB ms vs bs = true := by simp [roomB, h1, h2, h3]
theorem l02Members_b (G : Nat) (A : Option Addr) (n c B : Nat) (xs : List Mb) (b : Bool) (w : World) (hp : w.cell? ⟨G, 1, none⟩ = some (.slice A n c)) (h : SRow 4 mbC w B A n xs) (hn : n ≤ 1048576) (hb : membersB xs = b) :
    Calls Tryz.prog 100 #[.pointer (some ⟨G, 0, none⟩)] w fun e w' => e = .returned (.bool b) ∧ ∃ q, w' = w.drewN q := by
  subst hb; exact l02Members_any G A n c B xs w hp h hn
set_option maxHeartbeats 25600000 in
theorem l02Is_any (G : Nat) (A1 A2 A3 : Option Addr) (n1 c1 n2 c2 n3 c3 B : Nat) (ms : List Mb) (vs : List Iv) (bs : List Bn) (w : World)
    (hp1 : w.cell? ⟨G, 1, none⟩ = some (.slice A1 n1 c1)) (hp2 : w.cell? ⟨G, 2, none⟩ = some (.slice A2 n2 c2)) (hp3 : w.cell? ⟨G, 3, none⟩ = some (.slice A3 n3 c3)) (h : RoomAt w B A1 n1 A2 n2 A3 n3 ms vs bs) (hn : n1 + n2 + n3 ≤ 1048576) :
    Calls Tryz.prog 55 #[.pointer (some ⟨G, 0, none⟩)] w fun e w' => e = .returned (.bool (roomB ms vs bs)) ∧ ∃ q, w' = w.drewN q := by
  have HL1 := Lib.hid h.1.1
  have HL2 := Lib.hid h.2.1.1
  have HL3 := Lib.hid h.2.2.1
  cases hmb : membersB ms with
  | false =>
    have HF := Lib.hid (roomB_mem (vs := vs) (bs := bs) hmb)
    have HMB := Lib.hid hmb
    clear hmb
    go_enter Tryz.func55, Tryz.ntmps55
    go_wp2_with (go_at_call 100; refine (l02Members_b _ _ _ _ _ _ false _ hp1 h.1 (by omega) HMB.out).mono ?_; rintro e w' ⟨rfl, q0, rfl⟩)
    go_ret
    exact ⟨ret_bool HF.out.symm, q0, rfl⟩
  | true =>
    have HMB := Lib.hid hmb
    clear hmb
    by_cases hl2 : 16 < n2
    · have hd2 : decide ((16 : Int) < (n2 : Int)) = true := by simp; omega
      have HF := Lib.hid (roomB_inv (bs := bs) (iv_long (ms := ms) (xs := vs) (by have := HL2.out; omega)))
      go_enter Tryz.func55, Tryz.ntmps55
      go_wp2_with (go_at_call 100; refine (l02Members_b _ _ _ _ _ _ true _ hp1 h.1 (by omega) HMB.out).mono ?_; rintro e w' ⟨rfl, q0, rfl⟩)
      go_ret
      exact ⟨ret_bool HF.out.symm, q0, rfl⟩
    have hl2' : n2 ≤ 16 := by omega
    have hd2 : decide ((16 : Int) < (n2 : Int)) = false := by simp; omega
    clear hl2
    by_cases hl3 : 16 < n3
    · have hd3 : decide ((16 : Int) < (n3 : Int)) = true := by simp; omega
      have HF := Lib.hid (roomB_ban (bn_long (ms := ms) (vs := vs) (xs := bs) (by have := HL3.out; omega)))
      go_enter Tryz.func55, Tryz.ntmps55
      go_wp2_with (go_at_call 100; refine (l02Members_b _ _ _ _ _ _ true _ hp1 h.1 (by omega) HMB.out).mono ?_; rintro e w' ⟨rfl, q0, rfl⟩)
      go_ret
      exact ⟨ret_bool HF.out.symm, q0, rfl⟩
    have hl3' : n3 ≤ 16 := by omega
    have hd3 : decide ((16 : Int) < (n3 : Int)) = false := by simp; omega
    clear hl3
    go_enter Tryz.func55, Tryz.ntmps55
    go_wp2_with (go_at_call 100; refine (l02Members_b _ _ _ _ _ _ true _ hp1 h.1 (by omega) HMB.out).mono ?_; rintro e w' ⟨rfl, q0, rfl⟩)
    go_loopw [3] (fun i wr => ∃ k q : Nat, k ≤ n2 ∧ i = .int .i64 k ∧ Hid (wr = w.drewN q) ∧ Hid (IvTo ms vs k)) (fun i _ => n2 - (intOf i).toNat)
    case atStart => exact ⟨0, _, by omega, rfl, Lib.hid rfl, Lib.hid (IvTo.zero ms vs)⟩
    case round =>
      obtain ⟨k, q, hk, rfl, HW, HR⟩ := hrel
      have hq1 : wr.cell? ⟨G, 1, none⟩ = some (.slice A1 n1 c1) := by rw [HW.out]; exact hp1
      have hq2 : wr.cell? ⟨G, 2, none⟩ = some (.slice A2 n2 c2) := by rw [HW.out]; exact hp2
      have hq3 : wr.cell? ⟨G, 3, none⟩ = some (.slice A3 n3 c3) := by rw [HW.out]; exact hp3
      have hr : RoomAt wr B A1 n1 A2 n2 A3 n3 ms vs bs := by rw [HW.out]; exact h
      by_cases hlt : k < n2
      · obtain ⟨b, off, z, rfl, _, hz, c0, c1, c2⟩ := hr.2.1.ativ hlt
        have HZ := Lib.hid hz
        clear hz
        have hi0 : (0 : Int) ≤ (k : Int) := by omega
        have hi1 : (k : Int) < (n2 : Int) := by omega
        cases t0 : idB z.id with
        | false =>
          have HF := Lib.hid (roomB_inv (ms := ms) (vs := vs) (bs := bs) (iv_bad HZ.out (.inr (.inl t0))))
          go_wp2
          go_quiet ((first | (go_at_call 101; exact Calls.quiet_here (l02Id_b _ _ _ t0))))
          go_wp2
          go_ret
          exact ⟨ret_bool HF.out.symm, q + nq, by rw [HW.out, World.drewN_drewN]⟩
        | true =>
          cases t1 : idB z.byy with
          | false =>
            have HF := Lib.hid (roomB_inv (ms := ms) (vs := vs) (bs := bs) (iv_bad HZ.out (.inl (by simp [ivB, t1]))))
            go_wp2
            go_quiet ((first | (go_at_call 101; exact Calls.quiet_here (l02Id_b _ _ _ t0)) | (go_at_call 101; exact Calls.quiet_here (l02Id_b _ _ _ t1))))
            go_wp2
            go_ret
            exact ⟨ret_bool HF.out.symm, q + nq, by rw [HW.out, World.drewN_drewN]⟩
          | true =>
            cases t2 : tickB z.til with
            | false =>
              have HF := Lib.hid (roomB_inv (ms := ms) (vs := vs) (bs := bs) (iv_bad HZ.out (.inl (by simp [ivB, t2]))))
              go_wp2
              go_quiet ((first | (go_at_call 101; exact Calls.quiet_here (l02Id_b _ _ _ t0)) | (go_at_call 101; exact Calls.quiet_here (l02Id_b _ _ _ t1)) | (go_at_call 102; exact Calls.quiet_here (l02Tick_b _ _ _ t2))))
              go_wp2
              go_ret
              exact ⟨ret_bool HF.out.symm, q + nq, by rw [HW.out, World.drewN_drewN]⟩
            | true =>
              have HB := Lib.hid (show ivB z = true by simp [ivB, t1, t2])
              by_cases hk0 : 0 < k
              · obtain ⟨b2, off2, y, e2, _, hy, y0, _⟩ := hr.2.1.ativ (k := k - 1) (by omega)
                simp only [Option.some.injEq, Addr.mk.injEq, and_true] at e2
                obtain ⟨rfl, rfl⟩ := e2
                have HY := Lib.hid hy
                clear hy
                obtain ⟨j, rfl⟩ : ∃ j, k = j + 1 := ⟨k - 1, by omega⟩
                simp only [Nat.add_sub_cancel] at y0 HY
                have hd1 : (0 : Int) < ((j + 1 : Nat) : Int) := by omega
                by_cases hyz : z.id ≤ y.id
                · have HY2 := Lib.hid hyz
                  have HF := Lib.hid (roomB_inv (ms := ms) (vs := vs) (bs := bs) (iv_flat hk0 HZ.out (by simpa using HY.out) HY2.out))
                  go_wp2
                  go_quiet ((first | (go_at_call 101; exact Calls.quiet_here (l02Id_b _ _ _ t0)) | (go_at_call 101; exact Calls.quiet_here (l02Id_b _ _ _ t1)) | (go_at_call 102; exact Calls.quiet_here (l02Tick_b _ _ _ t2))))
                  go_wp2
                  go_ret
                  exact ⟨ret_bool HF.out.symm, q + nq, by rw [HW.out, World.drewN_drewN]⟩
                · have hyz' : y.id < z.id := by omega
                  have hdf : decide (z.id ≤ y.id) = false := by simpa using hyz
                  clear hyz
                  by_cases hm : z.id ∈ mids ms
                  · obtain ⟨K, hK⟩ := first_at hm
                    have HK := Lib.hid hK
                    have hK0 : (0 : Int) ≤ (K : Int) := by omega
                    have HM := Lib.hid hm
                    clear hK hm
                    have HF := Lib.hid (roomB_inv (ms := ms) (vs := vs) (bs := bs) (iv_bad HZ.out (.inr (.inr fun hc => hc HM.out))))
                    go_wp2
                    go_quiet ((first | (go_at_call 101; exact Calls.quiet_here (l02Id_b _ _ _ t0)) | (go_at_call 101; exact Calls.quiet_here (l02Id_b _ _ _ t1)) | (go_at_call 102; exact Calls.quiet_here (l02Tick_b _ _ _ t2)) | (go_at_call 56; exact l02Find_qat _ _ _ _ _ _ _ _ hq1 hr.1 (by omega) K HK.out.1 HK.out.2 _)))
                    go_wp2
                    go_ret
                    exact ⟨ret_bool HF.out.symm, q + nq, by rw [HW.out, World.drewN_drewN]⟩
                  · have HNM := Lib.hid hm
                    clear hm
                    have HN := Lib.hid (HR.out.succ HZ.out HB.out t0 (fun u _ hu => by rw [Nat.add_sub_cancel, HY.out] at hu; injection hu with hu; rw [← hu]; omega) HNM.out)
                    go_wp2
                    go_quiet ((first | (go_at_call 101; exact Calls.quiet_here (l02Id_b _ _ _ t0)) | (go_at_call 101; exact Calls.quiet_here (l02Id_b _ _ _ t1)) | (go_at_call 102; exact Calls.quiet_here (l02Tick_b _ _ _ t2)) | (go_at_call 56; exact l02Find_qno _ _ _ _ _ _ _ _ hq1 hr.1 (by omega) HNM.out _)))
                    go_wp2
                    go_roundw
                    case rel => exact ⟨j + 1 + 1, q + nq, by omega, by go_num, Lib.hid (by rw [HW.out, World.drewN_drewN]), HN⟩
                    case measure => simp [intOf]; omega
              · have hd0 : decide ((0 : Int) < (k : Int)) = false := by simp; omega
                have hd0' : decide (0 < k) = false := by simp; omega
                have HK0 := Lib.hid hk0
                clear hk0
                by_cases hm : z.id ∈ mids ms
                · obtain ⟨K, hK⟩ := first_at hm
                  have HK := Lib.hid hK
                  have hK0 : (0 : Int) ≤ (K : Int) := by omega
                  have HM := Lib.hid hm
                  clear hK hm
                  have HF := Lib.hid (roomB_inv (ms := ms) (vs := vs) (bs := bs) (iv_bad HZ.out (.inr (.inr fun hc => hc HM.out))))
                  go_wp2
                  go_quiet ((first | (go_at_call 101; exact Calls.quiet_here (l02Id_b _ _ _ t0)) | (go_at_call 101; exact Calls.quiet_here (l02Id_b _ _ _ t1)) | (go_at_call 102; exact Calls.quiet_here (l02Tick_b _ _ _ t2)) | (go_at_call 56; exact l02Find_qat _ _ _ _ _ _ _ _ hq1 hr.1 (by omega) K HK.out.1 HK.out.2 _)))
                  go_wp2
                  go_ret
                  exact ⟨ret_bool HF.out.symm, q + nq, by rw [HW.out, World.drewN_drewN]⟩
                · have HNM := Lib.hid hm
                  clear hm
                  have HN := Lib.hid (HR.out.succ HZ.out HB.out t0 (fun u hu => absurd hu HK0.out) HNM.out)
                  go_wp2
                  go_quiet ((first | (go_at_call 101; exact Calls.quiet_here (l02Id_b _ _ _ t0)) | (go_at_call 101; exact Calls.quiet_here (l02Id_b _ _ _ t1)) | (go_at_call 102; exact Calls.quiet_here (l02Tick_b _ _ _ t2)) | (go_at_call 56; exact l02Find_qno _ _ _ _ _ _ _ _ hq1 hr.1 (by omega) HNM.out _)))
                  go_wp2
                  go_roundw
                  case rel => exact ⟨k + 1, q + nq, by omega, by go_num, Lib.hid (by rw [HW.out, World.drewN_drewN]), HN⟩
                  case measure => simp [intOf]; omega
      · have HEiv := Lib.hid (iv_full HR.out (by have := HL2.out; omega) (by have := HL2.out; omega))
        clear HR hk
        go_wp2
        go_loopw [5] (fun i wr => ∃ k q : Nat, k ≤ n3 ∧ i = .int .i64 k ∧ Hid (wr = w.drewN q) ∧ Hid (BnTo ms vs bs k)) (fun i _ => n3 - (intOf i).toNat)
        case atStart => exact ⟨0, _, by omega, rfl, HW, Lib.hid (BnTo.zero ms vs bs)⟩
        case round =>
          obtain ⟨k, q, hk, rfl, HW, HR⟩ := hrel
          have hq1 : wr.cell? ⟨G, 1, none⟩ = some (.slice A1 n1 c1) := by rw [HW.out]; exact hp1
          have hq2 : wr.cell? ⟨G, 2, none⟩ = some (.slice A2 n2 c2) := by rw [HW.out]; exact hp2
          have hq3 : wr.cell? ⟨G, 3, none⟩ = some (.slice A3 n3 c3) := by rw [HW.out]; exact hp3
          have hr : RoomAt wr B A1 n1 A2 n2 A3 n3 ms vs bs := by rw [HW.out]; exact h
          by_cases hlt : k < n3
          · obtain ⟨b, off, z, rfl, _, hz, c0, c1⟩ := hr.2.2.atbn hlt
            have HZ := Lib.hid hz
            clear hz
            have hi0 : (0 : Int) ≤ (k : Int) := by omega
            have hi1 : (k : Int) < (n3 : Int) := by omega
            cases t0 : idB z.id with
            | false =>
              have HF := Lib.hid (roomB_ban (ms := ms) (vs := vs) (bs := bs) (bn_bad HZ.out (.inr (.inl t0))))
              go_wp2
              go_quiet ((first | (go_at_call 101; exact Calls.quiet_here (l02Id_b _ _ _ t0))))
              go_wp2
              go_ret
              exact ⟨ret_bool HF.out.symm, q + nq, by rw [HW.out, World.drewN_drewN]⟩
            | true =>
              cases t1 : tickB z.til with
              | false =>
                have HF := Lib.hid (roomB_ban (ms := ms) (vs := vs) (bs := bs) (bn_bad HZ.out (.inl (by simp [bnB, t1]))))
                go_wp2
                go_quiet ((first | (go_at_call 101; exact Calls.quiet_here (l02Id_b _ _ _ t0)) | (go_at_call 102; exact Calls.quiet_here (l02Tick_b _ _ _ t1))))
                go_wp2
                go_ret
                exact ⟨ret_bool HF.out.symm, q + nq, by rw [HW.out, World.drewN_drewN]⟩
              | true =>
                have HB := Lib.hid (show bnB z = true by simp [bnB, t1])
                by_cases hk0 : 0 < k
                · obtain ⟨b2, off2, y, e2, _, hy, y0, _⟩ := hr.2.2.atbn (k := k - 1) (by omega)
                  simp only [Option.some.injEq, Addr.mk.injEq, and_true] at e2
                  obtain ⟨rfl, rfl⟩ := e2
                  have HY := Lib.hid hy
                  clear hy
                  obtain ⟨j, rfl⟩ : ∃ j, k = j + 1 := ⟨k - 1, by omega⟩
                  simp only [Nat.add_sub_cancel] at y0 HY
                  have hd1 : (0 : Int) < ((j + 1 : Nat) : Int) := by omega
                  by_cases hyz : z.id ≤ y.id
                  · have HY2 := Lib.hid hyz
                    have HF := Lib.hid (roomB_ban (ms := ms) (vs := vs) (bs := bs) (bn_flat hk0 HZ.out (by simpa using HY.out) HY2.out))
                    go_wp2
                    go_quiet ((first | (go_at_call 101; exact Calls.quiet_here (l02Id_b _ _ _ t0)) | (go_at_call 102; exact Calls.quiet_here (l02Tick_b _ _ _ t1))))
                    go_wp2
                    go_ret
                    exact ⟨ret_bool HF.out.symm, q + nq, by rw [HW.out, World.drewN_drewN]⟩
                  · have hyz' : y.id < z.id := by omega
                    have hdf : decide (z.id ≤ y.id) = false := by simpa using hyz
                    clear hyz
                    by_cases hm : z.id ∈ mids ms
                    · obtain ⟨K, hK⟩ := first_at hm
                      have HK := Lib.hid hK
                      have hK0 : (0 : Int) ≤ (K : Int) := by omega
                      have HM := Lib.hid hm
                      clear hK hm
                      have HF := Lib.hid (roomB_ban (ms := ms) (vs := vs) (bs := bs) (bn_bad HZ.out (.inr (.inr fun hc => hc.1 HM.out))))
                      go_wp2
                      go_quiet ((first | (go_at_call 101; exact Calls.quiet_here (l02Id_b _ _ _ t0)) | (go_at_call 102; exact Calls.quiet_here (l02Tick_b _ _ _ t1)) | (go_at_call 56; exact l02Find_qat _ _ _ _ _ _ _ _ hq1 hr.1 (by omega) K HK.out.1 HK.out.2 _)))
                      go_wp2
                      go_ret
                      exact ⟨ret_bool HF.out.symm, q + nq, by rw [HW.out, World.drewN_drewN]⟩
                    · have HNM := Lib.hid hm
                      clear hm
                      by_cases hm : z.id ∈ iids vs
                      · obtain ⟨K, hK⟩ := first_at hm
                        have HK := Lib.hid hK
                        have hK0 : (0 : Int) ≤ (K : Int) := by omega
                        have HM := Lib.hid hm
                        clear hK hm
                        have HF := Lib.hid (roomB_ban (ms := ms) (vs := vs) (bs := bs) (bn_bad HZ.out (.inr (.inr fun hc => hc.2 HM.out))))
                        go_wp2
                        go_quiet ((first | (go_at_call 101; exact Calls.quiet_here (l02Id_b _ _ _ t0)) | (go_at_call 102; exact Calls.quiet_here (l02Tick_b _ _ _ t1)) | (go_at_call 56; exact l02Find_qno _ _ _ _ _ _ _ _ hq1 hr.1 (by omega) HNM.out _) | (go_at_call 103; exact l02Invited_qat _ _ _ _ _ _ _ _ hq2 hr.2.1 (by omega) K HK.out.1 HK.out.2 _)))
                        go_wp2
                        go_ret
                        exact ⟨ret_bool HF.out.symm, q + nq, by rw [HW.out, World.drewN_drewN]⟩
                      · have HNI := Lib.hid hm
                        clear hm
                        have HN := Lib.hid (HR.out.succ HZ.out HB.out t0 (fun u _ hu => by rw [Nat.add_sub_cancel, HY.out] at hu; injection hu with hu; rw [← hu]; omega) ⟨HNM.out, HNI.out⟩)
                        go_wp2
                        go_quiet ((first | (go_at_call 101; exact Calls.quiet_here (l02Id_b _ _ _ t0)) | (go_at_call 102; exact Calls.quiet_here (l02Tick_b _ _ _ t1)) | (go_at_call 56; exact l02Find_qno _ _ _ _ _ _ _ _ hq1 hr.1 (by omega) HNM.out _) | (go_at_call 103; exact l02Invited_qno _ _ _ _ _ _ _ _ hq2 hr.2.1 (by omega) HNI.out _)))
                        go_wp2
                        go_roundw
                        case rel => exact ⟨j + 1 + 1, q + nq, by omega, by go_num, Lib.hid (by rw [HW.out, World.drewN_drewN]), HN⟩
                        case measure => simp [intOf]; omega
                · have hd0 : decide ((0 : Int) < (k : Int)) = false := by simp; omega
                  have hd0' : decide (0 < k) = false := by simp; omega
                  have HK0 := Lib.hid hk0
                  clear hk0
                  by_cases hm : z.id ∈ mids ms
                  · obtain ⟨K, hK⟩ := first_at hm
                    have HK := Lib.hid hK
                    have hK0 : (0 : Int) ≤ (K : Int) := by omega
                    have HM := Lib.hid hm
                    clear hK hm
                    have HF := Lib.hid (roomB_ban (ms := ms) (vs := vs) (bs := bs) (bn_bad HZ.out (.inr (.inr fun hc => hc.1 HM.out))))
                    go_wp2
                    go_quiet ((first | (go_at_call 101; exact Calls.quiet_here (l02Id_b _ _ _ t0)) | (go_at_call 102; exact Calls.quiet_here (l02Tick_b _ _ _ t1)) | (go_at_call 56; exact l02Find_qat _ _ _ _ _ _ _ _ hq1 hr.1 (by omega) K HK.out.1 HK.out.2 _)))
                    go_wp2
                    go_ret
                    exact ⟨ret_bool HF.out.symm, q + nq, by rw [HW.out, World.drewN_drewN]⟩
                  · have HNM := Lib.hid hm
                    clear hm
                    by_cases hm : z.id ∈ iids vs
                    · obtain ⟨K, hK⟩ := first_at hm
                      have HK := Lib.hid hK
                      have hK0 : (0 : Int) ≤ (K : Int) := by omega
                      have HM := Lib.hid hm
                      clear hK hm
                      have HF := Lib.hid (roomB_ban (ms := ms) (vs := vs) (bs := bs) (bn_bad HZ.out (.inr (.inr fun hc => hc.2 HM.out))))
                      go_wp2
                      go_quiet ((first | (go_at_call 101; exact Calls.quiet_here (l02Id_b _ _ _ t0)) | (go_at_call 102; exact Calls.quiet_here (l02Tick_b _ _ _ t1)) | (go_at_call 56; exact l02Find_qno _ _ _ _ _ _ _ _ hq1 hr.1 (by omega) HNM.out _) | (go_at_call 103; exact l02Invited_qat _ _ _ _ _ _ _ _ hq2 hr.2.1 (by omega) K HK.out.1 HK.out.2 _)))
                      go_wp2
                      go_ret
                      exact ⟨ret_bool HF.out.symm, q + nq, by rw [HW.out, World.drewN_drewN]⟩
                    · have HNI := Lib.hid hm
                      clear hm
                      have HN := Lib.hid (HR.out.succ HZ.out HB.out t0 (fun u hu => absurd hu HK0.out) ⟨HNM.out, HNI.out⟩)
                      go_wp2
                      go_quiet ((first | (go_at_call 101; exact Calls.quiet_here (l02Id_b _ _ _ t0)) | (go_at_call 102; exact Calls.quiet_here (l02Tick_b _ _ _ t1)) | (go_at_call 56; exact l02Find_qno _ _ _ _ _ _ _ _ hq1 hr.1 (by omega) HNM.out _) | (go_at_call 103; exact l02Invited_qno _ _ _ _ _ _ _ _ hq2 hr.2.1 (by omega) HNI.out _)))
                      go_wp2
                      go_roundw
                      case rel => exact ⟨k + 1, q + nq, by omega, by go_num, Lib.hid (by rw [HW.out, World.drewN_drewN]), HN⟩
                      case measure => simp [intOf]; omega
          · have HEbn := Lib.hid (bn_full HR.out (by have := HL3.out; omega) (by have := HL3.out; omega))
            have HT := Lib.hid (roomB_all HMB.out HEiv.out HEbn.out)
            go_wp2
            go_ret
            exact ⟨ret_bool HT.out.symm, q, HW.out⟩
end Go.Proofs.YtmnmmjobplbflaaGreatDoor
