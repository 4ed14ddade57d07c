import Derived.Test.YtdpclbmcmgknjaaChecked
import Derived.WalkKit
import Derived.ProofKit
import Derived.OpenShut
import Derived.ShutString
import Derived.ChangeOld
import Derived.Below
import Derived.Lib.Hide
import Derived.Deep.QuietTactic
import Derived.BigQuiet
import Derived.BigGuardPart
import Derived.Test.YtdpclbmcmgknjaaZPresV
namespace Go.Proofs.Ytdpclbmcmgknjaa
open Go.ChangeShapes Go.WideShapes Go.ChangeAt Go.RowKit
open Go.ChangeMaps (open_string shut_string)
set_option linter.unusedVariables false
set_option maxRecDepth 100000
set_option maxHeartbeats 6400000 in
theorem l05Leases_any (A : Option Addr) (n c B : Nat) (xs : List Bn) (w : World) (h : SRow 2 bnC w B A n xs) (hn : n ≤ 1048576) :
    Calls Try.prog 140 #[.slice A n c] w fun e w' => e = .returned (.bool (rollB bnB xs)) ∧ ∃ q, w' = w.drewN q := by
  have HL := Lib.hid h.1
  go_enter Try.func140, Try.ntmps140
  go_wp2
  go_loopw [6] (fun i wr => ∃ k q : Nat, k ≤ n ∧ i = .int .i64 k ∧ Hid (wr = w.drewN q) ∧ Hid (RollTo bnB xs k)) (fun i _ => n - (intOf i).toNat)
  case atStart => exact ⟨0, 0, by omega, rfl, Lib.hid rfl, Lib.hid (RollTo.zero bnB xs)⟩
  case round =>
    obtain ⟨k, q, hk, rfl, HW, HR⟩ := hrel
    have hr : SRow 2 bnC wr B A n xs := by rw [HW.out]; exact h
    by_cases hlt : k < n
    · obtain ⟨b, off, z, rfl, _, hz, c0, c1⟩ := hr.atbn hlt
      have HZ := Lib.hid hz
      clear hz
      have hi0 : (0 : Int) ≤ (k : Int) := by omega
      have hi1 : (k : Int) < (n : Int) := by omega
      cases t0 : idB z.id with
      | false =>
        have HF := Lib.hid (roll_bad (f := bnB) HZ.out (.inr t0))
        go_wp2
        go_quiet ((first | (go_at_call 122; exact Calls.quiet_here (l01Mem_b _ _ _ t0))))
        go_wp2
        go_ret
        exact ⟨ret_bool (by rw [rollB, HF.out, Bool.and_false]), q + nq, by rw [HW.out, World.drewN_drewN]⟩
      | true =>
        cases t1 : bnB z with
        | false =>
          have HF := Lib.hid (roll_bad (f := bnB) HZ.out (.inl t1))
          go_wp2
          go_quiet ((first | (go_at_call 122; exact Calls.quiet_here (l01Mem_b _ _ _ t0)) | (go_at_call 115; exact Calls.quiet_here (l01Tick_b _ _ _ t1))))
          go_wp2
          go_ret
          exact ⟨ret_bool (by rw [rollB, HF.out, Bool.and_false]), q + nq, by rw [HW.out, World.drewN_drewN]⟩
        | true =>
          by_cases hk0 : 0 < k
          · obtain ⟨b2, off2, y, e2, _, hy, y0, _⟩ := hr.atbn (k := k - 1) (by omega)
            simp only [Option.some.injEq, Addr.mk.injEq, and_true] at e2
            obtain ⟨rfl, rfl⟩ := e2
            have HY := Lib.hid hy
            clear hy
            obtain ⟨j, rfl⟩ : ∃ j, k = j + 1 := ⟨k - 1, by omega⟩
            simp only [Nat.add_sub_cancel] at y0 HY
            have hd1 : (0 : Int) < ((j + 1 : Nat) : Int) := by omega
            by_cases hyz : z.id ≤ y.id
            · have HY2 := Lib.hid hyz
              have HF := Lib.hid (roll_flat (f := bnB) hk0 HZ.out (by simpa using HY.out) HY2.out)
              go_wp2
              go_quiet ((first | (go_at_call 122; exact Calls.quiet_here (l01Mem_b _ _ _ t0)) | (go_at_call 115; exact Calls.quiet_here (l01Tick_b _ _ _ t1))))
              go_wp2
              go_ret
              exact ⟨ret_bool (by rw [rollB, HF.out, Bool.and_false]), q + nq, by rw [HW.out, World.drewN_drewN]⟩
            · have hyz' : y.id < z.id := by omega
              have hdf : decide (z.id ≤ y.id) = false := by simpa using hyz
              clear hyz
              have HN := Lib.hid (HR.out.succ HZ.out t1 t0 (fun u _ hu => by rw [Nat.add_sub_cancel, HY.out] at hu; injection hu with hu; rw [← hu]; omega))
              go_wp2
              go_quiet ((first | (go_at_call 122; exact Calls.quiet_here (l01Mem_b _ _ _ t0)) | (go_at_call 115; exact Calls.quiet_here (l01Tick_b _ _ _ t1))))
              go_wp2
              go_roundw
              case rel => exact ⟨j + 1 + 1, q + nq, by omega, by go_num, Lib.hid (by rw [HW.out, World.drewN_drewN]), HN⟩
              case measure => simp [intOf]; omega
          · have hd0 : decide ((0 : Int) < (k : Int)) = false := by simp; omega
            have hd0' : decide (0 < k) = false := by simp; omega
            have HK0 := Lib.hid hk0
            clear hk0
            have HN := Lib.hid (HR.out.succ HZ.out t1 t0 (fun u hu => absurd hu HK0.out))
            go_wp2
            go_quiet ((first | (go_at_call 122; exact Calls.quiet_here (l01Mem_b _ _ _ t0)) | (go_at_call 115; exact Calls.quiet_here (l01Tick_b _ _ _ t1))))
            go_wp2
            go_roundw
            case rel => exact ⟨k + 1, q + nq, by omega, by go_num, Lib.hid (by rw [HW.out, World.drewN_drewN]), HN⟩
            case measure => simp [intOf]; omega
    · have HE := Lib.hid (roll_full HR.out (by have := HL.out; omega))
      go_wp2
      go_ret
      refine ⟨ret_bool ?_, q, HW.out⟩
      rw [rollB, HE.out, Bool.and_true, HL.out, Bool.eq_iff_iff, decide_eq_true_iff, decide_eq_true_iff]
      omega
theorem l05Leases_b (A : Option Addr) (n c B : Nat) (xs : List Bn) (b : Bool) (w : World) (h : SRow 2 bnC w B A n xs) (hn : n ≤ 1048576) (hb : rollB bnB xs = b) :
    Calls Try.prog 140 #[.slice A n c] w fun e w' => e = .returned (.bool b) ∧ ∃ q, w' = w.drewN q := by subst hb; exact l05Leases_any A n c B xs w h hn
set_option maxHeartbeats 12800000 in
theorem l05Is_any (G : Nat) (A1 A2 A3 : Option Addr) (n1 c1 n2 c2 n3 c3 : Nat) (hs ts ks : List Bn) (w : World) (hp : Blk w G 71 #[.slice A1 n1 c1, .slice A2 n2 c2, .slice A3 n3 c3]) (h : PresAt w w.heap.size A1 n1 A2 n2 A3 n3 hs ts ks) (hn : n1 + n2 + n3 ≤ 1048576) :
    Calls Try.prog 94 #[.pointer (some ⟨G, 0, none⟩)] w fun e w' => e = .returned (.bool (presB hs ts ks)) ∧ Below w.heap.size w w' := by
  have HL := Lib.hid h.2.2.1
  have q2 := hp.cell 2
  go_enter Try.func94, Try.ntmps94
  go_wp2
  clear q2
  go_loopw [10] (fun i wr => ∃ k : Nat, k ≤ n3 ∧ i = .int .i64 k ∧ Below w.heap.size w wr ∧ Hid (RollTo mkOk ks k)) (fun i _ => n3 - (intOf i).toNat)
  case atStart => exact ⟨0, by omega, rfl, Below.refl _ _, Lib.hid (RollTo.zero mkOk ks)⟩
  case round =>
    obtain ⟨k, hk, rfl, hbel, HR⟩ := hrel
    have hr := (h.below hbel).more hbel.size
    have hpr := hp.below hbel hp.lt
    have hbs := hbel.size
    have q2 := hpr.cell 2
    have q2l := hpr.lt
    by_cases hlt : k < n3
    · obtain ⟨b, off, z, rfl, hb, hz, c0, c1⟩ := hr.2.2.atbn hlt
      have HZ := Lib.hid hz
      clear hz
      have hi0 : (0 : Int) ≤ (k : Int) := by omega
      have hi1 : (k : Int) < (n3 : Int) := by omega
      go_wp2_with fail
      clear c0 c1 q2 q2l
      obtain ⟨km, hbm⟩ := one_box wr 139 #[.int .i64 z.id, .int .i64 z.til]
      have hpu := hpr.below hbm hpr.lt
      have hru := hr.to hbm
      have hbu := hbel.trans (hbm.mono hbs)
      clear hbm
      generalize wr.heap.size = gm at *
      generalize wr.alloc (.cells #[.int .i64 z.id, .int .i64 z.til] 139) = U at *
      have m0 := km.cell 0; have m1 := km.cell 1; have q2 := hpu.cell 2
      cases t0 : idB z.id with
      | false =>
        have HF := Lib.hid (roll_bad (f := mkOk) HZ.out (.inr t0))
        go_quiet ((first | (go_at_call 122; exact Calls.quiet_here (l01Mem_b _ _ _ t0))))
        go_wp2
        go_ret
        exact ⟨ret_bool (by rw [presB, show rollB mkOk ks = false by rw [rollB, HF.out, Bool.and_false]]; simp), hbu.trans (Below.mono (drew_below ⟨nq, rfl⟩) hbu.size)⟩
      | true =>
        cases t1 : mkOk z with
        | false =>
          have HF := Lib.hid (roll_bad (f := mkOk) HZ.out (.inl t1))
          go_quiet ((first | (go_at_call 122; exact Calls.quiet_here (l01Mem_b _ _ _ t0)) | (go_at_call 80; exact Calls.quiet_here (l00In_b _ _ _ _ _ (show decide (0 ≤ z.til ∧ z.til ≤ 1000000000) = _ from t1)))))
          go_wp2
          go_ret
          exact ⟨ret_bool (by rw [presB, show rollB mkOk ks = false by rw [rollB, HF.out, Bool.and_false]]; simp), hbu.trans (Below.mono (drew_below ⟨nq, rfl⟩) hbu.size)⟩
        | true =>
          by_cases hk0 : 0 < k
          · obtain ⟨b2, off2, y, e2, _, hy, y0, _⟩ := hru.2.2.atbn (k := k - 1) (by omega)
            simp only [Option.some.injEq, Addr.mk.injEq, and_true] at e2
            obtain ⟨rfl, rfl⟩ := e2
            have HY := Lib.hid hy
            clear hy
            obtain ⟨j, rfl⟩ : ∃ j, k = j + 1 := ⟨k - 1, by omega⟩
            simp only [Nat.add_sub_cancel] at y0 HY
            have hd1 : (0 : Int) < ((j + 1 : Nat) : Int) := by omega
            by_cases hyz : z.id ≤ y.id
            · have HY2 := Lib.hid hyz
              have HF := Lib.hid (roll_flat (f := mkOk) hk0 HZ.out (by simpa using HY.out) HY2.out)
              go_quiet ((first | (go_at_call 122; exact Calls.quiet_here (l01Mem_b _ _ _ t0)) | (go_at_call 80; exact Calls.quiet_here (l00In_b _ _ _ _ _ (show decide (0 ≤ z.til ∧ z.til ≤ 1000000000) = _ from t1)))))
              go_wp2
              go_ret
              exact ⟨ret_bool (by rw [presB, show rollB mkOk ks = false by rw [rollB, HF.out, Bool.and_false]]; simp), hbu.trans (Below.mono (drew_below ⟨nq, rfl⟩) hbu.size)⟩
            · have hyz' : y.id < z.id := by omega
              have hdf : decide (z.id ≤ y.id) = false := by simpa using hyz
              clear hyz
              have HN := Lib.hid (HR.out.succ HZ.out t1 t0 (fun u _ hu => by rw [Nat.add_sub_cancel, HY.out] at hu; injection hu with hu; rw [← hu]; omega))
              go_quiet ((first | (go_at_call 122; exact Calls.quiet_here (l01Mem_b _ _ _ t0)) | (go_at_call 80; exact Calls.quiet_here (l00In_b _ _ _ _ _ (show decide (0 ≤ z.til ∧ z.til ≤ 1000000000) = _ from t1)))))
              go_wp2
              go_roundw
              case rel => exact ⟨j + 1 + 1, by omega, by go_num, hbu.trans (Below.mono (drew_below ⟨nq, rfl⟩) hbu.size), HN⟩
              case measure => simp [intOf]; omega
          · have hd0 : decide ((0 : Int) < (k : Int)) = false := by simp; omega
            have hd0' : decide (0 < k) = false := by simp; omega
            have HK0 := Lib.hid hk0
            clear hk0
            have HN := Lib.hid (HR.out.succ HZ.out t1 t0 (fun u hu => absurd hu HK0.out))
            go_quiet ((first | (go_at_call 122; exact Calls.quiet_here (l01Mem_b _ _ _ t0)) | (go_at_call 80; exact Calls.quiet_here (l00In_b _ _ _ _ _ (show decide (0 ≤ z.til ∧ z.til ≤ 1000000000) = _ from t1)))))
            go_wp2
            go_roundw
            case rel => exact ⟨k + 1, by omega, by go_num, hbu.trans (Below.mono (drew_below ⟨nq, rfl⟩) hbu.size), HN⟩
            case measure => simp [intOf]; omega
    · have HE := Lib.hid (roll_full HR.out (by have := HL.out; omega))
      by_cases hl : n3 ≤ 30
      · have hl' : decide ((n3 : Int) ≤ 30) = true := decide_eq_true (by omega)
        have HK := Lib.hid (show rollB mkOk ks = true by rw [rollB, HE.out, HL.out, decide_eq_true hl]; rfl)
        have q0 := hpr.cell 0; have q1 := hpr.cell 1
        clear hl
        cases t0 : rollB bnB hs with
        | false =>
          go_wp2_with (go_at_call 140; refine (l05Leases_b _ _ _ _ _ _ _ hr.1 (by omega) t0).mono ?_; rintro e w' ⟨rfl, q, rfl⟩)
          go_ret
          exact ⟨ret_bool (by rw [presB, t0]; rfl), hbel.trans (Below.mono (drew_below ⟨q, rfl⟩) hbs)⟩
        | true =>
          have HT := Lib.hid t0
          go_wp2_with fail
          go_at_call 140; refine (l05Leases_b _ _ _ _ _ _ _ hr.1 (by omega) t0).mono ?_; rintro e w' ⟨rfl, hq⟩
          have hbq := drew_below hq
          have hr := hr.to hbq; have hpr := hpr.below hbq hpr.lt; have hbel := hbel.trans (hbq.mono hbs)
          clear hbq hq t0 q0 q1 q2 q2l
          have hbs := hbel.size
          have q0 := hpr.cell 0; have q1 := hpr.cell 1; have q2 := hpr.cell 2; have q2l := hpr.lt
          go_wp2_with fail
          go_at_call 140; refine (l05Leases_any _ _ _ _ _ _ hr.2.1 (by omega)).mono ?_; rintro e w' ⟨rfl, hq⟩
          have hbq := drew_below hq
          have hbel := hbel.trans (hbq.mono hbs)
          clear hbq hq
          go_wp2
          go_ret
          exact ⟨ret_bool (by rw [presB, HT.out, HK.out]; simp), hbel⟩
      · have hl' : decide ((n3 : Int) ≤ 30) = false := decide_eq_false (by omega)
        have HK := Lib.hid (show rollB mkOk ks = false by rw [rollB, HL.out, decide_eq_false hl]; rfl)
        clear hl
        go_wp2
        go_ret
        exact ⟨ret_bool (by rw [presB, HK.out]; simp), hbel⟩
theorem l05Is_b (G : Nat) (A1 A2 A3 : Option Addr) (n1 c1 n2 c2 n3 c3 : Nat) (hs ts ks : List Bn) (b : Bool) (w : World) (hp : Blk w G 71 #[.slice A1 n1 c1, .slice A2 n2 c2, .slice A3 n3 c3]) (h : PresAt w w.heap.size A1 n1 A2 n2 A3 n3 hs ts ks) (hn : n1 + n2 + n3 ≤ 1048576) (hb : presB hs ts ks = b) :
    Calls Try.prog 94 #[.pointer (some ⟨G, 0, none⟩)] w fun e w' => e = .returned (.bool b) ∧ Below w.heap.size w w' := by subst hb; exact l05Is_any G A1 A2 A3 n1 c1 n2 c2 n3 c3 hs ts ks w hp h hn
end Go.Proofs.Ytdpclbmcmgknjaa
