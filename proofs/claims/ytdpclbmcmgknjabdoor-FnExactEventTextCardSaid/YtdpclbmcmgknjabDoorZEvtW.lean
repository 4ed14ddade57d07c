import Derived.Test.YtdpclbmcmgknjabDoorChecked
import Derived.WalkKit
import Derived.ProofKit
import Derived.OpenShut
import Derived.ShutString
import Derived.ChangeOld
import Derived.Below
import Derived.Lib.Hide
import Derived.Test.YtdpclbmcmgknjabDoorZEvtV
import Derived.Test.YtdpclbmcmgknjabDoorZEvtS
namespace Go.Proofs.YtdpclbmcmgknjabDoor
open Go.ChangeShapes Go.WideShapes Go.ChangeAt Go.RowKit
open Go.ChangeMaps (open_string shut_string)
set_option linter.unusedVariables false
set_option maxRecDepth 100000
theorem toList_empty : (⟨#[]⟩ : ByteArray).toList = [] := by
  unfold ByteArray.toList
  rw [ByteArray.toList.loop, if_neg (by decide)]
  rfl
theorem sam_eq (s : ByteArray) : ((⟨#[]⟩ : ByteArray).toList == s.toList) = s.toList.isEmpty := by
  rw [toList_empty]; cases s.toList <;> rfl
theorem textB_empty : textB ⟨#[]⟩ = true := by kernel_rfl
theorem evB_0 {e : Ev} (k0 : e.kd = 0) : (sameEv ⟨0, e.nu, e.mb, e.tk, e.tx, e.rp⟩ e && (numB e.nu && (idB e.mb && (tickB e.tk && (textB e.tx && (decide (0 ≤ e.rp) && decide (e.rp < e.nu))))))) = evB e := by
  simp [sameEv, evB, kindB_0 k0, postEB, k0, Bool.and_assoc]
theorem evB_1 {e : Ev} (k0 : e.kd = 1) : (sameEv ⟨1, e.nu, e.mb, 0, e.tx, 0⟩ e && (numB e.nu && (idB e.mb && (tickB e.tk && (textB e.tx && (decide (0 ≤ e.rp) && decide (e.rp < e.nu))))))) = evB e := by
  rw [evB, kindB_1 k0, editB]
  cases t0 : numB e.nu with
  | false => simp
  | true =>
    have hp := num_pos t0
    by_cases z1 : e.tk = 0 <;> by_cases z2 : e.rp = 0
    · have t2 : tickB e.tk = true := by rw [z1]; decide
      have d0 : 0 < e.nu := by omega
      simp [sameEv, k0, z1, z2, d0, tickB]
    · have z2' : ¬ (0 = e.rp) := fun h => z2 h.symm
      simp [sameEv, k0, z1, z2, z2']
    · have z1' : ¬ (0 = e.tk) := fun h => z1 h.symm
      simp [sameEv, k0, z1, z1']
    · have z1' : ¬ (0 = e.tk) := fun h => z1 h.symm
      simp [sameEv, k0, z1, z1']
theorem evB_bare {e : Ev} (k : Int) (k0 : e.kd = k) (hk : kindB e = bareB e) : (sameEv ⟨k, e.nu, e.mb, 0, ⟨#[]⟩, 0⟩ e && (numB e.nu && (idB e.mb && (tickB e.tk && (textB e.tx && (decide (0 ≤ e.rp) && decide (e.rp < e.nu))))))) = evB e := by
  rw [evB, hk, bareB]
  cases t0 : numB e.nu with
  | false => simp
  | true =>
    have hp := num_pos t0
    cases zx : e.tx.toList.isEmpty with
    | false => simp [sameEv, sam_eq, zx]
    | true =>
      have ht : textB e.tx = true := by rw [tx_empty zx]; exact textB_empty
      by_cases z1 : e.tk = 0 <;> by_cases z2 : e.rp = 0
      · have d0 : 0 < e.nu := by omega
        simp [sameEv, sam_eq, zx, k0, z1, z2, d0, ht, tickB]
      · have z2' : ¬ (0 = e.rp) := fun h => z2 h.symm
        simp [sameEv, k0, z1, z2, z2']
      · have z1' : ¬ (0 = e.tk) := fun h => z1 h.symm
        simp [sameEv, k0, z1, z1']
      · have z1' : ¬ (0 = e.tk) := fun h => z1 h.symm
        simp [sameEv, k0, z1, z1']
set_option maxHeartbeats 3200000 in
theorem impl_ValidEvent_any (e : Ev) (w : World) (hs : e.tx.size ≤ 1048576) : Calls Tryd.prog 14 #[.agg #[.int .i64 e.kd, .int .i64 e.nu, .int .i64 e.mb, .int .i64 e.tk, .string e.tx, .int .i64 e.rp]] w fun v w' => v = .returned (.bool (evB e)) ∧ Below w.heap.size w w' := by
  by_cases k0 : e.kd = 0
  · exact impl_ValidEvent_gen e ⟨0, e.nu, e.mb, e.tk, e.tx, e.rp⟩ 61 (.agg #[.int .i64 e.nu, .int .i64 e.mb, .int .i64 e.tk, .string e.tx, .int .i64 e.rp]) 105 (enters_of Tryd.func105 (by kernel_rfl) rfl) w hs (fun W => happeningIn_0 e W k0) (fun _ => by kernel_rfl) (fun W => event_0 e W) _ (evB_0 k0)
  by_cases k1 : e.kd = 1
  · exact impl_ValidEvent_gen e ⟨1, e.nu, e.mb, 0, e.tx, 0⟩ 63 (.agg #[.int .i64 e.nu, .int .i64 e.mb, .string e.tx]) 106 (enters_of Tryd.func106 (by kernel_rfl) rfl) w hs (fun W => happeningIn_1 e W k1) (fun _ => by kernel_rfl) (fun W => event_1 e W) _ (evB_1 k1)
  by_cases k2 : e.kd = 2
  · exact impl_ValidEvent_gen e ⟨2, e.nu, e.mb, 0, ⟨#[]⟩, 0⟩ 65 (.agg #[.int .i64 e.nu, .int .i64 e.mb]) 107 (enters_of Tryd.func107 (by kernel_rfl) rfl) w hs (fun W => happeningIn_2 e W k2) (fun _ => by kernel_rfl) (fun W => event_2 e W) _ (evB_bare 2 k2 (kindB_2 k2))
  by_cases k3 : e.kd = 3
  · exact impl_ValidEvent_gen e ⟨3, e.nu, e.mb, 0, ⟨#[]⟩, 0⟩ 66 (.agg #[.int .i64 e.nu, .int .i64 e.mb]) 108 (enters_of Tryd.func108 (by kernel_rfl) rfl) w hs (fun W => happeningIn_3 e W k3) (fun _ => by kernel_rfl) (fun W => event_3 e W) _ (evB_bare 3 k3 (kindB_3 k3))
  by_cases k4 : e.kd = 4
  · exact impl_ValidEvent_gen e ⟨4, e.nu, e.mb, 0, ⟨#[]⟩, 0⟩ 67 (.agg #[.int .i64 e.nu, .int .i64 e.mb]) 109 (enters_of Tryd.func109 (by kernel_rfl) rfl) w hs (fun W => happeningIn_4 e W k4) (fun _ => by kernel_rfl) (fun W => event_4 e W) _ (evB_bare 4 k4 (kindB_4 k4))
  obtain ⟨r, hr⟩ : ∃ z, evB e = z := ⟨_, rfl⟩
  rw [hr]
  obtain rfl : r = false := by rw [← hr, evB, kindB_no k0 k1 k2 k3 k4, Bool.and_false]
  have KK := Lib.hid (And.intro k0 (And.intro k1 (And.intro k2 (And.intro k3 k4))))
  clear k0 k1 k2 k3 k4 hr
  go_enter Tryd.func14, Tryd.ntmps14
  go_wp2_with fail
  obtain ⟨kb, hb0⟩ := one_box w 27 #[.int .i64 e.kd, .int .i64 e.nu, .int .i64 e.mb, .int .i64 e.tk, .string e.tx, .int .i64 e.rp]
  generalize w.alloc (.cells #[.int .i64 e.kd, .int .i64 e.nu, .int .i64 e.mb, .int .i64 e.tk, .string e.tx, .int .i64 e.rp] 27) = W0 at *
  go_at_call 24; refine (happeningIn_no e _ KK.out.1 KK.out.2.1 KK.out.2.2.1 KK.out.2.2.2.1 KK.out.2.2.2.2).mono ?_; rintro v w1 ⟨rfl, hb1⟩
  have hb0 := hb0.trans (hb1.mono hb0.size)
  clear hb1 kb
  go_wp2_with fail
  refine wp_region_calm (w0 := w1) (by kernel_rfl) (by kernel_rfl) (Below.refl _ _).drew ?_
  repeat (go_big_quiet_step (fail))
  refine wpQuiet_nil ?_
  intro _ hw'
  obtain ⟨s7, hw''⟩ := hw'
  subst hw''
  have hb7 := hb0.trans (s7.hb.mono hb0.size)
  go_wp2
  go_ret
  exact ⟨rfl, hb7⟩
end Go.Proofs.YtdpclbmcmgknjabDoor
