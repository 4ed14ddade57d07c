import Derived.Test.YtdpclbmcmgknjabDoorChecked
import Derived.WalkKit
import Derived.ProofKit
import Derived.OpenShut
import Derived.ShutString
import Derived.ChangeOld
import Derived.Below
import Derived.Lib.Hide
import Derived.Test.YtdpclbmcmgknjabDoorZEvtA
import Derived.Test.YtdpclbmcmgknjabDoorZMsgV
import Derived.Test.YtdpclbmcmgknjabDoorZEvtS
namespace Go.Proofs.YtdpclbmcmgknjabDoor
open Go.ChangeShapes Go.WideShapes Go.ChangeAt Go.RowKit
open Go.ChangeMaps (open_string shut_string)
set_option linter.unusedVariables false
set_option maxRecDepth 100000
theorem bare_any (k nu mb : Int) (w : World) : Calls Tryd.prog 104 #[.agg #[.int .i64 nu, .int .i64 mb], .int .i64 k] w fun v w' => v = .returned (.agg #[.int .i64 k, .int .i64 nu, .int .i64 mb, .int .i64 0, .string ⟨#[]⟩, .int .i64 0]) ∧ Below w.heap.size w w' := by
  go_enter Tryd.func104, Tryd.ntmps104
  go_wp2
  exact bodyPost_ret (v := .agg #[.int .i64 k, .int .i64 nu, .int .i64 mb, .int .i64 0, .string ⟨#[]⟩, .int .i64 0]) (by simp [results, Tryd.results104, go_sem]) rfl ⟨rfl, by repeat (first | exact Below.refl _ _ | refine Below.setCell ?_ (by simp) _ | refine Below.alloc ?_ (by first | (simp; omega) | simp) _)⟩
theorem happeningIn_0 (e : Ev) (w : World) (hk : e.kd = 0) : Calls Tryd.prog 24 #[.agg #[.int .i64 e.kd, .int .i64 e.nu, .int .i64 e.mb, .int .i64 e.tk, .string e.tx, .int .i64 e.rp]] w fun v w' => v = .returned (.tuple #[.iface 61 (.agg #[.int .i64 e.nu, .int .i64 e.mb, .int .i64 e.tk, .string e.tx, .int .i64 e.rp]), .bool true]) ∧ Below w.heap.size w w' := by
  rw [hk]
  go_enter Tryd.func24, Tryd.ntmps24
  go_wp2
  go_ret2
  exact ⟨rfl, by repeat (first | exact Below.refl _ _ | refine Below.setCell ?_ (by simp) _ | refine Below.alloc ?_ (by first | (simp; omega) | simp) _)⟩
set_option maxHeartbeats 3200000 in
theorem event_0 (e : Ev) (w : World) : Calls Tryd.prog 105 #[.agg #[.int .i64 e.nu, .int .i64 e.mb, .int .i64 e.tk, .string e.tx, .int .i64 e.rp]] w fun v w' => v = .returned (.agg #[.int .i64 0, .int .i64 e.nu, .int .i64 e.mb, .int .i64 e.tk, .string e.tx, .int .i64 e.rp]) ∧ Below w.heap.size w w' := by
  go_enter Tryd.func105, Tryd.ntmps105
  go_wp2
  exact bodyPost_ret (v := .agg #[.int .i64 0, .int .i64 e.nu, .int .i64 e.mb, .int .i64 e.tk, .string e.tx, .int .i64 e.rp]) (by simp [results, Tryd.results105, go_sem]) rfl ⟨rfl, by repeat (first | exact Below.refl _ _ | refine Below.setCell ?_ (by simp) _ | refine Below.alloc ?_ (by first | (simp; omega) | simp) _)⟩
theorem happeningIn_1 (e : Ev) (w : World) (hk : e.kd = 1) : Calls Tryd.prog 24 #[.agg #[.int .i64 e.kd, .int .i64 e.nu, .int .i64 e.mb, .int .i64 e.tk, .string e.tx, .int .i64 e.rp]] w fun v w' => v = .returned (.tuple #[.iface 63 (.agg #[.int .i64 e.nu, .int .i64 e.mb, .string e.tx]), .bool true]) ∧ Below w.heap.size w w' := by
  rw [hk]
  go_enter Tryd.func24, Tryd.ntmps24
  go_wp2
  go_ret2
  exact ⟨rfl, by repeat (first | exact Below.refl _ _ | refine Below.setCell ?_ (by simp) _ | refine Below.alloc ?_ (by first | (simp; omega) | simp) _)⟩
set_option maxHeartbeats 3200000 in
theorem event_1 (e : Ev) (w : World) : Calls Tryd.prog 106 #[.agg #[.int .i64 e.nu, .int .i64 e.mb, .string e.tx]] w fun v w' => v = .returned (.agg #[.int .i64 1, .int .i64 e.nu, .int .i64 e.mb, .int .i64 0, .string e.tx, .int .i64 0]) ∧ Below w.heap.size w w' := by
  go_enter Tryd.func106, Tryd.ntmps106
  go_wp2
  exact bodyPost_ret (v := .agg #[.int .i64 1, .int .i64 e.nu, .int .i64 e.mb, .int .i64 0, .string e.tx, .int .i64 0]) (by simp [results, Tryd.results106, go_sem]) rfl ⟨rfl, by repeat (first | exact Below.refl _ _ | refine Below.setCell ?_ (by simp) _ | refine Below.alloc ?_ (by first | (simp; omega) | simp) _)⟩
theorem happeningIn_2 (e : Ev) (w : World) (hk : e.kd = 2) : Calls Tryd.prog 24 #[.agg #[.int .i64 e.kd, .int .i64 e.nu, .int .i64 e.mb, .int .i64 e.tk, .string e.tx, .int .i64 e.rp]] w fun v w' => v = .returned (.tuple #[.iface 65 (.agg #[.int .i64 e.nu, .int .i64 e.mb]), .bool true]) ∧ Below w.heap.size w w' := by
  rw [hk]
  go_enter Tryd.func24, Tryd.ntmps24
  go_wp2
  go_ret2
  exact ⟨rfl, by repeat (first | exact Below.refl _ _ | refine Below.setCell ?_ (by simp) _ | refine Below.alloc ?_ (by first | (simp; omega) | simp) _)⟩
set_option maxHeartbeats 3200000 in
theorem event_2 (e : Ev) (w : World) : Calls Tryd.prog 107 #[.agg #[.int .i64 e.nu, .int .i64 e.mb]] w fun v w' => v = .returned (.agg #[.int .i64 2, .int .i64 e.nu, .int .i64 e.mb, .int .i64 0, .string ⟨#[]⟩, .int .i64 0]) ∧ Below w.heap.size w w' := by
  go_enter Tryd.func107, Tryd.ntmps107
  go_wp2_with fail
  obtain ⟨k0, k1, hb0⟩ := two_boxes w 65 27 #[.int .i64 e.nu, .int .i64 e.mb] #[.int .i64 0, .int .i64 0, .int .i64 0, .int .i64 0, .string ⟨#[]⟩, .int .i64 0]
  generalize ((w.alloc (.cells #[.int .i64 e.nu, .int .i64 e.mb] 65)).alloc (.cells #[.int .i64 0, .int .i64 0, .int .i64 0, .int .i64 0, .string ⟨#[]⟩, .int .i64 0] 27)) = W at *
  have c0 := k0.cell 0; have c1 := k0.cell 1
  have lt0 := k0.lt
  go_wp2_with (go_at_call 104; refine (bare_any _ _ _ _).mono ?_; rintro v w1 ⟨rfl, hb1⟩; have k1 := k1.below hb1 k1.lt; have r0 := k1.cell 0; have r1 := k1.cell 1; have r2 := k1.cell 2; have r3 := k1.cell 3; have r4 := k1.cell 4; have r5 := k1.cell 5; have f0 := k1.frozen 0; have f1 := k1.frozen 1; have f2 := k1.frozen 2; have f3 := k1.frozen 3; have f4 := k1.frozen 4; have f5 := k1.frozen 5; have lt1 := k1.lt)
  exact bodyPost_ret (v := .agg #[.int .i64 2, .int .i64 e.nu, .int .i64 e.mb, .int .i64 0, .string ⟨#[]⟩, .int .i64 0]) (by simp [results, Tryd.results107, go_sem, r0, r1, r2, r3, r4, r5]) rfl ⟨rfl, by have hb2 := hb0.trans (hb1.mono hb0.size); repeat (first | exact hb2 | refine Below.setCell ?_ (by simp) _)⟩
theorem happeningIn_3 (e : Ev) (w : World) (hk : e.kd = 3) : Calls Tryd.prog 24 #[.agg #[.int .i64 e.kd, .int .i64 e.nu, .int .i64 e.mb, .int .i64 e.tk, .string e.tx, .int .i64 e.rp]] w fun v w' => v = .returned (.tuple #[.iface 66 (.agg #[.int .i64 e.nu, .int .i64 e.mb]), .bool true]) ∧ Below w.heap.size w w' := by
  rw [hk]
  go_enter Tryd.func24, Tryd.ntmps24
  go_wp2
  go_ret2
  exact ⟨rfl, by repeat (first | exact Below.refl _ _ | refine Below.setCell ?_ (by simp) _ | refine Below.alloc ?_ (by first | (simp; omega) | simp) _)⟩
set_option maxHeartbeats 3200000 in
theorem event_3 (e : Ev) (w : World) : Calls Tryd.prog 108 #[.agg #[.int .i64 e.nu, .int .i64 e.mb]] w fun v w' => v = .returned (.agg #[.int .i64 3, .int .i64 e.nu, .int .i64 e.mb, .int .i64 0, .string ⟨#[]⟩, .int .i64 0]) ∧ Below w.heap.size w w' := by
  go_enter Tryd.func108, Tryd.ntmps108
  go_wp2_with fail
  obtain ⟨k0, k1, hb0⟩ := two_boxes w 66 27 #[.int .i64 e.nu, .int .i64 e.mb] #[.int .i64 0, .int .i64 0, .int .i64 0, .int .i64 0, .string ⟨#[]⟩, .int .i64 0]
  generalize ((w.alloc (.cells #[.int .i64 e.nu, .int .i64 e.mb] 66)).alloc (.cells #[.int .i64 0, .int .i64 0, .int .i64 0, .int .i64 0, .string ⟨#[]⟩, .int .i64 0] 27)) = W at *
  have c0 := k0.cell 0; have c1 := k0.cell 1
  have lt0 := k0.lt
  go_wp2_with (go_at_call 104; refine (bare_any _ _ _ _).mono ?_; rintro v w1 ⟨rfl, hb1⟩; have k1 := k1.below hb1 k1.lt; have r0 := k1.cell 0; have r1 := k1.cell 1; have r2 := k1.cell 2; have r3 := k1.cell 3; have r4 := k1.cell 4; have r5 := k1.cell 5; have f0 := k1.frozen 0; have f1 := k1.frozen 1; have f2 := k1.frozen 2; have f3 := k1.frozen 3; have f4 := k1.frozen 4; have f5 := k1.frozen 5; have lt1 := k1.lt)
  exact bodyPost_ret (v := .agg #[.int .i64 3, .int .i64 e.nu, .int .i64 e.mb, .int .i64 0, .string ⟨#[]⟩, .int .i64 0]) (by simp [results, Tryd.results108, go_sem, r0, r1, r2, r3, r4, r5]) rfl ⟨rfl, by have hb2 := hb0.trans (hb1.mono hb0.size); repeat (first | exact hb2 | refine Below.setCell ?_ (by simp) _)⟩
theorem happeningIn_4 (e : Ev) (w : World) (hk : e.kd = 4) : Calls Tryd.prog 24 #[.agg #[.int .i64 e.kd, .int .i64 e.nu, .int .i64 e.mb, .int .i64 e.tk, .string e.tx, .int .i64 e.rp]] w fun v w' => v = .returned (.tuple #[.iface 67 (.agg #[.int .i64 e.nu, .int .i64 e.mb]), .bool true]) ∧ Below w.heap.size w w' := by
  rw [hk]
  go_enter Tryd.func24, Tryd.ntmps24
  go_wp2
  go_ret2
  exact ⟨rfl, by repeat (first | exact Below.refl _ _ | refine Below.setCell ?_ (by simp) _ | refine Below.alloc ?_ (by first | (simp; omega) | simp) _)⟩
set_option maxHeartbeats 3200000 in
theorem event_4 (e : Ev) (w : World) : Calls Tryd.prog 109 #[.agg #[.int .i64 e.nu, .int .i64 e.mb]] w fun v w' => v = .returned (.agg #[.int .i64 4, .int .i64 e.nu, .int .i64 e.mb, .int .i64 0, .string ⟨#[]⟩, .int .i64 0]) ∧ Below w.heap.size w w' := by
  go_enter Tryd.func109, Tryd.ntmps109
  go_wp2_with fail
  obtain ⟨k0, k1, hb0⟩ := two_boxes w 67 27 #[.int .i64 e.nu, .int .i64 e.mb] #[.int .i64 0, .int .i64 0, .int .i64 0, .int .i64 0, .string ⟨#[]⟩, .int .i64 0]
  generalize ((w.alloc (.cells #[.int .i64 e.nu, .int .i64 e.mb] 67)).alloc (.cells #[.int .i64 0, .int .i64 0, .int .i64 0, .int .i64 0, .string ⟨#[]⟩, .int .i64 0] 27)) = W at *
  have c0 := k0.cell 0; have c1 := k0.cell 1
  have lt0 := k0.lt
  go_wp2_with (go_at_call 104; refine (bare_any _ _ _ _).mono ?_; rintro v w1 ⟨rfl, hb1⟩; have k1 := k1.below hb1 k1.lt; have r0 := k1.cell 0; have r1 := k1.cell 1; have r2 := k1.cell 2; have r3 := k1.cell 3; have r4 := k1.cell 4; have r5 := k1.cell 5; have f0 := k1.frozen 0; have f1 := k1.frozen 1; have f2 := k1.frozen 2; have f3 := k1.frozen 3; have f4 := k1.frozen 4; have f5 := k1.frozen 5; have lt1 := k1.lt)
  exact bodyPost_ret (v := .agg #[.int .i64 4, .int .i64 e.nu, .int .i64 e.mb, .int .i64 0, .string ⟨#[]⟩, .int .i64 0]) (by simp [results, Tryd.results109, go_sem, r0, r1, r2, r3, r4, r5]) rfl ⟨rfl, by have hb2 := hb0.trans (hb1.mono hb0.size); repeat (first | exact hb2 | refine Below.setCell ?_ (by simp) _)⟩
theorem happeningIn_no (e : Ev) (w : World) (h0 : e.kd ≠ 0) (h1 : e.kd ≠ 1) (h2 : e.kd ≠ 2) (h3 : e.kd ≠ 3) (h4 : e.kd ≠ 4) : Calls Tryd.prog 24 #[.agg #[.int .i64 e.kd, .int .i64 e.nu, .int .i64 e.mb, .int .i64 e.tk, .string e.tx, .int .i64 e.rp]] w fun v w' => v = .returned (.tuple #[.nilIface, .bool false]) ∧ Below w.heap.size w w' := by
  have b0 : (e.kd == 0) = false := by simp [h0]
  have b1 : (e.kd == 1) = false := by simp [h1]
  have b2 : (e.kd == 2) = false := by simp [h2]
  have b3 : (e.kd == 3) = false := by simp [h3]
  have b4 : (e.kd == 4) = false := by simp [h4]
  clear h0 h1 h2 h3 h4
  go_enter Tryd.func24, Tryd.ntmps24
  go_wp2
  go_ret2
  exact ⟨rfl, by repeat (first | exact Below.refl _ _ | refine Below.setCell ?_ (by simp) _ | refine Below.alloc ?_ (by first | (simp; omega) | simp) _)⟩
end Go.Proofs.YtdpclbmcmgknjabDoor
