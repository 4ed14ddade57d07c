import Derived.Test.YtdpclbmcmgknjaaChecked
import Derived.WalkKit
import Derived.ProofKit
import Derived.OpenShut
import Derived.ShutString
import Derived.ChangeOld
import Derived.Below
import Derived.Lib.Hide
import Derived.Test.YtdpclbmcmgknjaaEvtA
import Derived.Test.YtdpclbmcmgknjaaMsgV
import Derived.Test.YtdpclbmcmgknjaaEvtS
namespace Go.Proofs.Ytdpclbmcmgknjaa
open Go.ChangeShapes Go.WideShapes Go.ChangeAt Go.RowKit
open Go.ChangeMaps (open_string shut_string)
set_option linter.unusedVariables false
set_option maxRecDepth 100000
theorem bare_any (k nu mb : Int) (w : World) : Calls Try.prog 231 #[.agg #[.int .i64 nu, .int .i64 mb], .int .i64 k] w fun v w' => v = .returned (.agg #[.int .i64 k, .int .i64 nu, .int .i64 mb, .int .i64 0, .string ⟨#[]⟩, .int .i64 0]) ∧ Below w.heap.size w w' := by
  go_enter Try.func231, Try.ntmps231
  go_wp2
  exact bodyPost_ret (v := .agg #[.int .i64 k, .int .i64 nu, .int .i64 mb, .int .i64 0, .string ⟨#[]⟩, .int .i64 0]) (by simp [results, Try.results231, go_sem]) rfl ⟨rfl, by repeat (first | exact Below.refl _ _ | refine Below.setCell ?_ (by simp) _ | refine Below.alloc ?_ (by first | (simp; omega) | simp) _)⟩
theorem happeningIn_0 (e : Ev) (w : World) (hk : e.kd = 0) : Calls Try.prog 57 #[.agg #[.int .i64 e.kd, .int .i64 e.nu, .int .i64 e.mb, .int .i64 e.tk, .string e.tx, .int .i64 e.rp]] w fun v w' => v = .returned (.tuple #[.iface 172 (.agg #[.int .i64 e.nu, .int .i64 e.mb, .int .i64 e.tk, .string e.tx, .int .i64 e.rp]), .bool true]) ∧ Below w.heap.size w w' := by
  rw [hk]
  go_enter Try.func57, Try.ntmps57
  go_wp2
  go_ret2
  exact ⟨rfl, by repeat (first | exact Below.refl _ _ | refine Below.setCell ?_ (by simp) _ | refine Below.alloc ?_ (by first | (simp; omega) | simp) _)⟩
set_option maxHeartbeats 3200000 in
theorem event_0 (e : Ev) (w : World) : Calls Try.prog 232 #[.agg #[.int .i64 e.nu, .int .i64 e.mb, .int .i64 e.tk, .string e.tx, .int .i64 e.rp]] w fun v w' => v = .returned (.agg #[.int .i64 0, .int .i64 e.nu, .int .i64 e.mb, .int .i64 e.tk, .string e.tx, .int .i64 e.rp]) ∧ Below w.heap.size w w' := by
  go_enter Try.func232, Try.ntmps232
  go_wp2
  exact bodyPost_ret (v := .agg #[.int .i64 0, .int .i64 e.nu, .int .i64 e.mb, .int .i64 e.tk, .string e.tx, .int .i64 e.rp]) (by simp [results, Try.results232, go_sem]) rfl ⟨rfl, by repeat (first | exact Below.refl _ _ | refine Below.setCell ?_ (by simp) _ | refine Below.alloc ?_ (by first | (simp; omega) | simp) _)⟩
theorem happeningIn_1 (e : Ev) (w : World) (hk : e.kd = 1) : Calls Try.prog 57 #[.agg #[.int .i64 e.kd, .int .i64 e.nu, .int .i64 e.mb, .int .i64 e.tk, .string e.tx, .int .i64 e.rp]] w fun v w' => v = .returned (.tuple #[.iface 174 (.agg #[.int .i64 e.nu, .int .i64 e.mb, .string e.tx]), .bool true]) ∧ Below w.heap.size w w' := by
  rw [hk]
  go_enter Try.func57, Try.ntmps57
  go_wp2
  go_ret2
  exact ⟨rfl, by repeat (first | exact Below.refl _ _ | refine Below.setCell ?_ (by simp) _ | refine Below.alloc ?_ (by first | (simp; omega) | simp) _)⟩
set_option maxHeartbeats 3200000 in
theorem event_1 (e : Ev) (w : World) : Calls Try.prog 233 #[.agg #[.int .i64 e.nu, .int .i64 e.mb, .string e.tx]] w fun v w' => v = .returned (.agg #[.int .i64 1, .int .i64 e.nu, .int .i64 e.mb, .int .i64 0, .string e.tx, .int .i64 0]) ∧ Below w.heap.size w w' := by
  go_enter Try.func233, Try.ntmps233
  go_wp2
  exact bodyPost_ret (v := .agg #[.int .i64 1, .int .i64 e.nu, .int .i64 e.mb, .int .i64 0, .string e.tx, .int .i64 0]) (by simp [results, Try.results233, go_sem]) rfl ⟨rfl, by repeat (first | exact Below.refl _ _ | refine Below.setCell ?_ (by simp) _ | refine Below.alloc ?_ (by first | (simp; omega) | simp) _)⟩
theorem happeningIn_2 (e : Ev) (w : World) (hk : e.kd = 2) : Calls Try.prog 57 #[.agg #[.int .i64 e.kd, .int .i64 e.nu, .int .i64 e.mb, .int .i64 e.tk, .string e.tx, .int .i64 e.rp]] w fun v w' => v = .returned (.tuple #[.iface 176 (.agg #[.int .i64 e.nu, .int .i64 e.mb]), .bool true]) ∧ Below w.heap.size w w' := by
  rw [hk]
  go_enter Try.func57, Try.ntmps57
  go_wp2
  go_ret2
  exact ⟨rfl, by repeat (first | exact Below.refl _ _ | refine Below.setCell ?_ (by simp) _ | refine Below.alloc ?_ (by first | (simp; omega) | simp) _)⟩
set_option maxHeartbeats 3200000 in
theorem event_2 (e : Ev) (w : World) : Calls Try.prog 234 #[.agg #[.int .i64 e.nu, .int .i64 e.mb]] w fun v w' => v = .returned (.agg #[.int .i64 2, .int .i64 e.nu, .int .i64 e.mb, .int .i64 0, .string ⟨#[]⟩, .int .i64 0]) ∧ Below w.heap.size w w' := by
  go_enter Try.func234, Try.ntmps234
  go_wp2_with fail
  obtain ⟨k0, k1, hb0⟩ := two_boxes w 176 26 #[.int .i64 e.nu, .int .i64 e.mb] #[.int .i64 0, .int .i64 0, .int .i64 0, .int .i64 0, .string ⟨#[]⟩, .int .i64 0]
  generalize ((w.alloc (.cells #[.int .i64 e.nu, .int .i64 e.mb] 176)).alloc (.cells #[.int .i64 0, .int .i64 0, .int .i64 0, .int .i64 0, .string ⟨#[]⟩, .int .i64 0] 26)) = W at *
  have c0 := k0.cell 0; have c1 := k0.cell 1
  have lt0 := k0.lt
  go_wp2_with (go_at_call 231; refine (bare_any _ _ _ _).mono ?_; rintro v w1 ⟨rfl, hb1⟩; have k1 := k1.below hb1 k1.lt; have r0 := k1.cell 0; have r1 := k1.cell 1; have r2 := k1.cell 2; have r3 := k1.cell 3; have r4 := k1.cell 4; have r5 := k1.cell 5; have f0 := k1.frozen 0; have f1 := k1.frozen 1; have f2 := k1.frozen 2; have f3 := k1.frozen 3; have f4 := k1.frozen 4; have f5 := k1.frozen 5; have lt1 := k1.lt)
  exact bodyPost_ret (v := .agg #[.int .i64 2, .int .i64 e.nu, .int .i64 e.mb, .int .i64 0, .string ⟨#[]⟩, .int .i64 0]) (by simp [results, Try.results234, go_sem, r0, r1, r2, r3, r4, r5]) rfl ⟨rfl, by have hb2 := hb0.trans (hb1.mono hb0.size); repeat (first | exact hb2 | refine Below.setCell ?_ (by simp) _)⟩
theorem happeningIn_3 (e : Ev) (w : World) (hk : e.kd = 3) : Calls Try.prog 57 #[.agg #[.int .i64 e.kd, .int .i64 e.nu, .int .i64 e.mb, .int .i64 e.tk, .string e.tx, .int .i64 e.rp]] w fun v w' => v = .returned (.tuple #[.iface 177 (.agg #[.int .i64 e.nu, .int .i64 e.mb]), .bool true]) ∧ Below w.heap.size w w' := by
  rw [hk]
  go_enter Try.func57, Try.ntmps57
  go_wp2
  go_ret2
  exact ⟨rfl, by repeat (first | exact Below.refl _ _ | refine Below.setCell ?_ (by simp) _ | refine Below.alloc ?_ (by first | (simp; omega) | simp) _)⟩
set_option maxHeartbeats 3200000 in
theorem event_3 (e : Ev) (w : World) : Calls Try.prog 235 #[.agg #[.int .i64 e.nu, .int .i64 e.mb]] w fun v w' => v = .returned (.agg #[.int .i64 3, .int .i64 e.nu, .int .i64 e.mb, .int .i64 0, .string ⟨#[]⟩, .int .i64 0]) ∧ Below w.heap.size w w' := by
  go_enter Try.func235, Try.ntmps235
  go_wp2_with fail
  obtain ⟨k0, k1, hb0⟩ := two_boxes w 177 26 #[.int .i64 e.nu, .int .i64 e.mb] #[.int .i64 0, .int .i64 0, .int .i64 0, .int .i64 0, .string ⟨#[]⟩, .int .i64 0]
  generalize ((w.alloc (.cells #[.int .i64 e.nu, .int .i64 e.mb] 177)).alloc (.cells #[.int .i64 0, .int .i64 0, .int .i64 0, .int .i64 0, .string ⟨#[]⟩, .int .i64 0] 26)) = W at *
  have c0 := k0.cell 0; have c1 := k0.cell 1
  have lt0 := k0.lt
  go_wp2_with (go_at_call 231; refine (bare_any _ _ _ _).mono ?_; rintro v w1 ⟨rfl, hb1⟩; have k1 := k1.below hb1 k1.lt; have r0 := k1.cell 0; have r1 := k1.cell 1; have r2 := k1.cell 2; have r3 := k1.cell 3; have r4 := k1.cell 4; have r5 := k1.cell 5; have f0 := k1.frozen 0; have f1 := k1.frozen 1; have f2 := k1.frozen 2; have f3 := k1.frozen 3; have f4 := k1.frozen 4; have f5 := k1.frozen 5; have lt1 := k1.lt)
  exact bodyPost_ret (v := .agg #[.int .i64 3, .int .i64 e.nu, .int .i64 e.mb, .int .i64 0, .string ⟨#[]⟩, .int .i64 0]) (by simp [results, Try.results235, go_sem, r0, r1, r2, r3, r4, r5]) rfl ⟨rfl, by have hb2 := hb0.trans (hb1.mono hb0.size); repeat (first | exact hb2 | refine Below.setCell ?_ (by simp) _)⟩
theorem happeningIn_4 (e : Ev) (w : World) (hk : e.kd = 4) : Calls Try.prog 57 #[.agg #[.int .i64 e.kd, .int .i64 e.nu, .int .i64 e.mb, .int .i64 e.tk, .string e.tx, .int .i64 e.rp]] w fun v w' => v = .returned (.tuple #[.iface 178 (.agg #[.int .i64 e.nu, .int .i64 e.mb]), .bool true]) ∧ Below w.heap.size w w' := by
  rw [hk]
  go_enter Try.func57, Try.ntmps57
  go_wp2
  go_ret2
  exact ⟨rfl, by repeat (first | exact Below.refl _ _ | refine Below.setCell ?_ (by simp) _ | refine Below.alloc ?_ (by first | (simp; omega) | simp) _)⟩
set_option maxHeartbeats 3200000 in
theorem event_4 (e : Ev) (w : World) : Calls Try.prog 236 #[.agg #[.int .i64 e.nu, .int .i64 e.mb]] w fun v w' => v = .returned (.agg #[.int .i64 4, .int .i64 e.nu, .int .i64 e.mb, .int .i64 0, .string ⟨#[]⟩, .int .i64 0]) ∧ Below w.heap.size w w' := by
  go_enter Try.func236, Try.ntmps236
  go_wp2_with fail
  obtain ⟨k0, k1, hb0⟩ := two_boxes w 178 26 #[.int .i64 e.nu, .int .i64 e.mb] #[.int .i64 0, .int .i64 0, .int .i64 0, .int .i64 0, .string ⟨#[]⟩, .int .i64 0]
  generalize ((w.alloc (.cells #[.int .i64 e.nu, .int .i64 e.mb] 178)).alloc (.cells #[.int .i64 0, .int .i64 0, .int .i64 0, .int .i64 0, .string ⟨#[]⟩, .int .i64 0] 26)) = W at *
  have c0 := k0.cell 0; have c1 := k0.cell 1
  have lt0 := k0.lt
  go_wp2_with (go_at_call 231; refine (bare_any _ _ _ _).mono ?_; rintro v w1 ⟨rfl, hb1⟩; have k1 := k1.below hb1 k1.lt; have r0 := k1.cell 0; have r1 := k1.cell 1; have r2 := k1.cell 2; have r3 := k1.cell 3; have r4 := k1.cell 4; have r5 := k1.cell 5; have f0 := k1.frozen 0; have f1 := k1.frozen 1; have f2 := k1.frozen 2; have f3 := k1.frozen 3; have f4 := k1.frozen 4; have f5 := k1.frozen 5; have lt1 := k1.lt)
  exact bodyPost_ret (v := .agg #[.int .i64 4, .int .i64 e.nu, .int .i64 e.mb, .int .i64 0, .string ⟨#[]⟩, .int .i64 0]) (by simp [results, Try.results236, go_sem, r0, r1, r2, r3, r4, r5]) rfl ⟨rfl, by have hb2 := hb0.trans (hb1.mono hb0.size); repeat (first | exact hb2 | refine Below.setCell ?_ (by simp) _)⟩
theorem happeningIn_no (e : Ev) (w : World) (h0 : e.kd ≠ 0) (h1 : e.kd ≠ 1) (h2 : e.kd ≠ 2) (h3 : e.kd ≠ 3) (h4 : e.kd ≠ 4) : Calls Try.prog 57 #[.agg #[.int .i64 e.kd, .int .i64 e.nu, .int .i64 e.mb, .int .i64 e.tk, .string e.tx, .int .i64 e.rp]] w fun v w' => v = .returned (.tuple #[.nilIface, .bool false]) ∧ Below w.heap.size w w' := by
  have b0 : (e.kd == 0) = false := by simp [h0]
  have b1 : (e.kd == 1) = false := by simp [h1]
  have b2 : (e.kd == 2) = false := by simp [h2]
  have b3 : (e.kd == 3) = false := by simp [h3]
  have b4 : (e.kd == 4) = false := by simp [h4]
  clear h0 h1 h2 h3 h4
  go_enter Try.func57, Try.ntmps57
  go_wp2
  go_ret2
  exact ⟨rfl, by repeat (first | exact Below.refl _ _ | refine Below.setCell ?_ (by simp) _ | refine Below.alloc ?_ (by first | (simp; omega) | simp) _)⟩
end Go.Proofs.Ytdpclbmcmgknjaa
