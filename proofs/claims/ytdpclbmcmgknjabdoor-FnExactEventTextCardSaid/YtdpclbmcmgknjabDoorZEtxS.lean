import Derived.Test.YtdpclbmcmgknjabDoorChecked
import Derived.WalkKit
import Derived.ProofKit
import Derived.OpenShut
import Derived.ShutString
import Derived.ChangeOld
import Derived.Below
import Derived.Lib.Hide
import Derived.Deep.RegionHeld3
import Derived.Test.YtdpclbmcmgknjabDoorZEtxP
import Derived.Test.YtdpclbmcmgknjabDoorZEvtS
namespace Go.Proofs.YtdpclbmcmgknjabDoor
open Go.ChangeShapes Go.WideShapes Go.ChangeAt Go.RowKit
open Go.ChangeMaps (open_string shut_string)
set_option linter.unusedVariables false
set_option maxRecDepth 100000
theorem l01Text5 (e : Ev) (g : Nat) (w : World) (k : Blk w g 2 #[.int .i64 e.kd, .int .i64 e.nu, .int .i64 e.mb, .int .i64 e.tk, .int .i64 e.rp]) (hs : SmallL [e.kd, e.nu, e.mb, e.tk, e.rp]) : Calls Tryd.prog 23 #[.slice (some ⟨g, 0, none⟩) 5 5] w fun v w' => v = .returned (.string (ltS [e.kd, e.nu, e.mb, e.tk, e.rp])) ∧ Below w.heap.size w w' := l01Text_any _ _ _ e.kd [e.nu, e.mb, e.tk, e.rp] _ (row5 k) (by decide) hs
set_option maxHeartbeats 6400000 in
theorem l07Text_any (g : Nat) (e : Ev) (w : World) (k0 : Blk w g 27 #[.int .i64 e.kd, .int .i64 e.nu, .int .i64 e.mb, .int .i64 e.tk, .string e.tx, .int .i64 e.rp]) (hs : SmallL [e.kd, e.nu, e.mb, e.tk, e.rp]) (ht : e.tx.size ≤ 1048576) :
    Calls Tryd.prog 13 #[.pointer (some ⟨g, 0, none⟩)] w fun v w' => v = .returned (.string (evTxt e)) ∧ Below w.heap.size w w' := by
  have k := k0
  have HS := Lib.hid hs
  have hz := ev_size hs ht
  have HEV := Lib.hid (show evTxt e = (ltS [e.kd, e.nu, e.mb, e.tk, e.rp] ++ ⟨#[32]⟩) ++ e.tx from rfl)
  obtain ⟨t5, ht5⟩ : ∃ z, ltS [e.kd, e.nu, e.mb, e.tk, e.rp] = z := ⟨_, rfl⟩
  have HT5 := Lib.hid ht5
  rw [ht5] at hz HEV
  clear ht5
  obtain ⟨hz1, hz2⟩ := hz
  have q2 : (⟨#[32]⟩ : ByteArray).size = 1 := rfl
  have hz3 : ¬ 9223372036854775807 < t5.size + 1 := by rw [q2] at hz1; omega
  have hz4 : ¬ 9223372036854775807 < t5.size + 1 + e.tx.size := by rw [ByteArray.size_append, q2] at hz2; omega
  clear q2 hz1 hz2
  clear hs k0
  go_enter Tryd.func13, Tryd.ntmps13
  go_wp2_with fail
  go_region_held3 (fun w' => w'.cell? ⟨g, 0, none⟩ = some (.int .i64 e.kd) ∧ w'.cell? ⟨g, 1, none⟩ = some (.int .i64 e.nu) ∧ w'.cell? ⟨g, 2, none⟩ = some (.int .i64 e.mb) ∧ w'.cell? ⟨g, 3, none⟩ = some (.int .i64 e.tk) ∧ w'.cell? ⟨g, 4, none⟩ = some (.string e.tx) ∧ w'.cell? ⟨g, 5, none⟩ = some (.int .i64 e.rp)) (first | exact ⟨k_1.cell 0, k_1.cell 1, k_1.cell 2, k_1.cell 3, k_1.cell 4, k_1.cell 5⟩ | exact ⟨(k.alloc _).cell 0, (k.alloc _).cell 1, (k.alloc _).cell 2, (k.alloc _).cell 3, (k.alloc _).cell 4, (k.alloc _).cell 5⟩ | exact ⟨k.cell 0, k.cell 1, k.cell 2, k.cell 3, k.cell 4, k.cell 5⟩) ((go_at_call 23; refine (l01Text5 e _ _ (Blk.new w 2 _).drew HS.out).mono ?_; rw [HT5.out]; rintro v w1 ⟨rfl, hb1⟩; have k_1 := (k.alloc (.cells #[.int .i64 e.kd, .int .i64 e.nu, .int .i64 e.mb, .int .i64 e.tk, .int .i64 e.rp] 2)).drew.below hb1 (by have := k.lt; simp; omega)))
  go_wp2
  go_ret
  exact ⟨by rw [HEV.out]; rfl, ((Below.refl _ _).alloc (Nat.le_refl _) _).drew.trans (hb1.mono (by simp))⟩
theorem spec_EventText_any (e : Ev) (w : World) (hs : e.tx.size ≤ 1048576) : Calls Tryd.prog 6 #[.agg #[.int .i64 e.kd, .int .i64 e.nu, .int .i64 e.mb, .int .i64 e.tk, .string e.tx, .int .i64 e.rp]] w fun v w' => v = .returned (.tuple #[.string (if evB e = true then evTxt e else ⟨#[]⟩), .bool (evB e)]) ∧ Below w.heap.size w w' := by
  obtain ⟨b, hb⟩ : ∃ z, evB e = z := ⟨_, rfl⟩
  obtain ⟨t, ht⟩ : ∃ z, (if evB e = true then evTxt e else ⟨#[]⟩) = z := ⟨_, rfl⟩
  rw [ht, hb]
  have HT := Lib.hid ht; clear ht
  go_enter Tryd.func6, Tryd.ntmps6
  go_wp2_with fail
  obtain ⟨kb, hb0⟩ := one_box w 27 #[.int .i64 e.kd, .int .i64 e.nu, .int .i64 e.mb, .int .i64 e.tk, .string e.tx, .int .i64 e.rp]
  generalize w.alloc (.cells #[.int .i64 e.kd, .int .i64 e.nu, .int .i64 e.mb, .int .i64 e.tk, .string e.tx, .int .i64 e.rp] 27) = W0 at *
  cases b with
  | false =>
    have HT := Lib.hid (show t = ⟨#[]⟩ by rw [← HT.out, hb]; rfl)
    go_at_call 12; refine (l07Event_b _ e _ _ kb hs hb).mono ?_; rintro v w1 ⟨rfl, hq⟩
    have hb1 := hb0.trans (Below.mono (drew_below hq) hb0.size)
    clear hq
    go_wp2
    all_goals exact bodyPost_ret (v := .tuple #[.string ⟨#[]⟩, .bool false]) (by simp [results, Tryd.results6, go_sem]) rfl ⟨by rw [HT.out], hb1⟩
  | true =>
    have HT := Lib.hid (show t = evTxt e by rw [← HT.out, hb]; rfl)
    have HSM := Lib.hid (ev_small hb)
    go_at_call 12; refine (l07Event_b _ e _ _ kb hs hb).mono ?_; rintro v w1 ⟨rfl, hq⟩
    have kb := kb.below (drew_below hq) kb.lt
    have hb1 := hb0.trans (Below.mono (drew_below hq) hb0.size)
    clear hq
    go_wp2_with (go_at_call 13; refine (l07Text_any _ e _ kb HSM.out hs).mono ?_; rintro v w2 ⟨rfl, hb2⟩)
    all_goals exact bodyPost_ret (v := .tuple #[.string (evTxt e), .bool true]) (by simp [results, Tryd.results6, go_sem]) rfl ⟨by rw [HT.out], hb1.trans (hb2.mono hb1.size)⟩
end Go.Proofs.YtdpclbmcmgknjabDoor
