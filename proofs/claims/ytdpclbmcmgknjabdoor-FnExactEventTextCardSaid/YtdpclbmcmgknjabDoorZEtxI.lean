import Derived.Test.YtdpclbmcmgknjabDoorChecked
import Derived.WalkKit
import Derived.ProofKit
import Derived.OpenShut
import Derived.ShutString
import Derived.ChangeOld
import Derived.Below
import Derived.Lib.Hide
import Derived.Test.YtdpclbmcmgknjabDoorZEtxP
import Derived.Test.YtdpclbmcmgknjabDoorZEvtW
namespace Go.Proofs.YtdpclbmcmgknjabDoor
open Go.ChangeShapes Go.WideShapes Go.ChangeAt Go.RowKit
open Go.ChangeMaps (open_string shut_string)
set_option linter.unusedVariables false
set_option maxRecDepth 100000
set_option maxHeartbeats 6400000 in
theorem impl_EventText_any (e : Ev) (w : World) (hs : e.tx.size ≤ 1048576) (hL : Pow10 w) : Calls Tryd.prog 8 #[.agg #[.int .i64 e.kd, .int .i64 e.nu, .int .i64 e.mb, .int .i64 e.tk, .string e.tx, .int .i64 e.rp]] w fun v w' => v = .returned (.tuple #[.string (if evB e = true then evTxt e else ⟨#[]⟩), .bool (evB e)]) ∧ Below w.heap.size w w' := by
  obtain ⟨b, hb⟩ : ∃ z, evB e = z := ⟨_, rfl⟩
  obtain ⟨t, ht⟩ : ∃ z, (if evB e = true then evTxt e else ⟨#[]⟩) = z := ⟨_, rfl⟩
  rw [ht, hb]
  have HT := Lib.hid ht; clear ht
  have HL := Lib.hid hL; clear hL
  go_enter Tryd.func8, Tryd.ntmps8
  go_wp2_with fail
  obtain ⟨kb, hb0⟩ := one_box w 27 #[.int .i64 e.kd, .int .i64 e.nu, .int .i64 e.mb, .int .i64 e.tk, .string e.tx, .int .i64 e.rp]
  generalize w.alloc (.cells #[.int .i64 e.kd, .int .i64 e.nu, .int .i64 e.mb, .int .i64 e.tk, .string e.tx, .int .i64 e.rp] 27) = W0 at *
  cases b with
  | false =>
    have HT := Lib.hid (show t = ⟨#[]⟩ by rw [← HT.out, hb]; rfl)
    go_at_call 14; refine (impl_ValidEvent_any e _ hs).mono ?_; rw [hb]; rintro v w1 ⟨rfl, hb1⟩
    have hb2 := hb0.trans (hb1.mono hb0.size)
    go_wp2
    all_goals exact bodyPost_ret (v := .tuple #[.string ⟨#[]⟩, .bool false]) (by simp [results, Tryd.results8, go_sem]) rfl ⟨by rw [HT.out], hb2⟩
  | true =>
    have HT := Lib.hid (show t = evTxt e by rw [← HT.out, hb]; rfl)
    have HSM := Lib.hid (ev_small hb)
    go_at_call 14; refine (impl_ValidEvent_any e _ hs).mono ?_; rw [hb]; rintro v w1 ⟨rfl, hb1⟩
    have kb := kb.below hb1 kb.lt
    have hb2 := hb0.trans (hb1.mono hb0.size)
    have HL := Lib.hid (HL.out.below hb2)
    have c0 := kb.cell 0; have c1 := kb.cell 1; have c2 := kb.cell 2; have c3 := kb.cell 3; have c4 := kb.cell 4; have c5 := kb.cell 5; have lt := kb.lt
    clear hb1 hb0
    go_wp2_with fail
    obtain ⟨k5, hbn⟩ := one_box w1 2 #[.int .i64 e.kd, .int .i64 e.nu, .int .i64 e.mb, .int .i64 e.tk, .int .i64 e.rp]
    have kb := kb.below hbn kb.lt
    have hb2 := hb2.trans (hbn.mono hb2.size)
    have HL := Lib.hid (HL.out.below hbn)
    clear hbn c0 c1 c2 c3 c4 c5 lt
    generalize w1.heap.size = g5 at *
    generalize w1.alloc (.cells #[.int .i64 e.kd, .int .i64 e.nu, .int .i64 e.mb, .int .i64 e.tk, .int .i64 e.rp] 2) = W1 at *
    go_at_call 15; refine (impl_ListText_yes _ _ _ [e.kd, e.nu, e.mb, e.tk, e.rp] _ (row5 k5) (by decide) (few_of HSM.out) HL.out).mono ?_; rintro v w2 ⟨rfl, hb3⟩
    have kb := kb.below hb3 kb.lt
    have hb2 := hb2.trans (hb3.mono hb2.size)
    have c0 := kb.cell 0; have c1 := kb.cell 1; have c2 := kb.cell 2; have c3 := kb.cell 3; have c4 := kb.cell 4; have c5 := kb.cell 5; have lt := kb.lt
    obtain ⟨hz1, hz2⟩ := ev_size HSM.out hs
    clear hb3
    go_wp2
    all_goals exact bodyPost_ret (v := .tuple #[.string ((ltS [e.kd, e.nu, e.mb, e.tk, e.rp] ++ ⟨#[32]⟩) ++ e.tx), .bool true]) (by simp [results, Tryd.results8, go_sem]) rfl ⟨by rw [HT.out]; rfl, hb2⟩
end Go.Proofs.YtdpclbmcmgknjabDoor
