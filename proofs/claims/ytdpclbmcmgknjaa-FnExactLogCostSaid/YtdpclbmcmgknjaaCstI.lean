import Derived.Test.YtdpclbmcmgknjaaChecked
import Derived.WalkKit
import Derived.ProofKit
import Derived.OpenShut
import Derived.ShutString
import Derived.ChangeOld
import Derived.Below
import Derived.Lib.Hide
import Derived.Shelf.Abstract
import Derived.Test.YtdpclbmcmgknjaaCstP
import Derived.Test.YtdpclbmcmgknjaaLogV
import Derived.Test.YtdpclbmcmgknjaaMsgA
namespace Go.Proofs.Ytdpclbmcmgknjaa
open Go.ChangeShapes Go.WideShapes Go.ChangeAt Go.RowKit
open Go.ChangeMaps (open_string shut_string)
set_option linter.unusedVariables false
set_option maxRecDepth 100000
set_option maxHeartbeats 1600000 in
theorem msgCost_any (z : Rm) (w : World) (h1 : z.m.likes.length = z.ln) (h2 : z.m.likes.length ≤ 1048576 ∧ z.m.text.size ≤ 1048576) :
    Calls Try.prog 70 #[.agg #[.int .i64 z.m.num, .int .i64 z.m.sdr, .int .i64 z.m.tick, .string z.m.text, .int .i64 z.m.edits, .bool z.m.gone, .int .i64 z.m.reply, .slice z.la z.ln z.lc]] w fun e w' => e = .returned (.int .i64 (mcost z.m)) ∧ Below w.heap.size w w' := by
  have f0 : IntKind.i64.wrap (24 + (z.m.text.size : Int)) = 24 + (z.m.text.size : Int) := IntWalk.i64_in _ (by omega)
  have f1 : IntKind.i64.wrap (2 * (z.ln : Int)) = 2 * (z.ln : Int) := IntWalk.i64_in _ (by omega)
  have f2 : IntKind.i64.wrap (24 + (z.m.text.size : Int) + 2 * (z.ln : Int)) = 24 + (z.m.text.size : Int) + 2 * (z.ln : Int) := IntWalk.i64_in _ (by omega)
  have HM := Lib.hid (show mcost z.m = 24 + (z.m.text.size : Int) + 2 * (z.ln : Int) by unfold mcost; rw [h1])
  clear h1
  go_enter Try.func70, Try.ntmps70
  go_wp2
  go_ret
  exact ⟨by rw [HM.out]; rfl, by repeat (first | exact Below.refl _ _ | refine Below.alloc ?_ (by first | (simp; omega) | simp) _)⟩
set_option maxHeartbeats 3200000 in
theorem costOfM_any (A : Option Addr) (n c : Nat) (rs : List Rm) (w : World) (hL : LogAt w w.heap.size A n rs) (hf : fitL (mgs rs)) :
    Calls Try.prog 69 #[.slice A n c, .func (.func 70) #[] #[]] w fun e w' => e = .returned (.int .i64 (sumC (mgs rs))) ∧ Below w.heap.size w w' := by
  have hnn := fit_n hL hf
  have HF := Lib.hid hf
  have HLn := Lib.hid (show (mgs rs).length = n by rw [mgs_len, hL.len])
  clear hf
  go_enter Try.func69, Try.ntmps69
  go_wp2
  go_loopw [5, 10] (fun v i wr => ∃ (k : Nat), k ≤ n ∧ i = .int .i64 k ∧ v = .int .i64 (sumC ((mgs rs).take k)) ∧ Below w.heap.size w wr) (fun _ i _ => n - (intOf i).toNat)
  case atStart => exact ⟨0, by omega, rfl, by simp [sumC], Below.refl _ _⟩
  case round =>
    obtain ⟨k, hk, rfl, rfl, hbel⟩ := hrel
    by_cases hlt : k < n
    · have hlt' : decide ((k : Int) < (n : Int)) = true := decide_eq_true (by omega)
      obtain ⟨b, off, r, rfl, hb, hz, hr, c0, c1, c2, c3, c4, c5, c6, c7⟩ := (hL.below hbel).atr hlt
      have HZ := Lib.hid (mgs_at hz)
      have hbs := hbel.size
      have h1 := sumC_bd HF.out k
      have h2 := HF.out.2 r.m (List.mem_of_getElem? (mgs_at hz))
      have h3 := mcost_bd HF.out (List.mem_of_getElem? (mgs_at hz))
      have H4 := Lib.hid hr.1
      have H2 := Lib.hid h2
      have HM := Lib.hid (sumC_step HZ.out)
      obtain ⟨y, hy⟩ : ∃ y, sumC ((mgs rs).take k) = y := ⟨_, rfl⟩
      obtain ⟨q, hq⟩ : ∃ q, mcost r.m = q := ⟨_, rfl⟩
      have HQ := Lib.hid hq
      rw [hy] at h1 HM ⊢
      rw [hq] at h3 HM
      clear hy hq
      have f3 : IntKind.i64.wrap (y + q) = y + q := IntWalk.i64_in _ (by omega)
      clear hz hr hL h2
      go_wp2_with fail
      obtain ⟨km, hbm⟩ := one_box wr 105 #[.int .i64 r.m.num, .int .i64 r.m.sdr, .int .i64 r.m.tick, .string r.m.text, .int .i64 r.m.edits, .bool r.m.gone, .int .i64 r.m.reply, .slice r.la r.ln r.lc]
      have hbel := hbel.trans (hbm.mono hbs)
      have hbs := hbel.size
      clear hbm c0 c1 c2 c3 c4 c5 c6 c7
      generalize wr.heap.size = gm at *
      generalize wr.alloc (.cells #[.int .i64 r.m.num, .int .i64 r.m.sdr, .int .i64 r.m.tick, .string r.m.text, .int .i64 r.m.edits, .bool r.m.gone, .int .i64 r.m.reply, .slice r.la r.ln r.lc] 105) = U at *
      have m0 := km.cell 0; have m1 := km.cell 1; have m2 := km.cell 2; have m3 := km.cell 3; have m4 := km.cell 4; have m5 := km.cell 5; have m6 := km.cell 6; have m7 := km.cell 7
      have kml := km.lt
      go_wp2_with fail
      clear m0 m1 m2 m3 m4 m5 m6 m7
      go_at_call 70; refine (msgCost_any r _ H4.out H2.out).mono ?_; rw [HQ.out]; rintro e w1 ⟨rfl, hb1⟩
      have hbel := hbel.trans (hb1.mono hbs)
      go_wp2
      go_roundw
      case rel => exact ⟨k + 1, by omega, by go_num, by rw [HM.out], hbel⟩
      case measure => simp [intOf]; omega
    · have hlt' : decide ((k : Int) < (n : Int)) = false := decide_eq_false (by omega)
      have hkn : k = n := by omega
      subst hkn
      have HT := Lib.hid (show (mgs rs).take k = mgs rs from List.take_of_length_le (by have := HLn.out; omega))
      go_wp2
      go_ret
      exact ⟨by rw [HT.out]; rfl, hbel⟩
theorem impl_LogCost_any (x : Int) (A : Option Addr) (n c : Nat) (rs : List Rm) (w : World) (hL : LogAt w w.heap.size A n rs) (hf : fitL (mgs rs)) :
    Calls Try.prog 22 #[.agg #[.int .i64 x, .slice A n c]] w fun e w' => e = .returned (.tuple #[.int .i64 (if logB x (mgs rs) = true then logC (mgs rs) else 0), .bool (logB x (mgs rs))]) ∧ Below w.heap.size w w' := by
  have HF := Lib.hid hf
  have hs := sumC_bd hf n
  have hnn := fit_n hL hf
  have HLn := Lib.hid (show (mgs rs).length = n by rw [mgs_len, hL.len])
  rw [List.take_of_length_le (by have := HLn.out; omega)] at hs
  go_enter Try.func22, Try.ntmps22
  go_wp2_with fail
  obtain ⟨k0, hb0⟩ := one_box w 38 #[.int .i64 x, .slice A n c]
  have hL := hL.to hb0
  generalize w.alloc (.cells #[.int .i64 x, .slice A n c] 38) = W at *
  clear hf
  cases tl : logB x (mgs rs) with
  | false =>
    go_at_call 68; refine (impl_ValidLog_any _ _ _ _ _ _ hL HF.out).mono ?_; rw [tl]; rintro e w2 ⟨rfl, hb1⟩
    have hb0 := hb0.trans (hb1.mono hb0.size)
    go_wp2
    all_goals exact bodyPost_ret (v := .tuple #[.int .i64 0, .bool false]) (by simp [results, Try.results22, go_sem, logC]) rfl ⟨by first | rfl | simp [logC], hb0⟩
  | true =>
    go_at_call 68; refine (impl_ValidLog_any _ _ _ _ _ _ hL HF.out).mono ?_; rw [tl]; rintro e w2 ⟨rfl, hb1⟩
    have hL := hL.to hb1; have k0 := k0.below hb1 k0.lt; have hb0 := hb0.trans (hb1.mono hb0.size)
    clear hb1
    have l1 := k0.cell 1; have lt0 := k0.lt
    have f0 : IntKind.i64.wrap (10 + sumC (mgs rs)) = 10 + sumC (mgs rs) := IntWalk.i64_in _ (by omega)
    go_wp2_with (go_at_call 69; refine (costOfM_any _ _ _ _ _ hL HF.out).mono ?_; rintro e w3 ⟨rfl, hb1⟩)
    have hb0 := hb0.trans (hb1.mono hb0.size)
    all_goals exact bodyPost_ret (v := .tuple #[.int .i64 (10 + sumC (mgs rs)), .bool true]) (by simp [results, Try.results22, go_sem, logC]) rfl ⟨by first | rfl | simp [logC], hb0⟩
end Go.Proofs.Ytdpclbmcmgknjaa
