import Derived.Test.YtdpclbmcmgknjaaChecked
import Derived.WalkKit
import Derived.ProofKit
import Derived.OpenShut
import Derived.ShutString
import Derived.ChangeOld
import Derived.Below
import Derived.Lib.Hide
import Derived.Deep.QuietTactic
import Derived.BigQuiet
import Derived.Test.YtdpclbmcmgknjaaCstP
import Derived.Test.YtdpclbmcmgknjaaLogV
import Derived.Test.YtdpclbmcmgknjaaMsgA
namespace Go.Proofs.Ytdpclbmcmgknjaa
open Go.ChangeShapes Go.WideShapes Go.ChangeAt Go.RowKit
open Go.ChangeMaps (open_string shut_string)
set_option linter.unusedVariables false
set_option maxRecDepth 100000
set_option maxHeartbeats 3200000 in
theorem l07Whole_any (G : Nat) (x : Int) (A : Option Addr) (n c : Nat) (rs : List Rm) (w : World) (hl : Blk w G 38 #[.int .i64 x, .slice A n c]) (hL : LogAt w w.heap.size A n rs) (hf : fitL (mgs rs)) :
    Calls Try.prog 66 #[.pointer (some ⟨G, 0, none⟩)] w fun e w' => e = .returned (.int .i64 (logC (mgs rs))) ∧ Below w.heap.size w w' := by
  have hnn := fit_n hL hf
  have HF := Lib.hid hf
  have HLn := Lib.hid (show (mgs rs).length = n by rw [mgs_len, hL.len])
  clear hf
  have q1 := hl.cell 1
  have q1l := hl.lt
  go_enter Try.func66, Try.ntmps66
  go_wp2
  clear q1 q1l
  go_loopw [3, 10] (fun v i wr => ∃ (k : Nat), k ≤ n ∧ i = .int .i64 k ∧ v = .int .i64 (10 + sumC ((mgs rs).take k)) ∧ Below w.heap.size w wr) (fun _ i _ => n - (intOf i).toNat)
  case atStart => exact ⟨0, by omega, rfl, by simp [sumC], Below.refl _ _⟩
  case round =>
    obtain ⟨k, hk, rfl, rfl, hbel⟩ := hrel
    have l1 := (hl.below hbel hl.lt).cell 1
    have llt := (hl.below hbel hl.lt).lt
    by_cases hlt : k < n
    · have hlt' : decide ((k : Int) < (n : Int)) = true := decide_eq_true (by omega)
      obtain ⟨b, off, r, rfl, hb, hz, hr, c0, c1, c2, c3, c4, c5, c6, c7⟩ := (hL.below hbel).atr hlt
      have HZ := Lib.hid (mgs_at hz)
      have hbs := hbel.size
      have h1 := sumC_bd HF.out k
      have h2 := HF.out.2 r.m (List.mem_of_getElem? (mgs_at hz))
      have h3 := hr.1
      have HM := Lib.hid (show 10 + sumC ((mgs rs).take k) + (24 + (r.m.text.size : Int) + 2 * (r.ln : Int)) = 10 + sumC ((mgs rs).take (k + 1)) by rw [sumC_step HZ.out]; unfold mcost; omega)
      obtain ⟨y, hy⟩ : ∃ y, sumC ((mgs rs).take k) = y := ⟨_, rfl⟩
      rw [hy] at h1 HM ⊢
      clear hy
      have f0 : IntKind.i64.wrap (24 + (r.m.text.size : Int)) = 24 + (r.m.text.size : Int) := IntWalk.i64_in _ (by omega)
      have f1 : IntKind.i64.wrap (2 * (r.ln : Int)) = 2 * (r.ln : Int) := IntWalk.i64_in _ (by omega)
      have f2 : IntKind.i64.wrap (24 + (r.m.text.size : Int) + 2 * (r.ln : Int)) = 24 + (r.m.text.size : Int) + 2 * (r.ln : Int) := IntWalk.i64_in _ (by omega)
      have f3 : IntKind.i64.wrap (10 + y + (24 + (r.m.text.size : Int) + 2 * (r.ln : Int))) = 10 + y + (24 + (r.m.text.size : Int) + 2 * (r.ln : Int)) := IntWalk.i64_in _ (by omega)
      clear hz hr hL hl h3
      go_wp2
      go_quiet (fail)
      go_wp2
      go_roundw
      case rel => exact ⟨k + 1, by omega, by go_num, by rw [HM.out], hbel.trans ((drew_below ⟨_, rfl⟩).mono hbs)⟩
      case measure => simp [intOf]; omega
    · have hlt' : decide ((k : Int) < (n : Int)) = false := decide_eq_false (by omega)
      have hkn : k = n := by omega
      subst hkn
      have HT := Lib.hid (show (mgs rs).take k = mgs rs from List.take_of_length_le (by have := HLn.out; omega))
      go_wp2
      go_ret
      exact ⟨by rw [HT.out]; rfl, hbel⟩
theorem spec_LogCost_any (x : Int) (A : Option Addr) (n c : Nat) (rs : List Rm) (w : World) (hL : LogAt w w.heap.size A n rs) (hf : fitL (mgs rs)) :
    Calls Try.prog 20 #[.agg #[.int .i64 x, .slice A n c]] w fun e w' => e = .returned (.tuple #[.int .i64 (if logB x (mgs rs) = true then logC (mgs rs) else 0), .bool (logB x (mgs rs))]) ∧ Below w.heap.size w w' := by
  have HF := Lib.hid hf
  go_enter Try.func20, Try.ntmps20
  go_wp2_with fail
  obtain ⟨k0, hb0⟩ := one_box w 38 #[.int .i64 x, .slice A n c]
  have hL := hL.to hb0
  generalize w.alloc (.cells #[.int .i64 x, .slice A n c] 38) = W at *
  clear hf
  cases tl : logB x (mgs rs) with
  | false =>
    go_at_call 65; refine (l03Is_any w.heap.size x A n c _ rs _ (k0.cell 0) (k0.cell 1) hL HF.out).mono ?_; rw [tl]; rintro e w2 ⟨rfl, hq⟩
    have hb0 := hb0.trans (Below.mono (drew_below hq) hb0.size)
    clear hq
    go_wp2
    all_goals exact bodyPost_ret (v := .tuple #[.int .i64 0, .bool false]) (by simp [results, Try.results20, go_sem, logC]) rfl ⟨by first | rfl | simp [logC], hb0⟩
  | true =>
    go_at_call 65; refine (l03Is_any w.heap.size x A n c _ rs _ (k0.cell 0) (k0.cell 1) hL HF.out).mono ?_; rw [tl]; rintro e w2 ⟨rfl, hq⟩
    have hb1 := drew_below hq
    have hL := hL.to hb1; have k0 := k0.below hb1 k0.lt; have hb0 := hb0.trans (hb1.mono hb0.size)
    clear hb1 hq
    go_wp2_with (go_at_call 66; refine (l07Whole_any _ _ _ _ _ _ _ k0 hL HF.out).mono ?_; rintro e w3 ⟨rfl, hb1⟩)
    have hb0 := hb0.trans (hb1.mono hb0.size)
    all_goals exact bodyPost_ret (v := .tuple #[.int .i64 (10 + sumC (mgs rs)), .bool true]) (by simp [results, Try.results20, go_sem, logC]) rfl ⟨by first | rfl | simp [logC], hb0⟩
end Go.Proofs.Ytdpclbmcmgknjaa
