import Derived.Test.YtdpclbmcmgknjaaChecked
import Derived.WalkKit
import Derived.ProofKit
import Derived.OpenShut
import Derived.ShutString
import Derived.ChangeOld
import Derived.Below
import Derived.Lib.Hide
import Derived.Test.YtdpclbmcmgknjaaZForS
import Derived.Test.YtdpclbmcmgknjaaZDelT
import Derived.Test.YtdpclbmcmgknjaaZStrI
namespace Go.Proofs.Ytdpclbmcmgknjaa
open Go.ChangeShapes Go.WideShapes Go.ChangeAt Go.RowKit
open Go.ChangeMaps (open_string shut_string)
set_option linter.unusedVariables false
set_option maxRecDepth 100000
theorem old_tells (tb : Nat) (t : Int) (w : World) (ht : Blk w tb 2 #[.int .i64 t]) : TellsT 79 #[.pointer (some ⟨tb, 0, none⟩)] (oldB t) (tb + 1) w := by
  intro W z hb hs
  have k := ht.below hb (Nat.lt_succ_self _)
  have c0 := (k.alloc (.cells #[.int .i64 z.id, .int .i64 z.byy, .int .i64 z.til] 50)).cell 0
  have lt0 := k.lt
  show Calls Try.prog 79 #[.agg #[.int .i64 z.id, .int .i64 z.byy, .int .i64 z.til], .pointer (some ⟨tb, 0, none⟩)] W _
  clear ht hb k
  go_enter Try.func79, Try.ntmps79
  go_wp2
  go_ret
  exact ⟨rfl, by repeat (first | exact Below.refl _ _ | refine Below.alloc ?_ (by first | (simp; omega) | simp) _)⟩
set_option maxHeartbeats 3200000 in
theorem impl_ForgiveOld_any (A : Option Addr) (n c : Nat) (xs : List Iv) (t : Int) (w : World) (h : SRow 3 ivC w w.heap.size A n xs) (hn : n ≤ 1048576) :
    Calls Try.prog 33 #[.slice A n c, .int .i64 t] w fun e w' => StrOut (forOk t xs) (if forOk t xs = true then forL t xs else []) w e w' := by
  obtain ⟨r, hr⟩ : ∃ z, forOk t xs = z := ⟨_, rfl⟩
  obtain ⟨zs, hzs⟩ : ∃ z, (if forOk t xs = true then forL t xs else []) = z := ⟨_, rfl⟩
  rw [hzs, hr]
  have HZS := Lib.hid (And.intro hr hzs)
  clear hr hzs
  go_enter Try.func33, Try.ntmps33
  go_wp2_with fail
  obtain ⟨k0, hb0⟩ := one_box w 2 #[.int .i64 t]
  have h := h.to hb0
  generalize w.alloc (.cells #[.int .i64 t] 2) = W at *
  cases hA : strikesB xs with
  | false =>
    have HR := Lib.hid (show r = false ∧ zs = [] by have q : forOk t xs = false := (by simp [forOk, hA]); rw [← HZS.out.1, ← HZS.out.2, q]; exact ⟨rfl, rfl⟩)
    go_at_call 74; refine (impl_AreStrikes_any _ _ _ _ _ h hn).mono ?_; rw [hA]; rintro e w1 ⟨rfl, hb1⟩
    have hb0 := hb0.trans (hb1.mono hb0.size)
    go_wp2
    all_goals exact bodyPost_ret (v := .tuple #[.slice none 0 0, .bool false]) (by simp [results, Try.results33, go_sem]) rfl (by rw [HR.out.1, HR.out.2]; exact strout_no hb0)
  | true =>
    go_at_call 74; refine (impl_AreStrikes_any _ _ _ _ _ h hn).mono ?_; rw [hA]; rintro e w1 ⟨rfl, hb1⟩
    have h := h.to hb1; have k0 := k0.below hb1 k0.lt; have hb0 := hb0.trans (hb1.mono hb0.size)
    clear hb1
    have l0 := k0.cell 0; have lt0 := k0.lt
    cases hT : tickB t with
    | false =>
      have HR := Lib.hid (show r = false ∧ zs = [] by have q : forOk t xs = false := (by simp [forOk, hT]); rw [← HZS.out.1, ← HZS.out.2, q]; exact ⟨rfl, rfl⟩)
      go_wp2_with (go_at_call 60; refine (isTick_b _ _ _ hT).mono ?_; rintro e w' ⟨rfl, rfl⟩)
      all_goals exact bodyPost_ret (v := .tuple #[.slice none 0 0, .bool false]) (by simp [results, Try.results33, go_sem]) rfl (by rw [HR.out.1, HR.out.2]; exact strout_no hb0)
    | true =>
      have HR := Lib.hid (show r = true ∧ zs = forL t xs by have q : forOk t xs = true := (by simp [forOk, hA, hT]); rw [← HZS.out.1, ← HZS.out.2, q]; exact ⟨rfl, rfl⟩)
      clear hA
      go_wp2_with (first | (go_at_call 60; refine (isTick_b _ _ _ hT).mono ?_; rintro e w' ⟨rfl, rfl⟩) | (go_at_call 78; refine (cloneT_any _ _ _ _ _ h hn).mono ?_; rintro e w2 ⟨A2, c2, rfl, ho2, hb2⟩))
      have k2 := k0.below hb2 k0.lt
      have ho2 := World.ownsRow.mono ho2 (Nat.succ_le_of_lt lt0)
      have hb0 := hb0.trans (hb2.mono hb0.size)
      have cd := deleteT_any 79 #[.pointer (some ⟨w.heap.size, 0, none⟩)] (enters_of Try.func79 (by kernel_rfl) rfl) (oldB t) A2 n c2 (w.heap.size + 1) xs w2 ho2 hn (Nat.succ_le_of_lt k2.lt) (old_tells _ t w2 k2)
      clear hb2 ho2 k0 l0 lt0 h
      go_wp2_with (go_at_call 77; refine cd.mono ?_; rintro e w3 ⟨A3, n3, c3, rfl, ho3, hb3⟩)
      have ho3 := World.ownsRow.mono ho3 (Nat.le_succ w.heap.size)
      have hb3 := hb0.trans (hb3.mono (Nat.le_succ _))
      all_goals exact bodyPost_ret (v := .tuple #[.slice A3 n3 c3, .bool true]) (by simp [results, Try.results33, go_sem]) rfl (by rw [HR.out.1, HR.out.2]; exact ⟨_, _, _, rfl, ho3, hb3⟩)
end Go.Proofs.Ytdpclbmcmgknjaa
