import Derived.Test.YtdpclbmcmgknjaaChecked
import Derived.WalkKit
import Derived.ProofKit
import Derived.OpenShut
import Derived.ShutString
import Derived.ChangeOld
import Derived.Below
import Derived.Lib.Hide
import Derived.Test.YtdpclbmcmgknjaaZListE
import Derived.Test.YtdpclbmcmgknjaaZListK
import Derived.Test.YtdpclbmcmgknjaaZPresT
namespace Go.Proofs.Ytdpclbmcmgknjaa
open Go.ChangeShapes Go.WideShapes Go.ChangeAt Go.RowKit
open Go.ChangeMaps (open_string shut_string)
set_option linter.unusedVariables false
set_option maxRecDepth 100000
theorem isRollE_any (A : Option Addr) (n c : Nat) (xs : List Bn) (w : World) (h : SRow 2 bnC w w.heap.size A n xs) (hn : n ≤ 1048576) :
    Calls Try.prog 146 #[.slice A n c] w fun e w' => e = .returned (.bool (rollB bnB xs)) ∧ Below w.heap.size w w' := by
  have HL := Lib.hid h.1
  by_cases hl : n ≤ 30
  · have HN := Lib.hid hl
    have hl' : decide ((n : Int) ≤ 30) = true := decide_eq_true (by omega)
    clear hl
    go_enter Try.func146, Try.ntmps146
    go_wp2_with (go_at_call 174; refine (areE_any _ _ _ _ _ h hn).mono ?_; rintro e w1 ⟨rfl, hb⟩)
    go_ret
    exact ⟨ret_bool (by rw [rollB, HL.out, decide_eq_true HN.out, Bool.true_and]), hb⟩
  · have HN := Lib.hid hl
    have hl' : decide ((n : Int) ≤ 30) = false := decide_eq_false (by omega)
    clear hl
    go_enter Try.func146, Try.ntmps146
    go_wp2
    go_ret
    exact ⟨ret_bool (by rw [rollB, HL.out, decide_eq_false HN.out, Bool.false_and]), Below.refl _ _⟩
theorem isRollK_any (A : Option Addr) (n c : Nat) (xs : List Bn) (w : World) (h : SRow 2 bnC w w.heap.size A n xs) (hn : n ≤ 1048576) :
    Calls Try.prog 147 #[.slice A n c] w fun e w' => e = .returned (.bool (rollB mkOk xs)) ∧ Below w.heap.size w w' := by
  have HL := Lib.hid h.1
  by_cases hl : n ≤ 30
  · have HN := Lib.hid hl
    have hl' : decide ((n : Int) ≤ 30) = true := decide_eq_true (by omega)
    clear hl
    go_enter Try.func147, Try.ntmps147
    go_wp2_with (go_at_call 175; refine (areK_any _ _ _ _ _ h hn).mono ?_; rintro e w1 ⟨rfl, hb⟩)
    go_ret
    exact ⟨ret_bool (by rw [rollB, HL.out, decide_eq_true HN.out, Bool.true_and]), hb⟩
  · have HN := Lib.hid hl
    have hl' : decide ((n : Int) ≤ 30) = false := decide_eq_false (by omega)
    clear hl
    go_enter Try.func147, Try.ntmps147
    go_wp2
    go_ret
    exact ⟨ret_bool (by rw [rollB, HL.out, decide_eq_false HN.out, Bool.false_and]), Below.refl _ _⟩
set_option maxHeartbeats 800000 in
theorem impl_ValidPresence_any (A1 A2 A3 : Option Addr) (n1 c1 n2 c2 n3 c3 : Nat) (hs ts ks : List Bn) (w : World) (h : PresAt w w.heap.size A1 n1 A2 n2 A3 n3 hs ts ks) (hn : n1 + n2 + n3 ≤ 1048576) :
    Calls Try.prog 103 #[.agg #[.slice A1 n1 c1, .slice A2 n2 c2, .slice A3 n3 c3]] w fun e w' => e = .returned (.bool (presB hs ts ks)) ∧ Below w.heap.size w w' := by
  go_enter Try.func103, Try.ntmps103
  go_wp2_with fail
  obtain ⟨k0, hb0⟩ := one_box w 71 #[.slice A1 n1 c1, .slice A2 n2 c2, .slice A3 n3 c3]
  generalize w.alloc (.cells #[.slice A1 n1 c1, .slice A2 n2 c2, .slice A3 n3 c3] 71) = W at *
  have h := h.to hb0
  cases t1 : rollB bnB hs with
  | false =>
    go_at_call 146; refine (isRollE_any _ _ _ _ _ h.1 (by omega)).mono ?_; rw [t1]; rintro e w1 ⟨rfl, hb1⟩
    go_wp2
    go_ret
    exact ⟨ret_bool (by rw [presB, t1, Bool.false_and]), hb0.trans (hb1.mono hb0.size)⟩
  | true =>
    go_at_call 146; refine (isRollE_any _ _ _ _ _ h.1 (by omega)).mono ?_; rw [t1]; rintro e w1 ⟨rfl, hb1⟩
    have h := h.to hb1
    have k0 := k0.below hb1 k0.lt
    have hb0 := hb0.trans (hb1.mono hb0.size)
    clear hb1
    have l1 := k0.cell 1
    have l2 := k0.cell 2
    have lt0 := k0.lt
    go_wp2_with fail
    clear l1 l2 lt0
    cases t2 : rollB bnB ts with
    | false =>
      go_at_call 146; refine (isRollE_any _ _ _ _ _ h.2.1 (by omega)).mono ?_; rw [t2]; rintro e w1 ⟨rfl, hb1⟩
      go_wp2
      go_ret
      exact ⟨ret_bool (by rw [presB, t1, t2, Bool.false_and, Bool.true_and]), hb0.trans (hb1.mono hb0.size)⟩
    | true =>
      go_at_call 146; refine (isRollE_any _ _ _ _ _ h.2.1 (by omega)).mono ?_; rw [t2]; rintro e w1 ⟨rfl, hb1⟩
      have h := h.to hb1
      have k0 := k0.below hb1 k0.lt
      have hb0 := hb0.trans (hb1.mono hb0.size)
      clear hb1
      have l1 := k0.cell 1
      have l2 := k0.cell 2
      have lt0 := k0.lt
      go_wp2_with fail
      clear l1 l2 lt0
      go_at_call 147; refine (isRollK_any _ _ _ _ _ h.2.2 (by omega)).mono ?_; rintro e w1 ⟨rfl, hb1⟩
      go_wp2
      go_ret
      exact ⟨ret_bool (by rw [presB, t1, t2, Bool.true_and, Bool.true_and]), hb0.trans (hb1.mono hb0.size)⟩
end Go.Proofs.Ytdpclbmcmgknjaa
