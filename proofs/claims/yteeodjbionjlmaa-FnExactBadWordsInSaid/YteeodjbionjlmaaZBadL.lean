import Derived.Test.YteeodjbionjlmaaChecked
import Derived.WalkKit
import Derived.ProofKit
import Derived.OpenShut
import Derived.ShutString
import Derived.ChangeOld
import Derived.Below
import Derived.Lib.Hide
import Derived.Test.YteeodjbionjlmaaZBadS
namespace Go.Proofs.Yteeodjbionjlmaa
open Go.ChangeShapes Go.WideShapes Go.ChangeAt Go.RowKit
open Go.ChangeMaps (open_string shut_string)
set_option linter.unusedVariables false
set_option maxRecDepth 100000
def hasM (xs : List ByteArray) (s : ByteArray) : Bool := textB s && wordsB xs && decide (0 < (badL s xs).length)
theorem impl_BadWordsIn_yes' (A : Option Addr) (n c : Nat) (xs : List ByteArray) (s : ByteArray) (w : World) (h : Row strv w w.heap.size A n xs) (hn : n ≤ 1048576) (hsz : ∀ s ∈ xs, s.size ≤ maxLen) (hs : s.size ≤ maxLen) (hc : textB s = true ∧ wordsB xs = true) :
    Calls Try.prog 25 #[.string s, .slice A n c] w fun e w' => WYes w (badL s xs) e w' := impl_BadWordsIn_yes A n c xs s w h hn hsz hs hc.1 hc.2
theorem impl_HasBadWord_any (A : Option Addr) (n c : Nat) (xs : List ByteArray) (s : ByteArray) (w : World) (h : Row strv w w.heap.size A n xs) (hn : n ≤ 1048576) (hsz : ∀ s ∈ xs, s.size ≤ maxLen) (hs : s.size ≤ maxLen) :
    Calls Try.prog 23 #[.string s, .slice A n c] w fun e w' => e = .returned (.bool (hasM xs s)) ∧ Below w.heap.size w w' := by
  by_cases hc : textB s = true ∧ wordsB xs = true
  · have HR := Lib.hid (show hasM xs s = decide (0 < (badL s xs).length) by unfold hasM; rw [hc.1, hc.2]; rfl)
    go_enter Try.func23, Try.ntmps23
    go_wp2_with fail
    go_at_call 25; refine (impl_BadWordsIn_yes' A n c xs s _ h hn hsz hs hc).mono ?_; rintro e w2 ⟨A2, m2, c2, rfl, how, hb⟩
    have hm : m2 = (badL s xs).length := by simpa using how.1.symm
    have HM := Lib.hid hm
    clear hm how
    go_wp2
    go_ret
    exact ⟨ret_bool (by rw [HR.out, HM.out]), hb⟩
  · have HR := Lib.hid (show hasM xs s = false by
      unfold hasM
      cases h1 : textB s
      · rfl
      · cases h2 : wordsB xs
        · rfl
        · exact absurd ⟨h1, h2⟩ hc)
    go_enter Try.func23, Try.ntmps23
    go_wp2_with fail
    go_at_call 25; refine (impl_BadWordsIn_no A n c xs s _ h hn hsz hs hc).mono ?_; rintro e w2 ⟨rfl, hb⟩
    go_wp2
    go_ret
    exact ⟨ret_bool HR.out.symm, hb⟩
theorem spec_HasBadWord_any (A : Option Addr) (n c : Nat) (xs : List ByteArray) (s : ByteArray) (w : World) (h : Row strv w w.heap.size A n xs) (hn : n ≤ 1048576) (hsz : ∀ s ∈ xs, s.size ≤ maxLen) (hs : s.size ≤ maxLen) :
    Calls Try.prog 21 #[.string s, .slice A n c] w fun e w' => e = .returned (.bool (hasM xs s)) ∧ Below w.heap.size w w' := by
  cases t0 : textB s with
  | false =>
    have HR := Lib.hid (show hasM xs s = false by unfold hasM; rw [t0]; rfl)
    go_enter Try.func21, Try.ntmps21
    go_wp2_with (go_at_call 65; refine (spec_IsText_b _ _ _ hs t0).mono ?_; rintro e w' ⟨rfl, rfl⟩)
    go_ret
    exact ⟨ret_bool HR.out.symm, Below.refl _ _⟩
  | true =>
    have hz := textB_size t0
    cases q0 : wordsB xs with
    | false =>
      have HR := Lib.hid (show hasM xs s = false by unfold hasM; rw [t0, q0]; rfl)
      go_enter Try.func21, Try.ntmps21
      go_wp2_with (first | (go_at_call 65; refine (spec_IsText_b _ _ _ hs t0).mono ?_; rintro e w' ⟨rfl, rfl⟩) | (go_at_call 66; refine (l06Words_r A n c xs _ _ h hn hsz q0).mono ?_; rintro e w2 ⟨rfl, hb⟩))
      go_ret
      exact ⟨ret_bool HR.out.symm, hb⟩
    | true =>
      have HR := Lib.hid (show hasM xs s = decide (0 < (foundL xs (runsL s)).length) by unfold hasM; rw [t0, q0, bad_pos]; rfl)
      go_enter Try.func21, Try.ntmps21
      go_wp2_with (first | (go_at_call 65; refine (spec_IsText_b _ _ _ hs t0).mono ?_; rintro e w' ⟨rfl, rfl⟩) | (go_at_call 66; refine (l06Words_r A n c xs _ _ h hn hsz q0).mono ?_; rintro e w2 ⟨rfl, hb⟩) | (go_at_call 67; refine (l06Found_any A n c xs s _ (h.to hb) hn (by omega)).mono ?_; rintro e w3 ⟨Af, mf, cf, rfl, hof, hbn⟩; have HM := Lib.hid (show mf = (foundL xs (runsL s)).length by simpa using hof.1.symm); clear hof))
      go_ret
      exact ⟨ret_bool (by rw [HR.out, HM.out]), hb.trans (hbn.mono hb.size)⟩
end Go.Proofs.Yteeodjbionjlmaa
