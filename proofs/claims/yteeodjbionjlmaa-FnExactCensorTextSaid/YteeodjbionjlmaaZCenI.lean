import Derived.Test.YteeodjbionjlmaaChecked
import Derived.WalkKit
import Derived.ProofKit
import Derived.OpenShut
import Derived.ShutString
import Derived.ChangeOld
import Derived.Below
import Derived.Lib.Hide
import Derived.Shelf.Abstract
import Derived.Test.YteeodjbionjlmaaZCenS
namespace Go.Proofs.Yteeodjbionjlmaa
open Go.ChangeShapes Go.WideShapes Go.ChangeAt Go.RowKit
open Go.ChangeMaps (open_string shut_string)
set_option linter.unusedVariables false
set_option maxRecDepth 100000
theorem impl_CensorText_any (A : Option Addr) (n c : Nat) (xs : List ByteArray) (s : ByteArray) (w : World) (h : Row strv w w.heap.size A n xs) (hn : n ≤ 1048576) (hsz : ∀ s ∈ xs, s.size ≤ maxLen) (hs : s.size ≤ maxLen) :
    Calls Try.prog 27 #[.string s, .slice A n c] w fun e w' => e = .returned (.tuple #[.string (cenM xs s).1, .bool (cenM xs s).2]) ∧ Below w.heap.size w w' := by
  cases t0 : textB s with
  | false =>
    have HR := Lib.hid (show cenM xs s = (⟨#[]⟩, false) by unfold cenM; rw [if_neg (by rw [t0]; simp)])
    go_enter Try.func27, Try.ntmps27
    go_wp2_with (go_at_call 62; refine (impl_IsText_b _ _ _ hs t0).mono ?_; rintro e w' ⟨rfl, rfl⟩)
    go_ret2
    exact ⟨ret_snip HR.out, Below.refl _ _⟩
  | true =>
    cases q0 : wordsB xs with
    | false =>
      have HR := Lib.hid (show cenM xs s = (⟨#[]⟩, false) by unfold cenM; rw [if_neg (by rw [q0]; simp)])
      go_enter Try.func27, Try.ntmps27
      go_wp2_with (first | (go_at_call 62; refine (impl_IsText_b _ _ _ hs t0).mono ?_; rintro e w' ⟨rfl, rfl⟩) | (go_at_call 69; refine (impl_Words_r A n c xs _ _ h hn hsz q0).mono ?_; rintro e w2 ⟨rfl, hb⟩))
      go_ret2
      exact ⟨ret_snip HR.out, hb⟩
    | true =>
      have HR := Lib.hid (show cenM xs s = (chgAll s cenF (hitsL xs s), true) by unfold cenM; rw [if_pos ⟨t0, q0⟩])
      go_enter Try.func27, Try.ntmps27
      go_wp2_with (first | (go_at_call 62; refine (impl_IsText_b _ _ _ hs t0).mono ?_; rintro e w' ⟨rfl, rfl⟩) | (go_at_call 69; refine (impl_Words_r A n c xs _ _ h hn hsz q0).mono ?_; rintro e w2 ⟨rfl, hb⟩) | (go_at_call 72; refine (changedRuns_any A n c xs s 73 cenF _ (h.to hb) hn t0 cenF_size cenF_call (enters_of Try.func73 (by kernel_rfl) rfl)).mono ?_; rintro e w3 ⟨rfl, hb3⟩))
      go_ret2
      exact ⟨ret_snip HR.out, hb.trans (hb3.mono hb.size)⟩
theorem spec_CensorText_any (A : Option Addr) (n c : Nat) (xs : List ByteArray) (s : ByteArray) (w : World) (h : Row strv w w.heap.size A n xs) (hn : n ≤ 1048576) (hsz : ∀ s ∈ xs, s.size ≤ maxLen) (hs : s.size ≤ maxLen) :
    Calls Try.prog 26 #[.string s, .slice A n c] w fun e w' => e = .returned (.tuple #[.string (cenM xs s).1, .bool (cenM xs s).2]) ∧ Below w.heap.size w w' := by
  by_cases hc : textB s = true ∧ wordsB xs = true
  · rw [show cenM xs s = (chgAll s cenF (hitsL xs s), true) by unfold cenM; rw [if_pos hc]]
    exact spec_CensorText_yes A n c xs s w h hn hsz hs hc.1 hc.2
  · rw [show cenM xs s = (⟨#[]⟩, false) by unfold cenM; rw [if_neg hc]]
    exact spec_CensorText_no A n c xs s w h hn hsz hs hc
end Go.Proofs.Yteeodjbionjlmaa
