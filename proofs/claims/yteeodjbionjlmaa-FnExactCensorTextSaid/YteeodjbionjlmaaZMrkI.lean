import Derived.Test.YteeodjbionjlmaaChecked
import Derived.WalkKit
import Derived.ProofKit
import Derived.OpenShut
import Derived.ShutString
import Derived.ChangeOld
import Derived.Below
import Derived.Lib.Hide
import Derived.Shelf.Abstract
import Derived.Test.YteeodjbionjlmaaZChgI
import Derived.Test.YteeodjbionjlmaaZMrkS
import Derived.Test.YteeodjbionjlmaaZQryI
import Derived.Test.YteeodjbionjlmaaZSnpN
import Derived.Test.YteeodjbionjlmaaJyg
namespace Go.Proofs.Yteeodjbionjlmaa
open Go.ChangeShapes Go.WideShapes Go.ChangeAt Go.RowKit
open Go.ChangeMaps (open_string shut_string)
set_option linter.unusedVariables false
set_option maxRecDepth 100000
theorem markF_call (r : ByteArray) (w : World) (h1 : 1 ≤ r.size) (h2 : r.size ≤ 80) :
    Calls Try.prog 77 #[.string r] w fun e w' => e = .returned (.string (markF r)) ∧ Below w.heap.size w w' := by
  have hs1 : (⟨#[91]⟩ : ByteArray).size + r.size ≤ 9223372036854775807 := by show 1 + r.size ≤ _; omega
  have hs2 : ((⟨#[91]⟩ : ByteArray) ++ r).size + (⟨#[93]⟩ : ByteArray).size ≤ 9223372036854775807 := by rw [ByteArray.size_append]; show 1 + r.size + 1 ≤ _; omega
  go_enter Try.func77, Try.ntmps77
  go_wp2
  go_ret
  exact ⟨rfl, Below.refl _ _⟩
theorem impl_MarkWords_any (A : Option Addr) (n c : Nat) (xs : List ByteArray) (s : ByteArray) (w : World) (h : Row strv w w.heap.size A n xs) (hn : n ≤ 1048576) (hsz : ∀ s ∈ xs, s.size ≤ maxLen) (hs : s.size ≤ maxLen) :
    Calls Try.prog 29 #[.string s, .slice A n c] w fun e w' => e = .returned (.tuple #[.string (markM xs s).1, .bool (markM xs s).2]) ∧ Below w.heap.size w w' := by
  cases t0 : textB s with
  | false =>
    have HR := Lib.hid (show markM xs s = (⟨#[]⟩, false) by unfold markM; rw [if_neg (by rw [t0]; simp)])
    go_enter Try.func29, Try.ntmps29
    go_wp2_with (go_at_call 62; refine (impl_IsText_b _ _ _ hs t0).mono ?_; rintro e w' ⟨rfl, rfl⟩)
    go_ret2
    exact ⟨ret_snip HR.out, Below.refl _ _⟩
  | true =>
    cases q0 : queryB xs with
    | false =>
      have HR := Lib.hid (show markM xs s = (⟨#[]⟩, false) by unfold markM; rw [if_neg (by rw [q0]; simp)])
      go_enter Try.func29, Try.ntmps29
      go_wp2_with (first | (go_at_call 62; refine (impl_IsText_b _ _ _ hs t0).mono ?_; rintro e w' ⟨rfl, rfl⟩) | (go_at_call 76; refine (impl_Query_r A n c xs _ _ h hn hsz q0).mono ?_; rintro e w2 ⟨rfl, hb⟩))
      go_ret2
      exact ⟨ret_snip HR.out, hb⟩
    | true =>
      have HR := Lib.hid (show markM xs s = (chgAll s markF (hitsL xs s), true) by unfold markM; rw [if_pos ⟨t0, q0⟩])
      go_enter Try.func29, Try.ntmps29
      go_wp2_with (first | (go_at_call 62; refine (impl_IsText_b _ _ _ hs t0).mono ?_; rintro e w' ⟨rfl, rfl⟩) | (go_at_call 76; refine (impl_Query_r A n c xs _ _ h hn hsz q0).mono ?_; rintro e w2 ⟨rfl, hb⟩) | (go_at_call 72; refine (changedRuns_any A n c xs s 77 markF _ (h.to hb) hn t0 markF_size markF_call (enters_of Try.func77 (by kernel_rfl) rfl)).mono ?_; rintro e w3 ⟨rfl, hb3⟩))
      go_ret2
      exact ⟨ret_snip HR.out, hb.trans (hb3.mono hb.size)⟩
theorem spec_MarkWords_any (A : Option Addr) (n c : Nat) (xs : List ByteArray) (s : ByteArray) (w : World) (h : Row strv w w.heap.size A n xs) (hn : n ≤ 1048576) (hsz : ∀ s ∈ xs, s.size ≤ maxLen) (hs : s.size ≤ maxLen) :
    Calls Try.prog 28 #[.string s, .slice A n c] w fun e w' => e = .returned (.tuple #[.string (markM xs s).1, .bool (markM xs s).2]) ∧ Below w.heap.size w w' := by
  by_cases hc : textB s = true ∧ queryB xs = true
  · rw [show markM xs s = (chgAll s markF (hitsL xs s), true) by unfold markM; rw [if_pos hc]]
    exact spec_MarkWords_yes A n c xs s w h hn hsz hs hc.1 hc.2
  · rw [show markM xs s = (⟨#[]⟩, false) by unfold markM; rw [if_neg hc]]
    exact spec_MarkWords_no A n c xs s w h hn hsz hs hc
end Go.Proofs.Yteeodjbionjlmaa
