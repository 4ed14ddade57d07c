import Derived.Test.YteeodjbionjlmaaChecked
import Derived.WalkKit
import Derived.ProofKit
import Derived.OpenShut
import Derived.ShutString
import Derived.ChangeOld
import Derived.Below
import Derived.Lib.Hide
import Derived.Test.YteeodjbionjlmaaZSnpS
import Derived.Test.YteeodjbionjlmaaZSnpN
namespace Go.Proofs.Yteeodjbionjlmaa
open Go.ChangeShapes Go.WideShapes Go.ChangeAt Go.RowKit
open Go.ChangeMaps (open_string shut_string)
set_option linter.unusedVariables false
set_option maxRecDepth 100000
def snipM (xs : List ByteArray) (s : ByteArray) (t : Int) : ByteArray × Bool := if textB s = true ∧ queryB xs = true ∧ 0 ≤ t ∧ t ≤ 80 then snipR xs s t.toNat else (⟨#[]⟩, false)
theorem snipM_yes {xs : List ByteArray} {s : ByteArray} {t : Nat} (h1 : textB s = true) (h2 : queryB xs = true) (h3 : t ≤ 80) : snipM xs s (t : Int) = snipR xs s t := by
  unfold snipM; rw [if_pos ⟨h1, h2, by omega, by omega⟩]; rfl
theorem snipM_no {xs : List ByteArray} {s : ByteArray} {t : Int} (h : ¬ (textB s = true ∧ queryB xs = true ∧ 0 ≤ t ∧ t ≤ 80)) : snipM xs s t = (⟨#[]⟩, false) := by
  unfold snipM; rw [if_neg h]
theorem snip_not {xs : List ByteArray} {s : ByteArray} {t : Int} (h : ¬ (textB s = true ∧ queryB xs = true ∧ 0 ≤ t ∧ t ≤ 80)) : textB s = false ∨ queryB xs = false ∨ t < 0 ∨ 80 < t := by
  cases h1 : textB s
  · exact .inl rfl
  · cases h2 : queryB xs
    · exact .inr (.inl rfl)
    · have : ¬ (0 ≤ t ∧ t ≤ 80) := fun h3 => h ⟨h1, h2, h3⟩
      omega
theorem spec_SnippetOf_any (A : Option Addr) (n c : Nat) (xs : List ByteArray) (s : ByteArray) (t : Int) (w : World) (h : Row strv w w.heap.size A n xs) (hn : n ≤ 1048576) (hsz : ∀ s ∈ xs, s.size ≤ maxLen) (hs : s.size ≤ maxLen) :
    Calls Try.prog 30 #[.string s, .slice A n c, .int .i64 t] w fun e w' => e = .returned (.tuple #[.string (snipM xs s t).1, .bool (snipM xs s t).2]) ∧ Below w.heap.size w w' := by
  by_cases hc : textB s = true ∧ queryB xs = true ∧ 0 ≤ t ∧ t ≤ 80
  · obtain ⟨h1, h2, h3, h4⟩ := hc
    obtain ⟨k, rfl⟩ : ∃ k : Nat, t = (k : Int) := ⟨t.toNat, by omega⟩
    rw [snipM_yes h1 h2 (by omega)]
    exact spec_SnippetOf_yes A n c xs s k w h hn hsz hs h1 h2 (by omega)
  · rw [snipM_no hc]
    exact spec_SnippetOf_no A n c xs s t w h hn hsz hs (snip_not hc)
theorem impl_SnippetOf_any (A : Option Addr) (n c : Nat) (xs : List ByteArray) (s : ByteArray) (t : Int) (w : World) (h : Row strv w w.heap.size A n xs) (hn : n ≤ 1048576) (hsz : ∀ s ∈ xs, s.size ≤ maxLen) (hs : s.size ≤ maxLen) :
    Calls Try.prog 31 #[.string s, .slice A n c, .int .i64 t] w fun e w' => e = .returned (.tuple #[.string (snipM xs s t).1, .bool (snipM xs s t).2]) ∧ Below w.heap.size w w' := by
  by_cases hc : textB s = true ∧ queryB xs = true ∧ 0 ≤ t ∧ t ≤ 80
  · obtain ⟨h1, h2, h3, h4⟩ := hc
    obtain ⟨k, rfl⟩ : ∃ k : Nat, t = (k : Int) := ⟨t.toNat, by omega⟩
    rw [snipM_yes h1 h2 (by omega)]
    exact impl_SnippetOf_yes A n c xs s k w h hn hsz hs h1 h2 (by omega)
  · rw [snipM_no hc]
    exact impl_SnippetOf_no A n c xs s t w h hn hsz hs (snip_not hc)
end Go.Proofs.Yteeodjbionjlmaa
