import Derived.Test.YteeodjbionjlmaaZRunsP
import Derived.Test.YteeodjbionjlmaaZPlain7
namespace Go.Proofs.Yteeodjbionjlmaa
set_option linter.unusedVariables false
theorem lows_zero (s : ByteArray) (a : Nat) : lows s a a = [] := by simp [lows]
theorem lows_succ (s : ByteArray) (a k : Nat) (h : a ≤ k) : lows s a (k + 1) = lows s a k ++ [lowC (byteAt s k)] := by
  unfold lows
  rw [show k + 1 - a = (k - a) + 1 by omega, ← List.range'_append_1 (s := a) (m := k - a) (n := 1), List.map_append]
  simp [List.range', show a + (k - a) = k by omega]
theorem byteAt_extract (s : ByteArray) (a e j : Nat) (h : a + j < e) (he : e ≤ s.size) : byteAt (s.extract a e) j = byteAt s (a + j) := by
  have h1 : j < (s.extract a e).size := by rw [ByteArray.size_extract]; omega
  rw [byteAt_eq _ _ h1, byteAt_eq _ _ (show a + j < s.size by omega), ByteArray.getElem_extract]
theorem size_extract_in (s : ByteArray) (a e : Nat) (he : e ≤ s.size) : (s.extract a e).size = e - a := by rw [ByteArray.size_extract]; omega
theorem lows_extract (s : ByteArray) (a e : Nat) (ha : a ≤ e) (he : e ≤ s.size) : lows (s.extract a e) 0 (s.extract a e).size = lows s a e := by
  rw [size_extract_in s a e he]
  unfold lows
  rw [Nat.sub_zero]
  apply List.ext_getElem (by simp)
  intro j h1 h2
  simp at h1 h2 ⊢
  rw [byteAt_extract s a e j (by omega) he]
theorem endOf_lt {s : ByteArray} {k : Nat} (h : endOf s k ≠ k) : k < endOf s k := by have := endOf_ge s k; omega
/-- a list of texts has a text -/
def hasS (xs : List ByteArray) (z : ByteArray) : Bool := xs.any (fun y => decide (y.data = z.data))
theorem hasS_iff (xs : List ByteArray) (z : ByteArray) : hasS xs z = true ↔ z ∈ xs := by
  unfold hasS
  rw [List.any_eq_true]
  constructor
  · rintro ⟨y, hy, h⟩
    have h2 : y.data = z.data := of_decide_eq_true h
    obtain rfl : y = z := by cases y; cases z; simp_all
    exact hy
  · intro h; exact ⟨z, h, decide_eq_true rfl⟩
theorem hasS_yes {xs : List ByteArray} {z : ByteArray} (h : z ∈ xs) : hasS xs z = true := (hasS_iff xs z).2 h
theorem hasS_no {xs : List ByteArray} {z : ByteArray} (h : z ∉ xs) : hasS xs z = false := by
  cases e : hasS xs z
  · rfl
  · exact absurd ((hasS_iff xs z).1 e) h
end Go.Proofs.Yteeodjbionjlmaa
