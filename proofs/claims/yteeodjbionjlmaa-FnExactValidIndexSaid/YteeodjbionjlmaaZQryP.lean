import Derived.Test.YteeodjbionjlmaaJyc
import Derived.Test.YteeodjbionjlmaaJya
import Derived.Test.YteeodjbionjlmaaZChnP
namespace Go.Proofs.Yteeodjbionjlmaa
set_option linter.unusedVariables false
def wdC (c : UInt8) : Bool := decide ((97 ≤ (c.toNat : Int) ∧ (c.toNat : Int) ≤ 122) ∨ (48 ≤ (c.toNat : Int) ∧ (c.toNat : Int) ≤ 57))
def qwB (s : ByteArray) : Bool := decide (1 ≤ s.size ∧ s.size ≤ 80) && s.data.toList.all wdC
theorem wdC_yes {c : UInt8} (h : wdC c = true) : (97 ≤ (c.toNat : Int) ∧ (c.toNat : Int) ≤ 122) ∨ (48 ≤ (c.toNat : Int) ∧ (c.toNat : Int) ≤ 57) := of_decide_eq_true h
theorem wdC_no {c : UInt8} (h : wdC c = false) : ((c.toNat : Int) < 97 ∨ 122 < (c.toNat : Int)) ∧ ((c.toNat : Int) < 48 ∨ 57 < (c.toNat : Int)) := by
  have := of_decide_eq_false h; omega
theorem wdC_low {c : UInt8} (h : wdC c = true) : lowC (c.toNat : Int) = (c.toNat : Int) ∧ (c.toNat : Int) ≠ 0 := by
  rcases wdC_yes h with h | h
  · exact ⟨lowC_small _ h.1 h.2, by omega⟩
  · exact ⟨lowC_dig _ h.1 h.2, by omega⟩
theorem wdC_bad {c : UInt8} (h : wdC c = false) : (c.toNat : Int) = 0 ∨ lowC (c.toNat : Int) ≠ (c.toNat : Int) := by
  have h1 := wdC_no h
  by_cases hz : (c.toNat : Int) = 0
  · exact .inl hz
  · right
    by_cases hc : 65 ≤ (c.toNat : Int) ∧ (c.toNat : Int) ≤ 90
    · rw [lowC_cap _ hc.1 hc.2]; omega
    · rw [lowC_oth _ (by omega) (by omega) hc]; omega
theorem qwB_out {s : ByteArray} (h : ¬ (1 ≤ s.size ∧ s.size ≤ 80)) : qwB s = false := by simp [qwB, h]
theorem qwB_bad {s : ByteArray} {k : Nat} (hk : k < s.size) (hp : wdC s[k] = false) : qwB s = false := by
  simp only [qwB, all_false hk hp, Bool.and_false]
theorem qwB_in {s : ByteArray} {k : Nat} (h : AllTo wdC s k) (hk : s.size ≤ k) (hs : 1 ≤ s.size ∧ s.size ≤ 80) : qwB s = true := by
  simp only [qwB, h.all hk, Bool.and_true]; simp [hs]
/-- any word follows any other -/
def anF (_ _ : ByteArray) : Bool := true
theorem chG_any : ∀ (xs : List ByteArray) (p : Option ByteArray), chG qwB anF p xs = xs.all qwB := by
  intro xs
  induction xs with
  | nil => intro p; rfl
  | cons x r ih =>
    intro p
    show (lnkG qwB anF p x && chG qwB anF (some x) r) = (qwB x && r.all qwB)
    rw [ih]
    unfold lnkG anF
    cases p <;> simp
def queryB (xs : List ByteArray) : Bool := decide (1 ≤ xs.length) && rowG 8 qwB anF xs
theorem queryB_eq (xs : List ByteArray) : queryB xs = (decide (1 ≤ xs.length ∧ xs.length ≤ 8) && xs.all qwB) := by
  unfold queryB rowG
  rw [chG_any, ← Bool.and_assoc, Bool.decide_and]
end Go.Proofs.Yteeodjbionjlmaa
