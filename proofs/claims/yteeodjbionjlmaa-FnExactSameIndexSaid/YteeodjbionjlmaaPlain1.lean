namespace Go.Proofs.Yteeodjbionjlmaa
set_option linter.unusedVariables false
def textC (c : UInt8) : Bool := 32 ≤ c && c ≤ 126
def textB (s : ByteArray) : Bool := decide (s.size ≤ 80) && s.data.toList.all textC
def AllTo (p : UInt8 → Bool) (s : ByteArray) (k : Nat) : Prop := ∀ j (h : j < s.size), j < k → p s[j] = true
theorem AllTo.zero (p : UInt8 → Bool) (s : ByteArray) : AllTo p s 0 := fun _ _ h => absurd h (Nat.not_lt_zero _)
theorem AllTo.succ {p : UInt8 → Bool} {s : ByteArray} {k : Nat} (h : AllTo p s k) (hk : k < s.size) (hp : p s[k] = true) : AllTo p s (k + 1) := by
  intro j hj hjk
  by_cases e : j = k
  · subst e; exact hp
  · exact h j hj (by omega)
theorem AllTo.all {p : UInt8 → Bool} {s : ByteArray} {k : Nat} (h : AllTo p s k) (hk : s.size ≤ k) : s.data.toList.all p = true := by
  rw [List.all_eq_true]
  intro x hx
  obtain ⟨j, hj, rfl⟩ := List.getElem_of_mem hx
  have hj' : j < s.size := by simpa using hj
  have := h j hj' (by omega)
  simpa [ByteArray.getElem_eq_getElem_data] using this
theorem all_false {p : UInt8 → Bool} {s : ByteArray} {k : Nat} (hk : k < s.size) (hp : p s[k] = false) : s.data.toList.all p = false := by
  rw [List.all_eq_false]
  exact ⟨s[k], by simp [ByteArray.getElem_eq_getElem_data], by simp [hp]⟩
theorem textC_yes {c : UInt8} (h1 : 32 ≤ (c.toNat : Int)) (h2 : (c.toNat : Int) ≤ 126) : textC c = true := by
  simp [textC, UInt8.le_iff_toNat_le]; omega
theorem textC_no {c : UInt8} (h : (c.toNat : Int) < 32 ∨ 126 < (c.toNat : Int)) : textC c = false := by
  simp [textC, UInt8.le_iff_toNat_le]; omega
theorem textB_long {s : ByteArray} (h : 80 < s.size) : textB s = false := by simp [textB]; intro h'; omega
theorem textB_bad {s : ByteArray} {k : Nat} (hk : k < s.size) (hp : textC s[k] = false) : textB s = false := by
  simp only [textB, all_false hk hp, Bool.and_false]
theorem textB_end {s : ByteArray} {k : Nat} (h : AllTo textC s k) (hk : s.size ≤ k) : textB s = decide (s.size ≤ 80) := by
  simp only [textB, h.all hk, Bool.and_true]
end Go.Proofs.Yteeodjbionjlmaa
