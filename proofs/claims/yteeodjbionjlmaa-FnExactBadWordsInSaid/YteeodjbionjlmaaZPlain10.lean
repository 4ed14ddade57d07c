import Derived.Test.YteeodjbionjlmaaZPlain7
namespace Go.Proofs.Yteeodjbionjlmaa
set_option linter.unusedVariables false
def lowC (b : Int) : Int := if (97 ≤ b ∧ b ≤ 122) ∨ (48 ≤ b ∧ b ≤ 57) then b else if 65 ≤ b ∧ b ≤ 90 then b + 32 else 0
theorem lowC_small (b : Int) (h : 97 ≤ b) (h2 : b ≤ 122) : lowC b = b := by unfold lowC; rw [if_pos (.inl ⟨h, h2⟩)]
theorem lowC_dig (b : Int) (h : 48 ≤ b) (h2 : b ≤ 57) : lowC b = b := by unfold lowC; rw [if_pos (.inr ⟨h, h2⟩)]
theorem lowC_cap (b : Int) (h : 65 ≤ b) (h2 : b ≤ 90) : lowC b = b - 65 + 97 := by unfold lowC; rw [if_neg (by omega), if_pos ⟨h, h2⟩]; omega
theorem lowC_oth (b : Int) (h : ¬ (97 ≤ b ∧ b ≤ 122)) (h2 : ¬ (48 ≤ b ∧ b ≤ 57)) (h3 : ¬ (65 ≤ b ∧ b ≤ 90)) : lowC b = 0 := by unfold lowC; rw [if_neg (by omega), if_neg h3]
theorem lowC_bd (b : Int) (h0 : 0 ≤ b) (h1 : b < 256) : 0 ≤ lowC b ∧ lowC b < 128 := by unfold lowC; split <;> (try split) <;> omega
abbrev WSt := List (List Int) × List Int
def wstep (st : WSt) (b : Int) : WSt := if lowC b ≠ 0 then (st.1, st.2 ++ [lowC b]) else if st.2 = [] then st else (st.1 ++ [st.2], [])
def wTo (s : ByteArray) : Nat → WSt
  | 0 => ([], [])
  | k + 1 => wstep (wTo s k) (byteAt s k)
theorem wstep_put (st : WSt) (b c : Int) (h : lowC b = c) (hc : c ≠ 0) : wstep st b = (st.1, st.2 ++ [c]) := by subst h; simp [wstep, hc]
theorem wstep_none (st : WSt) (b : Int) (h : lowC b = 0) (hc : st.2 = []) : wstep st b = st := by simp [wstep, h, hc]
theorem wstep_end (st : WSt) (b : Int) (h : lowC b = 0) (hc : st.2 ≠ []) : wstep st b = (st.1 ++ [st.2], []) := by simp [wstep, h, hc]
theorem byteAt_out (s : ByteArray) : byteAt s s.size = 0 := by
  unfold byteAt
  rw [List.getD_eq_getElem?_getD, List.getElem?_eq_none (by simp)]
  rfl
theorem wTo_bd (s : ByteArray) (k : Nat) : (wTo s k).1.length ≤ k ∧ (wTo s k).2.length ≤ k := by
  induction k with
  | zero => simp [wTo]
  | succ k ih =>
    simp only [wTo, wstep]
    split
    · simp; omega
    · split
      · omega
      · simp; omega
def ByteL (l : List Int) : Prop := ∀ x ∈ l, 0 ≤ x ∧ x < 128
theorem byteAt_bd (s : ByteArray) (k : Nat) : 0 ≤ byteAt s k ∧ byteAt s k < 256 := by
  unfold byteAt
  have := (s.data.toList.getD k 0).toNat_lt
  omega
theorem wTo_byte (s : ByteArray) (k : Nat) : ByteL (wTo s k).2 := by
  induction k with
  | zero => intro x hx; simp [wTo] at hx
  | succ k ih =>
    simp only [wTo, wstep]
    split
    · intro x hx
      rcases List.mem_append.1 hx with h | h
      · exact ih x h
      · simp at h; subst h; have := byteAt_bd s k; exact lowC_bd _ this.1 this.2
    · split
      · exact ih
      · intro x hx; simp at hx
end Go.Proofs.Yteeodjbionjlmaa
