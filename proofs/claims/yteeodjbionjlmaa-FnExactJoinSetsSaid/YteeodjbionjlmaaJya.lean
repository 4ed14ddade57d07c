
namespace Go.Proofs.Yteeodjbionjlmaa
set_option linter.unusedVariables false
/-- the hexadecimal digit of 0 to 15 -/
def hexD (d : Int) : Int := if d < 10 then 48 + d else 87 + d
theorem hexD_bd (d : Int) (h0 : 0 ≤ d) (h1 : d < 16) : 48 ≤ hexD d ∧ hexD d ≤ 102 := by unfold hexD; split <;> omega
theorem hexS_at : ∀ i : Fin 16, (((⟨#[48, 49, 50, 51, 52, 53, 54, 55, 56, 57, 97, 98, 99, 100, 101, 102]⟩ : ByteArray)[i.1]'(by have := i.2; show i.1 < 16; omega)).toNat : Int) = hexD i.1 := by decide
theorem hexS_get (d : Int) (h0 : 0 ≤ d) (h1 : d < 16) (h : d.toNat < (⟨#[48, 49, 50, 51, 52, 53, 54, 55, 56, 57, 97, 98, 99, 100, 101, 102]⟩ : ByteArray).size) :
    (((⟨#[48, 49, 50, 51, 52, 53, 54, 55, 56, 57, 97, 98, 99, 100, 101, 102]⟩ : ByteArray)[d.toNat]'h).toNat : Int) = hexD d := by
  have := hexS_at ⟨d.toNat, by omega⟩
  rw [this]
  congr 1
  show ((d.toNat : Nat) : Int) = d
  omega
def hexL (l : List UInt8) : List Int := l.flatMap fun c => [hexD ((c.toNat : Int) / 16), hexD ((c.toNat : Int) % 16)]
def hexTo (s : ByteArray) (k : Nat) : List Int := hexL (s.data.toList.take k)
theorem hexTo_zero (s : ByteArray) : hexTo s 0 = [] := by simp [hexTo, hexL]
theorem hexTo_succ (s : ByteArray) (k : Nat) (h : k < s.size) : hexTo s (k + 1) = hexTo s k ++ [hexD ((s[k].toNat : Int) / 16), hexD ((s[k].toNat : Int) % 16)] := by
  unfold hexTo hexL
  rw [List.take_succ_eq_append_getElem (by simpa using h), List.flatMap_append]
  rfl
theorem hexTo_len (s : ByteArray) (k : Nat) (h : k ≤ s.size) : (hexTo s k).length = 2 * k := by
  induction k with
  | zero => simp [hexTo_zero]
  | succ k ih => rw [hexTo_succ s k (by omega), List.length_append, ih (by omega)]; simp; omega
theorem hexTo_end (s : ByteArray) (k : Nat) (h : s.size ≤ k) : hexTo s k = hexL s.data.toList := by
  unfold hexTo; rw [List.take_of_length_le (by simpa using h)]
end Go.Proofs.Yteeodjbionjlmaa
namespace Go.Proofs.Yteeodjbionjlmaa
set_option linter.unusedVariables false
def nib (c : Int) : Int := if 48 ≤ c ∧ c ≤ 57 then c - 48 else if 97 ≤ c ∧ c ≤ 102 then c - 87 else -1
theorem nib_bd (c : Int) : -1 ≤ nib c ∧ nib c ≤ 15 := by unfold nib; split <;> (try split) <;> omega
theorem nib_lo (c : Int) (h : c < 48) : nib c = -1 := by unfold nib; rw [if_neg (by omega), if_neg (by omega)]
theorem nib_dig (c : Int) (h : 48 ≤ c) (h2 : c ≤ 57) : nib c = c - 48 := by unfold nib; rw [if_pos ⟨h, h2⟩]
theorem nib_mid (c : Int) (h : 57 < c) (h2 : c < 97) : nib c = -1 := by unfold nib; rw [if_neg (by omega), if_neg (by omega)]
theorem nib_let (c : Int) (h : 97 ≤ c) (h2 : c ≤ 102) : nib c = c - 97 + 10 := by unfold nib; rw [if_neg (by omega), if_pos ⟨h, h2⟩]; omega
theorem nib_hi (c : Int) (h : 102 < c) : nib c = -1 := by unfold nib; rw [if_neg (by omega), if_neg (by omega)]
theorem hexD_nib (d : Int) (h0 : 0 ≤ d) (h1 : d < 16) : nib (hexD d) = d := by
  unfold nib hexD; split <;> (split <;> (try split) <;> omega)
theorem nib_hexD (c : Int) (h : 0 ≤ nib c) : hexD (nib c) = c := by
  revert h; unfold nib hexD; split
  · intro _; rw [if_pos (by omega)]; omega
  · split
    · intro _; rw [if_neg (by omega)]; omega
    · intro h; omega
def byteAt (s : ByteArray) (j : Nat) : Int := ((s.data.toList.getD j 0).toNat : Int)
theorem byteAt_eq (s : ByteArray) (j : Nat) (h : j < s.size) : byteAt s j = (s[j].toNat : Int) := by
  unfold byteAt
  rw [List.getD_eq_getElem?_getD, List.getElem?_eq_getElem (by simpa using h)]
  rfl
def HexTo (s : ByteArray) (k : Nat) : Prop := ∀ j, j < k → 0 ≤ nib (byteAt s j)
def unhL (s : ByteArray) (k : Nat) : List Int := (List.range k).map fun j => 16 * nib (byteAt s (2 * j)) + nib (byteAt s (2 * j + 1))
theorem HexTo.zero (s : ByteArray) : HexTo s 0 := fun _ h => absurd h (Nat.not_lt_zero _)
theorem HexTo.two {s : ByteArray} {k : Nat} (h : HexTo s (2 * k)) (h0 : 2 * k + 1 < s.size) (h1 : 0 ≤ nib (s[2 * k].toNat : Int)) (h2 : 0 ≤ nib (s[2 * k + 1].toNat : Int)) : HexTo s (2 * (k + 1)) := by
  intro j hj
  by_cases e : j < 2 * k
  · exact h j e
  · by_cases e2 : j = 2 * k
    · subst e2; rw [byteAt_eq s _ (by omega)]; exact h1
    · have e3 : j = 2 * k + 1 := by omega
      subst e3; rw [byteAt_eq s _ (by omega)]; exact h2
theorem unhL_zero (s : ByteArray) : unhL s 0 = [] := rfl
theorem unhL_len (s : ByteArray) (k : Nat) : (unhL s k).length = k := by simp [unhL]
theorem unhL_succ (s : ByteArray) (k : Nat) (h : 2 * k + 1 < s.size) : unhL s (k + 1) = unhL s k ++ [16 * nib (s[2 * k].toNat : Int) + nib (s[2 * k + 1].toNat : Int)] := by
  simp only [unhL, List.range_succ, List.map_append, List.map_cons, List.map_nil]
  rw [byteAt_eq s (2 * k) (by omega), byteAt_eq s (2 * k + 1) h]
theorem HexTo.not0 {s : ByteArray} {k : Nat} (h : 2 * k + 1 < s.size) (h1 : nib (s[2 * k].toNat : Int) < 0) : ¬ HexTo s s.size := by
  intro H; have := H (2 * k) (by omega); rw [byteAt_eq s _ (by omega)] at this; omega
theorem HexTo.not1 {s : ByteArray} {k : Nat} (h : 2 * k + 1 < s.size) (h1 : nib (s[2 * k + 1].toNat : Int) < 0) : ¬ HexTo s s.size := by
  intro H; have := H (2 * k + 1) h; rw [byteAt_eq s _ h] at this; omega
/-- the value of a hexadecimal digit as the program reckons it, for any byte -/
def hv (c : Int) : Int := if 97 ≤ c then c - 97 + 10 else (c - 48) % 256
theorem hv_bd (c : Int) (h0 : 0 ≤ c) (h1 : c < 256) : 0 ≤ hv c ∧ hv c < 256 := by unfold hv; split <;> omega
theorem hv_nib (c : Int) (h0 : 0 ≤ c) (h1 : c < 256) (h : 0 ≤ nib c) : hv c = nib c := by
  unfold hv
  by_cases a : 97 ≤ c
  · rw [if_pos a]
    by_cases b : c ≤ 102
    · rw [nib_let c a b]
    · rw [nib_hi c (by omega)] at h; omega
  · rw [if_neg a]
    by_cases b : c < 48
    · rw [nib_lo c b] at h; omega
    · by_cases d : c ≤ 57
      · rw [nib_dig c (by omega) d]; omega
      · rw [nib_mid c (by omega) (by omega)] at h; omega
end Go.Proofs.Yteeodjbionjlmaa
namespace Go.Proofs.Yteeodjbionjlmaa
set_option linter.unusedVariables false
def lowC (b : Int) : Int := if (97 ≤ b ∧ b ≤ 122) ∨ (48 ≤ b ∧ b ≤ 57) then b else if 65 ≤ b ∧ b ≤ 90 then b + 32 else 0
theorem lowC_small (b : Int) (h : 97 ≤ b) (h2 : b ≤ 122) : lowC b = b := by unfold lowC; rw [if_pos (.inl ⟨h, h2⟩)]
theorem lowC_dig (b : Int) (h : 48 ≤ b) (h2 : b ≤ 57) : lowC b = b := by unfold lowC; rw [if_pos (.inr ⟨h, h2⟩)]
theorem lowC_cap (b : Int) (h : 65 ≤ b) (h2 : b ≤ 90) : lowC b = b - 65 + 97 := by unfold lowC; rw [if_neg (by omega), if_pos ⟨h, h2⟩]; omega
theorem lowC_oth (b : Int) (h : ¬ (97 ≤ b ∧ b ≤ 122)) (h2 : ¬ (48 ≤ b ∧ b ≤ 57)) (h3 : ¬ (65 ≤ b ∧ b ≤ 90)) : lowC b = 0 := by unfold lowC; rw [if_neg (by omega), if_neg h3]
theorem lowC_bd (b : Int) (h0 : 0 ≤ b) (h1 : b < 256) : 0 ≤ lowC b ∧ lowC b < 128 := by unfold lowC; split <;> (try split) <;> omega
abbrev WSt := List (List Int) × List Int
def wstep (st : WSt) (b : Int) : WSt := if lowC b ≠ 0 then (st.1, st.2 ++ [lowC b]) else if st.2 = [] then st else (st.1 ++ [st.2], [])
def wTo (s : ByteArray) : Nat → WSt
  | 0 => ([], [])
  | k + 1 => wstep (wTo s k) (byteAt s k)
theorem wstep_put (st : WSt) (b c : Int) (h : lowC b = c) (hc : c ≠ 0) : wstep st b = (st.1, st.2 ++ [c]) := by subst h; simp [wstep, hc]
theorem wstep_none (st : WSt) (b : Int) (h : lowC b = 0) (hc : st.2 = []) : wstep st b = st := by simp [wstep, h, hc]
theorem wstep_end (st : WSt) (b : Int) (h : lowC b = 0) (hc : st.2 ≠ []) : wstep st b = (st.1 ++ [st.2], []) := by simp [wstep, h, hc]
theorem byteAt_out (s : ByteArray) : byteAt s s.size = 0 := by
  unfold byteAt
  rw [List.getD_eq_getElem?_getD, List.getElem?_eq_none (by simp)]
  rfl
theorem wTo_bd (s : ByteArray) (k : Nat) : (wTo s k).1.length ≤ k ∧ (wTo s k).2.length ≤ k := by
  induction k with
  | zero => simp [wTo]
  | succ k ih =>
    simp only [wTo, wstep]
    split
    · simp; omega
    · split
      · omega
      · simp; omega
def ByteL (l : List Int) : Prop := ∀ x ∈ l, 0 ≤ x ∧ x < 128
theorem byteAt_bd (s : ByteArray) (k : Nat) : 0 ≤ byteAt s k ∧ byteAt s k < 256 := by
  unfold byteAt
  have := (s.data.toList.getD k 0).toNat_lt
  omega
theorem wTo_byte (s : ByteArray) (k : Nat) : ByteL (wTo s k).2 := by
  induction k with
  | zero => intro x hx; simp [wTo] at hx
  | succ k ih =>
    simp only [wTo, wstep]
    split
    · intro x hx
      rcases List.mem_append.1 hx with h | h
      · exact ih x h
      · simp at h; subst h; have := byteAt_bd s k; exact lowC_bd _ this.1 this.2
    · split
      · exact ih
      · intro x hx; simp at hx
end Go.Proofs.Yteeodjbionjlmaa
