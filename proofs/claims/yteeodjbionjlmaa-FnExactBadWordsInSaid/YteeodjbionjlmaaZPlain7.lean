import Derived.Test.YteeodjbionjlmaaZPlain6
namespace Go.Proofs.Yteeodjbionjlmaa
set_option linter.unusedVariables false
def nib (c : Int) : Int := if 48 ≤ c ∧ c ≤ 57 then c - 48 else if 97 ≤ c ∧ c ≤ 102 then c - 87 else -1
theorem nib_bd (c : Int) : -1 ≤ nib c ∧ nib c ≤ 15 := by unfold nib; split <;> (try split) <;> omega
theorem nib_lo (c : Int) (h : c < 48) : nib c = -1 := by unfold nib; rw [if_neg (by omega), if_neg (by omega)]
theorem nib_dig (c : Int) (h : 48 ≤ c) (h2 : c ≤ 57) : nib c = c - 48 := by unfold nib; rw [if_pos ⟨h, h2⟩]
theorem nib_mid (c : Int) (h : 57 < c) (h2 : c < 97) : nib c = -1 := by unfold nib; rw [if_neg (by omega), if_neg (by omega)]
theorem nib_let (c : Int) (h : 97 ≤ c) (h2 : c ≤ 102) : nib c = c - 97 + 10 := by unfold nib; rw [if_neg (by omega), if_pos ⟨h, h2⟩]; omega
theorem nib_hi (c : Int) (h : 102 < c) : nib c = -1 := by unfold nib; rw [if_neg (by omega), if_neg (by omega)]
theorem hexD_nib (d : Int) (h0 : 0 ≤ d) (h1 : d < 16) : nib (hexD d) = d := by
  unfold nib hexD; split <;> (split <;> (try split) <;> omega)
theorem nib_hexD (c : Int) (h : 0 ≤ nib c) : hexD (nib c) = c := by
  revert h; unfold nib hexD; split
  · intro _; rw [if_pos (by omega)]; omega
  · split
    · intro _; rw [if_neg (by omega)]; omega
    · intro h; omega
def byteAt (s : ByteArray) (j : Nat) : Int := ((s.data.toList.getD j 0).toNat : Int)
theorem byteAt_eq (s : ByteArray) (j : Nat) (h : j < s.size) : byteAt s j = (s[j].toNat : Int) := by
  unfold byteAt
  rw [List.getD_eq_getElem?_getD, List.getElem?_eq_getElem (by simpa using h)]
  rfl
def HexTo (s : ByteArray) (k : Nat) : Prop := ∀ j, j < k → 0 ≤ nib (byteAt s j)
def unhL (s : ByteArray) (k : Nat) : List Int := (List.range k).map fun j => 16 * nib (byteAt s (2 * j)) + nib (byteAt s (2 * j + 1))
theorem HexTo.zero (s : ByteArray) : HexTo s 0 := fun _ h => absurd h (Nat.not_lt_zero _)
theorem HexTo.two {s : ByteArray} {k : Nat} (h : HexTo s (2 * k)) (h0 : 2 * k + 1 < s.size) (h1 : 0 ≤ nib (s[2 * k].toNat : Int)) (h2 : 0 ≤ nib (s[2 * k + 1].toNat : Int)) : HexTo s (2 * (k + 1)) := by
  intro j hj
  by_cases e : j < 2 * k
  · exact h j e
  · by_cases e2 : j = 2 * k
    · subst e2; rw [byteAt_eq s _ (by omega)]; exact h1
    · have e3 : j = 2 * k + 1 := by omega
      subst e3; rw [byteAt_eq s _ (by omega)]; exact h2
theorem unhL_zero (s : ByteArray) : unhL s 0 = [] := rfl
theorem unhL_len (s : ByteArray) (k : Nat) : (unhL s k).length = k := by simp [unhL]
theorem unhL_succ (s : ByteArray) (k : Nat) (h : 2 * k + 1 < s.size) : unhL s (k + 1) = unhL s k ++ [16 * nib (s[2 * k].toNat : Int) + nib (s[2 * k + 1].toNat : Int)] := by
  simp only [unhL, List.range_succ, List.map_append, List.map_cons, List.map_nil]
  rw [byteAt_eq s (2 * k) (by omega), byteAt_eq s (2 * k + 1) h]
theorem HexTo.not0 {s : ByteArray} {k : Nat} (h : 2 * k + 1 < s.size) (h1 : nib (s[2 * k].toNat : Int) < 0) : ¬ HexTo s s.size := by
  intro H; have := H (2 * k) (by omega); rw [byteAt_eq s _ (by omega)] at this; omega
theorem HexTo.not1 {s : ByteArray} {k : Nat} (h : 2 * k + 1 < s.size) (h1 : nib (s[2 * k + 1].toNat : Int) < 0) : ¬ HexTo s s.size := by
  intro H; have := H (2 * k + 1) h; rw [byteAt_eq s _ h] at this; omega
/-- the value of a hexadecimal digit as the program reckons it, for any byte -/
def hv (c : Int) : Int := if 97 ≤ c then c - 97 + 10 else (c - 48) % 256
theorem hv_bd (c : Int) (h0 : 0 ≤ c) (h1 : c < 256) : 0 ≤ hv c ∧ hv c < 256 := by unfold hv; split <;> omega
theorem hv_nib (c : Int) (h0 : 0 ≤ c) (h1 : c < 256) (h : 0 ≤ nib c) : hv c = nib c := by
  unfold hv
  by_cases a : 97 ≤ c
  · rw [if_pos a]
    by_cases b : c ≤ 102
    · rw [nib_let c a b]
    · rw [nib_hi c (by omega)] at h; omega
  · rw [if_neg a]
    by_cases b : c < 48
    · rw [nib_lo c b] at h; omega
    · by_cases d : c ≤ 57
      · rw [nib_dig c (by omega) d]; omega
      · rw [nib_mid c (by omega) (by omega)] at h; omega
end Go.Proofs.Yteeodjbionjlmaa
