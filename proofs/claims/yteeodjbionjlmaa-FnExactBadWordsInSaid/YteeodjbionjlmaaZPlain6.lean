
namespace Go.Proofs.Yteeodjbionjlmaa
set_option linter.unusedVariables false
/-- the hexadecimal digit of 0 to 15 -/
def hexD (d : Int) : Int := if d < 10 then 48 + d else 87 + d
theorem hexD_bd (d : Int) (h0 : 0 ≤ d) (h1 : d < 16) : 48 ≤ hexD d ∧ hexD d ≤ 102 := by unfold hexD; split <;> omega
theorem hexS_at : ∀ i : Fin 16, (((⟨#[48, 49, 50, 51, 52, 53, 54, 55, 56, 57, 97, 98, 99, 100, 101, 102]⟩ : ByteArray)[i.1]'(by have := i.2; show i.1 < 16; omega)).toNat : Int) = hexD i.1 := by decide
theorem hexS_get (d : Int) (h0 : 0 ≤ d) (h1 : d < 16) (h : d.toNat < (⟨#[48, 49, 50, 51, 52, 53, 54, 55, 56, 57, 97, 98, 99, 100, 101, 102]⟩ : ByteArray).size) :
    (((⟨#[48, 49, 50, 51, 52, 53, 54, 55, 56, 57, 97, 98, 99, 100, 101, 102]⟩ : ByteArray)[d.toNat]'h).toNat : Int) = hexD d := by
  have := hexS_at ⟨d.toNat, by omega⟩
  rw [this]
  congr 1
  show ((d.toNat : Nat) : Int) = d
  omega
def hexL (l : List UInt8) : List Int := l.flatMap fun c => [hexD ((c.toNat : Int) / 16), hexD ((c.toNat : Int) % 16)]
def hexTo (s : ByteArray) (k : Nat) : List Int := hexL (s.data.toList.take k)
theorem hexTo_zero (s : ByteArray) : hexTo s 0 = [] := by simp [hexTo, hexL]
theorem hexTo_succ (s : ByteArray) (k : Nat) (h : k < s.size) : hexTo s (k + 1) = hexTo s k ++ [hexD ((s[k].toNat : Int) / 16), hexD ((s[k].toNat : Int) % 16)] := by
  unfold hexTo hexL
  rw [List.take_succ_eq_append_getElem (by simpa using h), List.flatMap_append]
  rfl
theorem hexTo_len (s : ByteArray) (k : Nat) (h : k ≤ s.size) : (hexTo s k).length = 2 * k := by
  induction k with
  | zero => simp [hexTo_zero]
  | succ k ih => rw [hexTo_succ s k (by omega), List.length_append, ih (by omega)]; simp; omega
theorem hexTo_end (s : ByteArray) (k : Nat) (h : s.size ≤ k) : hexTo s k = hexL s.data.toList := by
  unfold hexTo; rw [List.take_of_length_le (by simpa using h)]
end Go.Proofs.Yteeodjbionjlmaa
