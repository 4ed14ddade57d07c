namespace Go.Proofs.Ytblkonfphaalhaa
def tokX (n m : Int) : Nat → Int
  | 0 => n
  | k + 1 => (1103515245 * tokX n m k + 12345 + m) % 2147483648
def tokB (n m : Int) (k : Nat) : Int := tokX n m (k + 1) / 65536 % 256
def tokL (n m : Int) (k : Nat) : List Int := (List.range k).map (tokB n m)
theorem tokX_bd (n m : Int) (h0 : 0 ≤ n) (h1 : n ≤ 2000000000) (k : Nat) : 0 ≤ tokX n m k ∧ tokX n m k < 2147483648 := by
  cases k with
  | zero => exact ⟨h0, by show n < _; omega⟩
  | succ k => simp only [tokX]; omega
theorem tokX_succ (n m : Int) (k : Nat) : tokX n m (k + 1) = (1103515245 * tokX n m k + 12345 + m) % 2147483648 := rfl
theorem tokL_zero (n m : Int) : tokL n m 0 = [] := rfl
theorem tokL_len (n m : Int) (k : Nat) : (tokL n m k).length = k := by simp [tokL]
theorem tokL_succ (n m : Int) (k : Nat) : tokL n m (k + 1) = tokL n m k ++ [tokB n m k] := by simp [tokL, List.range_succ]
theorem tokL_eq (n m : Int) (k : Nat) : tokL n m (k + 1) = tokL n m k ++ [(1103515245 * tokX n m k + 12345 + m) % 2147483648 / 65536 % 256] := by
  rw [tokL_succ]; rfl
end Go.Proofs.Ytblkonfphaalhaa
