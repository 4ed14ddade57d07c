import Derived.Lib.ParseIntB
import Derived.Test.YtdpclbmcmgknjabDoorZDecP
namespace Go.Proofs.YtdpclbmcmgknjabDoor
set_option linter.unusedVariables false
theorem digit_nat (d : Nat) (h : d < 10) : (UInt8.ofNat (48 + d)).toNat = 48 + d := by
  simp
  omega
theorem parse_dec (u : Nat) (hu : u ≤ 1000000000) (r : List UInt8) : Lib.parseUintM 18446744073709551615 0 (Lib.decDigits u ++ r) = Lib.parseUintM 18446744073709551615 u r := by
  induction u using Nat.strongRecOn generalizing r with
  | ind u ih =>
    rw [Lib.decDigits]
    by_cases h : u < 10
    · rw [dif_pos h, List.singleton_append, Lib.parseUintM, digit_nat u h, if_pos (by omega), if_neg (by omega), if_neg (by omega)]
      congr 1
      omega
    · rw [dif_neg h, List.append_assoc, ih (u / 10) (by omega) (by omega), List.singleton_append, Lib.parseUintM, digit_nat (u % 10) (by omega), if_pos (by omega), if_neg (by omega), if_neg (by omega)]
      congr 1
      omega
theorem dec_head (u : Nat) : ∃ c r, Lib.decDigits u = c :: r ∧ 48 ≤ c.toNat ∧ c.toNat ≤ 57 := by
  induction u using Nat.strongRecOn with
  | ind u ih =>
    rw [Lib.decDigits]
    by_cases h : u < 10
    · exact ⟨_, _, by rw [dif_pos h], by rw [digit_nat u h]; omega, by rw [digit_nat u h]; omega⟩
    · obtain ⟨c, r, e, h1, h2⟩ := ih (u / 10) (by omega)
      exact ⟨c, r ++ [UInt8.ofNat (48 + u % 10)], by rw [dif_neg h, e]; rfl, h1, h2⟩
theorem parseUint_dec (u : Nat) (hu : u ≤ 1000000000) : Lib.parseUintB 64 (Lib.decDigits u) = .ok u := by
  obtain ⟨c, r, e, _, _⟩ := dec_head u
  have hne : Lib.decDigits u ≠ [] := by rw [e]; simp
  have := parse_dec u hu []
  rw [List.append_nil] at this
  unfold Lib.parseUintB
  rw [if_neg hne]
  exact this
theorem parseInt_itoa (n : Int) (h0 : -1000000000 ≤ n) (h1 : n ≤ 1000000000) : Lib.parseIntB 64 (Lib.itoa n) = .ok n := by
  unfold Lib.itoa
  by_cases hn : n < 0
  · rw [if_pos hn]
    unfold Lib.parseIntB
    have e45 : (45 : UInt8).toNat = 45 := rfl
    simp only [e45, or_true, if_true, parseUint_dec n.natAbs (by omega)]
    rw [if_neg (by simp), if_neg (by simp; omega)]
    congr 1
    omega
  · rw [if_neg hn]
    obtain ⟨c, r, e, hc1, hc2⟩ := dec_head n.toNat
    have hp := parseUint_dec n.toNat (by omega)
    rw [e] at hp ⊢
    unfold Lib.parseIntB
    have c1 : ¬ (c.toNat = 43 ∨ c.toNat = 45) := by omega
    have c2 : ¬ c.toNat = 45 := by omega
    simp only [if_neg c1]
    rw [hp]
    simp only [c2, not_false_eq_true, true_and, false_and, if_false]
    rw [if_neg (by omega)]
    congr 1
    omega
/-- what the model's loop adds up: digits alone -/
def vstep (a : Nat) (b : UInt8) : Nat := if 48 ≤ b.toNat ∧ b.toNat ≤ 57 then 10 * a + (b.toNat - 48) else a
def vTo (l : List UInt8) (k : Nat) : Nat := (l.take k).foldl vstep 0
theorem vTo_succ (l : List UInt8) (k : Nat) (b : UInt8) (h : l[k]? = some b) : vTo l (k + 1) = vstep (vTo l k) b := by
  have hk : k < l.length := (List.getElem?_eq_some_iff.1 h).1
  have hp : l[k] = b := (List.getElem?_eq_some_iff.1 h).2
  simp [vTo, List.take_succ_eq_append_getElem hk, hp]
theorem vTo_bd (l : List UInt8) (k : Nat) (h : k ≤ l.length) : vTo l k < 10 ^ k := by
  induction k with
  | zero => simp [vTo]
  | succ k ih =>
    have h1 := ih (by omega)
    rw [vTo_succ l k l[k] (List.getElem?_eq_getElem (by omega)), Nat.pow_succ]
    unfold vstep
    split <;> omega
theorem vfold_dec (u : Nat) : (Lib.decDigits u).foldl vstep 0 = u := by
  induction u using Nat.strongRecOn with
  | ind u ih =>
    rw [Lib.decDigits]
    by_cases h : u < 10
    · rw [dif_pos h]
      simp only [List.foldl_cons, List.foldl_nil, vstep, digit_nat u h]
      rw [if_pos (by omega)]; omega
    · rw [dif_neg h, List.foldl_append, ih (u / 10) (by omega)]
      simp only [List.foldl_cons, List.foldl_nil, vstep, digit_nat (u % 10) (by omega)]
      rw [if_pos (by omega)]; omega
/-- the number that the model reads -/
def svL (l : List UInt8) : Int := if l[0]? = some 45 then -(vTo l l.length : Int) else vTo l l.length
theorem svL_itoa (n : Int) : svL (Lib.itoa n) = n := by
  unfold svL vTo
  rw [List.take_length]
  unfold Lib.itoa
  by_cases hn : n < 0
  · have e : vstep 0 45 = 0 := rfl
    rw [if_pos hn, if_pos (by rfl), List.foldl_cons, e, vfold_dec]
    omega
  · rw [if_neg hn, vfold_dec]
    obtain ⟨c, r, e, hc1, hc2⟩ := dec_head n.toNat
    rw [e, if_neg (by simp; intro h; rw [h] at hc1; simp at hc1)]
    omega
theorem dec_len (k u : Nat) (h : u < 10 ^ (k + 1)) : (Lib.decDigits u).length ≤ k + 1 := by
  induction k generalizing u with
  | zero => rw [Lib.decDigits, dif_pos (by simpa using h)]; simp
  | succ k ih =>
    rw [Lib.decDigits]
    by_cases h1 : u < 10
    · rw [dif_pos h1]; simp
    · rw [dif_neg h1, List.length_append]
      have := ih (u / 10) (by rw [Nat.pow_succ] at h; omega)
      simp
      omega
theorem itoa_len (n : Int) (h0 : -1000000000 ≤ n) (h1 : n ≤ 1000000000) : 1 ≤ (Lib.itoa n).length ∧ (Lib.itoa n).length ≤ 11 := by
  have hd := dec_len 9 n.natAbs (by have : n.natAbs ≤ 1000000000 := by omega
                                    exact Nat.lt_of_le_of_lt this (by decide))
  obtain ⟨c, r, e, _, _⟩ := dec_head n.natAbs
  unfold Lib.itoa
  by_cases hn : n < 0
  · rw [if_pos hn]; simp; omega
  · rw [if_neg hn, show n.toNat = n.natAbs by omega, e]
    rw [e] at hd
    simp at hd ⊢
    omega
end Go.Proofs.YtdpclbmcmgknjabDoor
