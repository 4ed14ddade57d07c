import Derived.Test.YteeodjbionjlmaaJya
namespace Go.Proofs.Yteeodjbionjlmaa
set_option linter.unusedVariables false
def dMix (c : Int) (ws : List Int) (idx : Nat) : List Int := ws.set (idx % 8) (16777619 * ((ws.getD (idx % 8) 0 + c + ws.getD ((idx + 7) % 8) 0) % 4294967296) % 4294967296)
def dInit (n j : Nat) : List Int := (List.range j).map fun (j : Nat) => (2654435769 * ((j : Int) + 1) + (n : Int)) % 4294967296
def dTo (s : ByteArray) : Nat → List Int
  | 0 => dInit s.size 8
  | k + 1 => if k < s.size then dMix (byteAt s k) (dTo s k) k else dMix 7 (dTo s k) (k - s.size)
def dOut (ws : List Int) : List Int := ws.flatMap fun w => [w / 16777216, w / 65536 % 256, w / 256 % 256, w % 256]
def digL (s : ByteArray) : List Int := dOut (dTo s (s.size + 24))
def IsWords (ws : List Int) : Prop := ws.length = 8 ∧ ∀ x ∈ ws, 0 ≤ x ∧ x < 4294967296
theorem dInit_len (n j : Nat) : (dInit n j).length = j := by simp [dInit]
theorem dInit_succ (n j : Nat) : dInit n (j + 1) = dInit n j ++ [(2654435769 * ((j : Int) + 1) + (n : Int)) % 4294967296] := by simp [dInit, List.range_succ]
theorem dInit_ok (n : Nat) : IsWords (dInit n 8) := by
  refine ⟨dInit_len _ _, fun x hx => ?_⟩
  simp only [dInit, List.mem_map] at hx
  obtain ⟨j, _, rfl⟩ := hx
  omega
theorem IsWords.get {ws : List Int} (h : IsWords ws) (j : Nat) (hj : j < 8) : ∃ x, ws[j]? = some x ∧ ws.getD j 0 = x ∧ 0 ≤ x ∧ x < 4294967296 := by
  have hl : j < ws.length := by have := h.1; omega
  exact ⟨ws[j], List.getElem?_eq_getElem hl, by simp [List.getElem?_eq_getElem hl], h.2 _ (List.getElem_mem hl)⟩
theorem dMix_ok {ws : List Int} (h : IsWords ws) (c : Int) (idx : Nat) : IsWords (dMix c ws idx) := by
  refine ⟨by simp [dMix, h.1], fun x hx => ?_⟩
  rcases List.mem_or_eq_of_mem_set hx with h1 | h1
  · exact h.2 x h1
  · subst h1; omega
theorem dTo_ok (s : ByteArray) (k : Nat) : IsWords (dTo s k) := by
  induction k with
  | zero => exact dInit_ok _
  | succ k ih => simp only [dTo]; split <;> exact dMix_ok ih _ _
theorem dTo_byte (s : ByteArray) (k : Nat) (h : k < s.size) : dTo s (k + 1) = dMix (s[k].toNat : Int) (dTo s k) k := by
  simp only [dTo, if_pos h, byteAt_eq s k h]
theorem dTo_last (s : ByteArray) (k : Nat) (h : ¬ k < s.size) : dTo s (k + 1) = dMix 7 (dTo s k) (k - s.size) := by
  simp only [dTo, if_neg h]
/-- the value that a mix stores, in the two programs' spelling -/
theorem dMix_eq {ws : List Int} {idx : Nat} {c x y : Int} (hx : ws.getD (idx % 8) 0 = x) (hy : ws.getD ((idx + 7) % 8) 0 = y) :
    dMix c ws idx = ws.set (idx % 8) (16777619 * ((x + c + y) % 4294967296) % 4294967296) := by unfold dMix; rw [hx, hy]
theorem dOut_take (ws : List Int) (k : Nat) (x : Int) (h : ws[k]? = some x) : dOut (ws.take (k + 1)) = dOut (ws.take k) ++ [x / 16777216, x / 65536 % 256, x / 256 % 256, x % 256] := by
  have hk : k < ws.length := (List.getElem?_eq_some_iff.1 h).1
  rw [List.take_succ_eq_append_getElem hk]
  rw [List.getElem?_eq_getElem hk] at h
  injection h with h
  rw [h]
  simp [dOut]
theorem dOut_len (ws : List Int) : (dOut ws).length = 4 * ws.length := by
  induction ws with
  | nil => rfl
  | cons x ws ih => simp only [dOut, List.flatMap_cons, List.length_append, List.length_cons, List.length_nil] at ih ⊢; omega
theorem digL_len (s : ByteArray) : (digL s).length = 32 := by rw [digL, dOut_len, (dTo_ok s _).1]
end Go.Proofs.Yteeodjbionjlmaa
