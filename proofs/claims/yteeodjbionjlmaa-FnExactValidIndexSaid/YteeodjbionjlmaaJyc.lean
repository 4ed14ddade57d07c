
namespace Go.Proofs.Yteeodjbionjlmaa
set_option linter.unusedVariables false
/-- rising numbers within bounds -/
def risesB (xs : List Int) (lo hi : Int) : Bool := match xs with
  | [] => true
  | [x] => decide (lo ≤ x ∧ x ≤ hi)
  | x :: y :: r => decide (lo ≤ x ∧ x ≤ hi) && decide (x < y) && risesB (y :: r) lo hi
def RiseTo (xs : List Int) (lo hi : Int) (k : Nat) : Prop := ∀ j x, j < k → xs[j]? = some x → lo ≤ x ∧ x ≤ hi ∧ ∀ y, 0 < j → xs[j - 1]? = some y → y < x
theorem RiseTo.zero (xs : List Int) (lo hi : Int) : RiseTo xs lo hi 0 := fun _ _ h => absurd h (Nat.not_lt_zero _)
theorem RiseTo.succ {xs : List Int} {lo hi : Int} {k : Nat} {x : Int} (h : RiseTo xs lo hi k) (hx : xs[k]? = some x) (h1 : lo ≤ x) (h2 : x ≤ hi) (h3 : ∀ y, 0 < k → xs[k - 1]? = some y → y < x) : RiseTo xs lo hi (k + 1) := by
  intro j z hj hz
  by_cases e : j = k
  · subst e
    rw [hx] at hz; injection hz with hz; subst hz
    exact ⟨h1, h2, h3⟩
  · exact h j z (by omega) hz
theorem rises_iff (xs : List Int) (lo hi : Int) : risesB xs lo hi = true ↔ RiseTo xs lo hi xs.length := by
  induction xs with
  | nil => simp [risesB, RiseTo]
  | cons x r ih =>
    cases r with
    | nil =>
      simp only [risesB, decide_eq_true_eq]
      constructor
      · intro h j z hj hz
        have : j = 0 := by simp at hj; omega
        subst this
        simp at hz; subst hz
        exact ⟨h.1, h.2, fun y hy => absurd hy (by omega)⟩
      · intro h
        have := h 0 x (by simp) rfl
        exact ⟨this.1, this.2.1⟩
    | cons y r =>
      simp only [risesB, Bool.and_eq_true, decide_eq_true_eq, ih]
      constructor
      · rintro ⟨⟨⟨h1, h2⟩, h3⟩, h4⟩ j z hj hz
        cases j with
        | zero => simp at hz; subst hz; exact ⟨h1, h2, fun y hy => absurd hy (by omega)⟩
        | succ j =>
          have hz' : (y :: r)[j]? = some z := by simpa using hz
          have := h4 j z (by simp at hj ⊢; omega) hz'
          refine ⟨this.1, this.2.1, fun u _ hu => ?_⟩
          cases j with
          | zero => simp at hu hz'; subst hu; subst hz'; exact h3
          | succ j => exact this.2.2 u (by omega) (by simpa using hu)
      · intro h
        have h0 := h 0 x (by simp) rfl
        have h1 := h 1 y (by simp) rfl
        refine ⟨⟨⟨h0.1, h0.2.1⟩, h1.2.2 x (by omega) rfl⟩, fun j z hj hz => ?_⟩
        have := h (j + 1) z (by simp at hj ⊢; omega) (by simpa using hz)
        refine ⟨this.1, this.2.1, fun u hj0 hu => this.2.2 u (by omega) ?_⟩
        obtain ⟨i, rfl⟩ : ∃ i, j = i + 1 := ⟨j - 1, by omega⟩
        simpa using hu
theorem rises_full {xs : List Int} {lo hi : Int} {k : Nat} (h : RiseTo xs lo hi k) (hk : xs.length ≤ k) : risesB xs lo hi = true :=
  (rises_iff xs lo hi).2 fun j x hj hx => h j x (by omega) hx
theorem rises_out {xs : List Int} {lo hi x : Int} {k : Nat} (hx : xs[k]? = some x) (h : ¬ (lo ≤ x ∧ x ≤ hi)) : risesB xs lo hi = false := by
  rw [← Bool.not_eq_true, rises_iff]
  intro H
  have := H k x (List.getElem?_eq_some_iff.1 hx).1 hx
  exact h ⟨this.1, this.2.1⟩
theorem rises_flat {xs : List Int} {lo hi x y : Int} {k : Nat} (h0 : 0 < k) (hx : xs[k]? = some x) (hy : xs[k - 1]? = some y) (h : x ≤ y) : risesB xs lo hi = false := by
  rw [← Bool.not_eq_true, rises_iff]
  intro H
  have := (H k x (List.getElem?_eq_some_iff.1 hx).1 hx).2.2 y h0 hy
  omega
def memB (xs : List Int) : Bool := risesB xs 1 1000
end Go.Proofs.Yteeodjbionjlmaa
namespace Go.Proofs.Yteeodjbionjlmaa
set_option linter.unusedVariables false
def textC (c : UInt8) : Bool := 32 ≤ c && c ≤ 126
def textB (s : ByteArray) : Bool := decide (s.size ≤ 80) && s.data.toList.all textC
def AllTo (p : UInt8 → Bool) (s : ByteArray) (k : Nat) : Prop := ∀ j (h : j < s.size), j < k → p s[j] = true
theorem AllTo.zero (p : UInt8 → Bool) (s : ByteArray) : AllTo p s 0 := fun _ _ h => absurd h (Nat.not_lt_zero _)
theorem AllTo.succ {p : UInt8 → Bool} {s : ByteArray} {k : Nat} (h : AllTo p s k) (hk : k < s.size) (hp : p s[k] = true) : AllTo p s (k + 1) := by
  intro j hj hjk
  by_cases e : j = k
  · subst e; exact hp
  · exact h j hj (by omega)
theorem AllTo.all {p : UInt8 → Bool} {s : ByteArray} {k : Nat} (h : AllTo p s k) (hk : s.size ≤ k) : s.data.toList.all p = true := by
  rw [List.all_eq_true]
  intro x hx
  obtain ⟨j, hj, rfl⟩ := List.getElem_of_mem hx
  have hj' : j < s.size := by simpa using hj
  have := h j hj' (by omega)
  simpa [ByteArray.getElem_eq_getElem_data] using this
theorem all_false {p : UInt8 → Bool} {s : ByteArray} {k : Nat} (hk : k < s.size) (hp : p s[k] = false) : s.data.toList.all p = false := by
  rw [List.all_eq_false]
  exact ⟨s[k], by simp [ByteArray.getElem_eq_getElem_data], by simp [hp]⟩
theorem textC_yes {c : UInt8} (h1 : 32 ≤ (c.toNat : Int)) (h2 : (c.toNat : Int) ≤ 126) : textC c = true := by
  simp [textC, UInt8.le_iff_toNat_le]; omega
theorem textC_no {c : UInt8} (h : (c.toNat : Int) < 32 ∨ 126 < (c.toNat : Int)) : textC c = false := by
  simp [textC, UInt8.le_iff_toNat_le]; omega
theorem textB_long {s : ByteArray} (h : 80 < s.size) : textB s = false := by simp [textB]; intro h'; omega
theorem textB_bad {s : ByteArray} {k : Nat} (hk : k < s.size) (hp : textC s[k] = false) : textB s = false := by
  simp only [textB, all_false hk hp, Bool.and_false]
theorem textB_end {s : ByteArray} {k : Nat} (h : AllTo textC s k) (hk : s.size ≤ k) : textB s = decide (s.size ≤ 80) := by
  simp only [textB, h.all hk, Bool.and_true]
end Go.Proofs.Yteeodjbionjlmaa
namespace Go.Proofs.Yteeodjbionjlmaa
set_option linter.unusedVariables false
def nameC (c : UInt8) : Bool := 97 ≤ c && c ≤ 122
def nameB (s : ByteArray) : Bool := decide (1 ≤ s.size ∧ s.size ≤ 8) && s.data.toList.all nameC
theorem nameC_yes {c : UInt8} (h1 : 97 ≤ (c.toNat : Int)) (h2 : (c.toNat : Int) ≤ 122) : nameC c = true := by
  simp [nameC, UInt8.le_iff_toNat_le]; omega
theorem nameC_no {c : UInt8} (h : (c.toNat : Int) < 97 ∨ 122 < (c.toNat : Int)) : nameC c = false := by
  simp [nameC, UInt8.le_iff_toNat_le]; omega
theorem nameB_out {s : ByteArray} (h : ¬ (1 ≤ s.size ∧ s.size ≤ 8)) : nameB s = false := by simp [nameB, h]
theorem nameB_bad {s : ByteArray} {k : Nat} (hk : k < s.size) (hp : nameC s[k] = false) : nameB s = false := by
  simp only [nameB, all_false hk hp, Bool.and_false]
theorem nameB_end {s : ByteArray} {k : Nat} (h : AllTo nameC s k) (hk : s.size ≤ k) : nameB s = decide (1 ≤ s.size ∧ s.size ≤ 8) := by
  simp only [nameB, h.all hk, Bool.and_true]
theorem nameB_in {s : ByteArray} {k : Nat} (h : AllTo nameC s k) (hk : s.size ≤ k) (hs : 1 ≤ s.size ∧ s.size ≤ 8) : nameB s = true := by
  rw [nameB_end h hk]; simp [hs]
end Go.Proofs.Yteeodjbionjlmaa
