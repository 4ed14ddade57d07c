import Derived.Lib.SlicesCompact
import Derived.Test.YteeodjbionjlmaaPlain9
namespace Go.Proofs.Yteeodjbionjlmaa
set_option linter.unusedVariables false
theorem strict_ext : ∀ (l l' : List Int), l.Pairwise (· < ·) → l'.Pairwise (· < ·) → (∀ x, x ∈ l ↔ x ∈ l') → l = l' := by
  intro l
  induction l with
  | nil =>
    intro l' _ _ h
    cases l' with
    | nil => rfl
    | cons y r => exact absurd ((h y).2 (by simp)) (by simp)
  | cons x r ih =>
    intro l' h1 h2 h
    cases l' with
    | nil => exact absurd ((h x).1 (by simp)) (by simp)
    | cons y r' =>
      rw [List.pairwise_cons] at h1 h2
      have hxy : x = y := by
        have a := (h x).1 (by simp)
        have b := (h y).2 (by simp)
        rcases List.mem_cons.1 a with a | a
        · exact a
        · rcases List.mem_cons.1 b with b | b
          · exact b.symm
          · have := h1.1 y b; have := h2.1 x a; omega
      subst hxy
      congr 1
      refine ih r' h1.2 h2.2 fun z => ⟨fun hz => ?_, fun hz => ?_⟩
      · have := h1.1 z hz
        rcases List.mem_cons.1 ((h z).1 (by simp [hz])) with e | e
        · omega
        · exact e
      · have := h2.1 z hz
        rcases List.mem_cons.1 ((h z).2 (by simp [hz])) with e | e
        · omega
        · exact e
open Lib in
theorem upTo_facts (d : Array Int) (hd : ∀ j, 0 < j → j < d.size → d[j - 1]! ≤ d[j]!) : ∀ m, m ≤ d.size → (∀ x, x ∈ compactUpTo d m ↔ ∃ j, j < m ∧ d[j]! = x) ∧ (compactUpTo d m).Pairwise (· < ·) ∧ (∀ x ∈ compactUpTo d m, 0 < m → x ≤ d[m - 1]!) ∧ (compactUpTo d m).length ≤ m := by
  intro m
  induction m with
  | zero => intro _; simp [compactUpTo]
  | succ m ih =>
    intro hm
    obtain ⟨i1, i2, i3, i4⟩ := ih (by omega)
    rw [compactUpTo_succ]
    by_cases hk : keeps d m = true
    · rw [if_pos hk]
      have hlt : ∀ x ∈ compactUpTo d m, x < d[m]! := by
        intro x hx
        have h0 : 0 < m := by
          rcases Nat.eq_zero_or_pos m with h | h
          · subst h; simp [compactUpTo] at hx
          · exact h
        have h1 := i3 x hx h0
        have h2 := hd m h0 (by omega)
        have h3 : d[m]! ≠ d[m - 1]! := by
          simp only [keeps, decide_eq_true_eq] at hk
          rcases hk with h | h
          · omega
          · exact h
        omega
      refine ⟨fun x => ?_, ?_, ?_, by simp; omega⟩
      · simp only [List.mem_append, List.mem_singleton]
        constructor
        · rintro (h | h)
          · obtain ⟨j, hj, e⟩ := (i1 x).1 h
            exact ⟨j, by omega, e⟩
          · exact ⟨m, by omega, h.symm⟩
        · rintro ⟨j, hj, e⟩
          by_cases hjm : j = m
          · subst hjm; exact .inr e.symm
          · exact .inl ((i1 x).2 ⟨j, by omega, e⟩)
      · rw [List.pairwise_append]
        exact ⟨i2, by simp, fun x hx y hy => by simp at hy; subst hy; exact hlt x hx⟩
      · intro x hx _
        simp only [List.mem_append, List.mem_singleton] at hx
        rcases hx with h | h
        · have := hlt x h; simpa using Int.le_of_lt this
        · simp [h]
    · rw [if_neg hk]
      simp only [keeps, decide_eq_true_eq, not_or, Decidable.not_not] at hk
      obtain ⟨h0, he⟩ := hk
      refine ⟨fun x => ?_, by simpa using i2, ?_, by simp; omega⟩
      · rw [List.append_nil, i1 x]
        constructor
        · rintro ⟨j, hj, e⟩; exact ⟨j, by omega, e⟩
        · rintro ⟨j, hj, e⟩
          by_cases hjm : j = m
          · subst hjm; exact ⟨j - 1, by omega, by rw [← he, e]⟩
          · exact ⟨j, by omega, e⟩
      · intro x hx _
        rw [List.append_nil] at hx
        have := i3 x hx (by omega)
        show x ≤ d[m + 1 - 1]!
        rw [show m + 1 - 1 = m by omega, he]
        exact this
theorem compact_facts (l : List Int) (h : l.Pairwise (· ≤ ·)) : (∀ x, x ∈ Lib.compact l ↔ x ∈ l) ∧ (Lib.compact l).Pairwise (· < ·) ∧ (Lib.compact l).length ≤ l.length := by
  have hd : ∀ j, 0 < j → j < l.toArray.size → l.toArray[j - 1]! ≤ l.toArray[j]! := by
    intro j h0 hj
    have hj' : j < l.length := by simpa using hj
    rw [getElem!_pos l.toArray (j - 1) (by simp; omega), getElem!_pos l.toArray j hj]
    simp only [List.getElem_toArray]
    exact (List.pairwise_iff_getElem.1 h) (j - 1) j (by omega) hj' (by omega)
  obtain ⟨h1, h2, _, h4⟩ := upTo_facts l.toArray hd l.length (by simp)
  refine ⟨fun x => ?_, h2, h4⟩
  unfold Lib.compact
  rw [h1 x]
  constructor
  · rintro ⟨j, hj, e⟩
    rw [getElem!_pos l.toArray j (by simpa using hj)] at e
    subst e
    simp
  · intro hx
    obtain ⟨j, hj, e⟩ := List.mem_iff_getElem.1 hx
    refine ⟨j, hj, ?_⟩
    rw [getElem!_pos l.toArray j (by simpa using hj)]
    simpa using e
def setL (xs : List Int) : List Int := Lib.compact (xs.mergeSort fun x y => decide (x ≤ y))
theorem sorted_sort (xs : List Int) : (xs.mergeSort fun x y => decide (x ≤ y)).Pairwise (· ≤ ·) := by
  have := List.pairwise_mergeSort (le := fun x y : Int => decide (x ≤ y)) (fun a b c h1 h2 => by simp at *; omega) (fun a b => by simp; omega) xs
  exact this.imp fun h => by simpa using h
theorem setL_facts (xs : List Int) : (∀ x, x ∈ setL xs ↔ x ∈ xs) ∧ (setL xs).Pairwise (· < ·) ∧ (setL xs).length ≤ xs.length := by
  obtain ⟨h1, h2, h3⟩ := compact_facts _ (sorted_sort xs)
  refine ⟨fun x => ?_, h2, by rw [List.length_mergeSort] at h3; exact h3⟩
  show x ∈ Lib.compact _ ↔ _
  rw [h1 x, List.mem_mergeSort]
/-- a number put to its place among rising ones, once -/
def putL (n : Int) : List Int → List Int
  | [] => [n]
  | x :: r => if n ≤ x then (if n < x then n :: x :: r else x :: r) else x :: putL n r
theorem putL_mem (n : Int) (l : List Int) (y : Int) : y ∈ putL n l ↔ y = n ∨ y ∈ l := by
  induction l with
  | nil => simp [putL]
  | cons x r ih =>
    unfold putL
    by_cases h1 : n ≤ x
    · rw [if_pos h1]
      by_cases h2 : n < x
      · rw [if_pos h2]; simp
      · rw [if_neg h2]
        have : n = x := by omega
        subst this
        simp
    · rw [if_neg h1]
      simp only [List.mem_cons, ih]
      constructor
      · rintro (h | h | h)
        · exact .inr (.inl h)
        · exact .inl h
        · exact .inr (.inr h)
      · rintro (h | h | h)
        · exact .inr (.inl h)
        · exact .inl h
        · exact .inr (.inr h)
theorem putL_rise (n : Int) (l : List Int) (h : l.Pairwise (· < ·)) : (putL n l).Pairwise (· < ·) := by
  induction l with
  | nil => simp [putL]
  | cons x r ih =>
    have h' := List.pairwise_cons.1 h
    unfold putL
    by_cases h1 : n ≤ x
    · rw [if_pos h1]
      by_cases h2 : n < x
      · rw [if_pos h2, List.pairwise_cons]
        refine ⟨fun y hy => ?_, h⟩
        rcases List.mem_cons.1 hy with e | e
        · omega
        · have := h'.1 y e; omega
      · rw [if_neg h2]; exact h
    · rw [if_neg h1, List.pairwise_cons]
      refine ⟨fun y hy => ?_, ih h'.2⟩
      rcases (putL_mem n r y).1 hy with e | e
      · omega
      · exact h'.1 y e
theorem putL_len (n : Int) (l : List Int) : (putL n l).length ≤ l.length + 1 := by
  induction l with
  | nil => simp [putL]
  | cons x r ih =>
    unfold putL
    split
    · split <;> simp
    · simpa using ih
def pstep (n : Int) (st : List Int × Bool) (x : Int) : List Int × Bool :=
  if st.2 = false ∧ n ≤ x then ((if n < x then st.1 ++ [n] else st.1) ++ [x], true) else (st.1 ++ [x], st.2)
def pTo (n : Int) (l : List Int) (k : Nat) : List Int × Bool := (l.take k).foldl (pstep n) ([], false)
theorem pTo_succ (n : Int) (l : List Int) (k : Nat) (x : Int) (h : l[k]? = some x) : pTo n l (k + 1) = pstep n (pTo n l k) x := by
  have hk : k < l.length := (List.getElem?_eq_some_iff.1 h).1
  have hp : l[k] = x := (List.getElem?_eq_some_iff.1 h).2
  simp [pTo, List.take_succ_eq_append_getElem hk, hp]
theorem pstep_len (n : Int) (st : List Int × Bool) (x : Int) : (pstep n st x).1.length ≤ st.1.length + 2 := by
  unfold pstep
  split
  · simp only; split <;> simp
  · simp
theorem pTo_len (n : Int) (l : List Int) (k : Nat) (h : k ≤ l.length) : (pTo n l k).1.length ≤ 2 * k := by
  induction k with
  | zero => simp [pTo]
  | succ k ih =>
    rw [pTo_succ n l k l[k] (List.getElem?_eq_getElem (by omega))]
    have := pstep_len n (pTo n l k) l[k]
    have := ih (by omega)
    omega
theorem fold_true (n : Int) : ∀ (l acc : List Int), l.foldl (pstep n) (acc, true) = (acc ++ l, true) := by
  intro l
  induction l with
  | nil => intro acc; simp
  | cons x r ih => intro acc; rw [List.foldl_cons]; simp [pstep, ih]
theorem fold_put (n : Int) : ∀ (l acc : List Int), (if (l.foldl (pstep n) (acc, false)).2 = true then (l.foldl (pstep n) (acc, false)).1 else (l.foldl (pstep n) (acc, false)).1 ++ [n]) = acc ++ putL n l := by
  intro l
  induction l with
  | nil => intro acc; simp [putL]
  | cons x r ih =>
    intro acc
    rw [List.foldl_cons]
    by_cases h1 : n ≤ x
    · have e : pstep n (acc, false) x = ((if n < x then acc ++ [n] else acc) ++ [x], true) := by simp [pstep, h1]
      rw [e, fold_true]
      simp only [if_true, putL, if_pos h1]
      split <;> simp
    · have e : pstep n (acc, false) x = (acc ++ [x], false) := by simp [pstep, h1]
      rw [e, ih (acc ++ [x])]
      simp [putL, h1]
theorem pTo_put (n : Int) (l : List Int) : (if (pTo n l l.length).2 = true then (pTo n l l.length).1 else (pTo n l l.length).1 ++ [n]) = putL n l := by
  have := fold_put n l []
  simpa [pTo] using this
def joinTo (a b : List Int) (k : Nat) : List Int := (b.take k).foldl (fun acc n => putL n acc) a
def joinL (a b : List Int) : List Int := joinTo a b b.length
theorem joinTo_succ (a b : List Int) (k : Nat) (x : Int) (h : b[k]? = some x) : joinTo a b (k + 1) = putL x (joinTo a b k) := by
  have hk : k < b.length := (List.getElem?_eq_some_iff.1 h).1
  have hp : b[k] = x := (List.getElem?_eq_some_iff.1 h).2
  simp [joinTo, List.take_succ_eq_append_getElem hk, hp]
theorem joinTo_len (a b : List Int) (k : Nat) (h : k ≤ b.length) : (joinTo a b k).length ≤ a.length + k := by
  induction k with
  | zero => simp [joinTo]
  | succ k ih =>
    rw [joinTo_succ a b k b[k] (List.getElem?_eq_getElem (by omega))]
    have := putL_len b[k] (joinTo a b k)
    have := ih (by omega)
    omega
theorem fold_facts : ∀ (b a : List Int), a.Pairwise (· < ·) → (b.foldl (fun acc n => putL n acc) a).Pairwise (· < ·) ∧ ∀ y, y ∈ b.foldl (fun acc n => putL n acc) a ↔ y ∈ a ∨ y ∈ b := by
  intro b
  induction b with
  | nil => intro a h; exact ⟨h, by simp⟩
  | cons x r ih =>
    intro a h
    obtain ⟨h1, h2⟩ := ih (putL x a) (putL_rise x a h)
    refine ⟨h1, fun y => ?_⟩
    rw [List.foldl_cons, h2 y, putL_mem]
    simp only [List.mem_cons]
    constructor
    · rintro ((h | h) | h)
      · exact .inr (.inl h)
      · exact .inl h
      · exact .inr (.inr h)
    · rintro (h | h | h)
      · exact .inl (.inr h)
      · exact .inl (.inl h)
      · exact .inr h
theorem setL_join (a b : List Int) (ha : a.Pairwise (· < ·)) : setL (a ++ b) = joinL a b := by
  obtain ⟨s1, s2, _⟩ := setL_facts (a ++ b)
  obtain ⟨j1, j2⟩ := fold_facts b a ha
  refine strict_ext _ _ s2 (by simpa [joinL, joinTo] using j1) fun x => ?_
  rw [s1 x, show joinL a b = b.foldl (fun acc n => putL n acc) a by simp [joinL, joinTo], j2 x, List.mem_append]
theorem memB_pair {xs : List Int} (h : memB xs = true) : xs.Pairwise (· < ·) := by
  rw [List.pairwise_iff_getElem]
  intro i j hi hj hij
  exact rise_lt (mem_rise h) hij hj (List.getElem?_eq_getElem hi) (List.getElem?_eq_getElem hj)
theorem memB_len {xs : List Int} (h : memB xs = true) : xs.length ≤ 1000 := by
  have hr := mem_rise h
  have key : ∀ k x, k < xs.length → xs[k]? = some x → (k : Int) + 1 ≤ x := by
    intro k
    induction k with
    | zero => intro x hk hx; have := (hr 0 x hk hx).1; omega
    | succ k ih =>
      intro x hk hx
      have h1 := ih (xs[k]'(by omega)) (by omega) (List.getElem?_eq_getElem (by omega))
      have h2 := rise_lt hr (i := k) (j := k + 1) (by omega) hk (List.getElem?_eq_getElem (by omega)) hx
      omega
  rcases Nat.eq_zero_or_pos xs.length with h0 | h0
  · omega
  · have h1 := key (xs.length - 1) (xs[xs.length - 1]'(by omega)) (by omega) (List.getElem?_eq_getElem (by omega))
    have h2 := (hr (xs.length - 1) _ (by omega) (List.getElem?_eq_getElem (by omega))).2.1
    omega
theorem setL_nil : setL [] = [] := by
  have := (setL_facts []).2.2
  exact List.length_eq_zero_iff.1 (by simpa using this)
end Go.Proofs.Yteeodjbionjlmaa
