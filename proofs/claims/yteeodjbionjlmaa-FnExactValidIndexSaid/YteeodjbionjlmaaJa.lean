import Derived.Test.YteeodjbionjlmaaJyc
import Derived.Lib.SlicesCompact
namespace Go.Proofs.Yteeodjbionjlmaa
set_option linter.unusedVariables false
theorem rise_lt {xs : List Int} {lo hi : Int} {n : Nat} (h : RiseTo xs lo hi n) : ∀ {i j : Nat} {a b : Int}, i < j → j < n → xs[i]? = some a → xs[j]? = some b → a < b := by
  intro i j
  induction j with
  | zero => intro a b hij; omega
  | succ j ih =>
    intro a b hij hj ha hb
    have hjl : j + 1 < xs.length := (List.getElem?_eq_some_iff.1 hb).1
    have hstep := (h (j + 1) b hj hb).2.2 (xs[j]'(by omega)) (by omega) (by simp)
    by_cases e : i = j
    · subst e
      have : xs[i]? = some (xs[i]'(by omega)) := List.getElem?_eq_getElem (by omega)
      rw [this] at ha; injection ha with ha; rw [← ha]; exact hstep
    · have := ih (a := a) (b := xs[j]'(by omega)) (by omega) (by omega) ha (List.getElem?_eq_getElem (by omega))
      omega
theorem mem_rise {xs : List Int} (h : memB xs = true) : RiseTo xs 1 1000 xs.length := (rises_iff xs 1 1000).1 h
/-- what a binary search knows: all below i are less, all from j on are not less -/
def Cut (xs : List Int) (t : Int) (i j : Nat) : Prop := (∀ k x, k < i → xs[k]? = some x → x < t) ∧ (∀ k x, j ≤ k → xs[k]? = some x → t ≤ x)
theorem Cut.start (xs : List Int) (t : Int) : Cut xs t 0 xs.length :=
  ⟨fun _ _ h => by omega, fun k x h hx => by have := (List.getElem?_eq_some_iff.1 hx).1; omega⟩
theorem Cut.up {xs : List Int} {t x : Int} {i j h : Nat} (hs : RiseTo xs 1 1000 xs.length) (hc : Cut xs t i j) (hx : xs[h]? = some x) (hl : x < t) : Cut xs t (h + 1) j := by
  refine ⟨fun k y hk hy => ?_, hc.2⟩
  by_cases e : k = h
  · subst e; rw [hx] at hy; injection hy with hy; omega
  · have := rise_lt hs (i := k) (j := h) (by omega) (List.getElem?_eq_some_iff.1 hx).1 hy hx; omega
theorem Cut.down {xs : List Int} {t x : Int} {i j h : Nat} (hs : RiseTo xs 1 1000 xs.length) (hc : Cut xs t i j) (hx : xs[h]? = some x) (hl : t ≤ x) : Cut xs t i h := by
  refine ⟨hc.1, fun k y hk hy => ?_⟩
  by_cases e : k = h
  · subst e; rw [hx] at hy; injection hy with hy; omega
  · have := rise_lt hs (i := h) (j := k) (by omega) (List.getElem?_eq_some_iff.1 hy).1 hx hy; omega
theorem Cut.found {xs : List Int} {t : Int} {i : Nat} (hx : xs[i]? = some t) : decide (t ∈ xs) = true := by
  have h := List.mem_of_getElem? hx; simpa using h
theorem Cut.none_ {xs : List Int} {t : Int} {i : Nat} (hs : RiseTo xs 1 1000 xs.length) (hc : Cut xs t i i) (h : ∀ x, xs[i]? = some x → x ≠ t) : decide (t ∈ xs) = false := by
  rw [decide_eq_false_iff_not]
  intro hm
  obtain ⟨k, hk⟩ := List.getElem?_of_mem hm
  by_cases a : k < i
  · have := hc.1 k t a hk; omega
  · by_cases e : k = i
    · subst e; exact h t hk rfl
    · have hi : i < xs.length := by have := (List.getElem?_eq_some_iff.1 hk).1; omega
      have h1 := hc.2 i (xs[i]) (Nat.le_refl _) (List.getElem?_eq_getElem hi)
      have h4 := rise_lt hs (i := i) (j := k) (by omega) (List.getElem?_eq_some_iff.1 hk).1 (List.getElem?_eq_getElem hi) hk
      omega
def NotIn (xs : List Int) (t : Int) (k : Nat) : Prop := ∀ j x, j < k → xs[j]? = some x → x ≠ t
theorem NotIn.zero (xs : List Int) (t : Int) : NotIn xs t 0 := fun _ _ h => by omega
theorem NotIn.succ {xs : List Int} {t x : Int} {k : Nat} (h : NotIn xs t k) (hx : xs[k]? = some x) (hn : x ≠ t) : NotIn xs t (k + 1) := by
  intro j y hj hy
  by_cases e : j = k
  · subst e; rw [hx] at hy; injection hy with hy; subst hy; exact hn
  · exact h j y (by omega) hy
theorem NotIn.all {xs : List Int} {t : Int} {k : Nat} (h : NotIn xs t k) (hk : xs.length ≤ k) : decide (t ∈ xs) = false := by
  rw [decide_eq_false_iff_not]
  intro hm
  obtain ⟨j, hj⟩ := List.getElem?_of_mem hm
  exact h j t (by have := (List.getElem?_eq_some_iff.1 hj).1; omega) hj rfl
def lessL (xs ys : List Int) : List Int := xs.filter fun x => !decide (x ∈ ys)
def lessTo (xs ys : List Int) (k : Nat) : List Int := lessL (xs.take k) ys
theorem lessTo_zero (xs ys : List Int) : lessTo xs ys 0 = [] := rfl
theorem take_some {α : Type} {xs : List α} {k : Nat} {x : α} (h : xs[k]? = some x) : xs.take (k + 1) = xs.take k ++ [x] := by
  have hk : k < xs.length := (List.getElem?_eq_some_iff.1 h).1
  rw [List.take_succ_eq_append_getElem hk]
  rw [List.getElem?_eq_getElem hk] at h
  injection h with h
  rw [h]
theorem lessTo_in {xs ys : List Int} {k : Nat} {x : Int} (h : xs[k]? = some x) (hm : decide (x ∈ ys) = true) : lessTo xs ys (k + 1) = lessTo xs ys k := by
  have hm' : x ∈ ys := by simpa using hm
  simp [lessTo, lessL, take_some h, List.filter_append, hm']
theorem lessTo_out {xs ys : List Int} {k : Nat} {x : Int} (h : xs[k]? = some x) (hm : decide (x ∈ ys) = false) : lessTo xs ys (k + 1) = lessTo xs ys k ++ [x] := by
  have hm' : x ∉ ys := by simpa using hm
  simp [lessTo, lessL, take_some h, List.filter_append, hm']
theorem lessTo_len (xs ys : List Int) (k : Nat) : (lessTo xs ys k).length ≤ k := by
  unfold lessTo lessL
  have := List.length_filter_le (fun x => !decide (x ∈ ys)) (xs.take k)
  have h2 := List.length_take_le k xs
  omega
theorem lessTo_end (xs ys : List Int) (k : Nat) (h : xs.length ≤ k) : lessTo xs ys k = lessL xs ys := by
  unfold lessTo; rw [List.take_of_length_le h]
end Go.Proofs.Yteeodjbionjlmaa
namespace Go.Proofs.Yteeodjbionjlmaa
set_option linter.unusedVariables false
theorem strict_ext : ∀ (l l' : List Int), l.Pairwise (· < ·) → l'.Pairwise (· < ·) → (∀ x, x ∈ l ↔ x ∈ l') → l = l' := by
  intro l
  induction l with
  | nil =>
    intro l' _ _ h
    cases l' with
    | nil => rfl
    | cons y r => exact absurd ((h y).2 (by simp)) (by simp)
  | cons x r ih =>
    intro l' h1 h2 h
    cases l' with
    | nil => exact absurd ((h x).1 (by simp)) (by simp)
    | cons y r' =>
      rw [List.pairwise_cons] at h1 h2
      have hxy : x = y := by
        have a := (h x).1 (by simp)
        have b := (h y).2 (by simp)
        rcases List.mem_cons.1 a with a | a
        · exact a
        · rcases List.mem_cons.1 b with b | b
          · exact b.symm
          · have := h1.1 y b; have := h2.1 x a; omega
      subst hxy
      congr 1
      refine ih r' h1.2 h2.2 fun z => ⟨fun hz => ?_, fun hz => ?_⟩
      · have := h1.1 z hz
        rcases List.mem_cons.1 ((h z).1 (by simp [hz])) with e | e
        · omega
        · exact e
      · have := h2.1 z hz
        rcases List.mem_cons.1 ((h z).2 (by simp [hz])) with e | e
        · omega
        · exact e
open Lib in
theorem upTo_facts (d : Array Int) (hd : ∀ j, 0 < j → j < d.size → d[j - 1]! ≤ d[j]!) : ∀ m, m ≤ d.size → (∀ x, x ∈ compactUpTo d m ↔ ∃ j, j < m ∧ d[j]! = x) ∧ (compactUpTo d m).Pairwise (· < ·) ∧ (∀ x ∈ compactUpTo d m, 0 < m → x ≤ d[m - 1]!) ∧ (compactUpTo d m).length ≤ m := by
  intro m
  induction m with
  | zero => intro _; simp [compactUpTo]
  | succ m ih =>
    intro hm
    obtain ⟨i1, i2, i3, i4⟩ := ih (by omega)
    rw [compactUpTo_succ]
    by_cases hk : keeps d m = true
    · rw [if_pos hk]
      have hlt : ∀ x ∈ compactUpTo d m, x < d[m]! := by
        intro x hx
        have h0 : 0 < m := by
          rcases Nat.eq_zero_or_pos m with h | h
          · subst h; simp [compactUpTo] at hx
          · exact h
        have h1 := i3 x hx h0
        have h2 := hd m h0 (by omega)
        have h3 : d[m]! ≠ d[m - 1]! := by
          simp only [keeps, decide_eq_true_eq] at hk
          rcases hk with h | h
          · omega
          · exact h
        omega
      refine ⟨fun x => ?_, ?_, ?_, by simp; omega⟩
      · simp only [List.mem_append, List.mem_singleton]
        constructor
        · rintro (h | h)
          · obtain ⟨j, hj, e⟩ := (i1 x).1 h
            exact ⟨j, by omega, e⟩
          · exact ⟨m, by omega, h.symm⟩
        · rintro ⟨j, hj, e⟩
          by_cases hjm : j = m
          · subst hjm; exact .inr e.symm
          · exact .inl ((i1 x).2 ⟨j, by omega, e⟩)
      · rw [List.pairwise_append]
        exact ⟨i2, by simp, fun x hx y hy => by simp at hy; subst hy; exact hlt x hx⟩
      · intro x hx _
        simp only [List.mem_append, List.mem_singleton] at hx
        rcases hx with h | h
        · have := hlt x h; simpa using Int.le_of_lt this
        · simp [h]
    · rw [if_neg hk]
      simp only [keeps, decide_eq_true_eq, not_or, Decidable.not_not] at hk
      obtain ⟨h0, he⟩ := hk
      refine ⟨fun x => ?_, by simpa using i2, ?_, by simp; omega⟩
      · rw [List.append_nil, i1 x]
        constructor
        · rintro ⟨j, hj, e⟩; exact ⟨j, by omega, e⟩
        · rintro ⟨j, hj, e⟩
          by_cases hjm : j = m
          · subst hjm; exact ⟨j - 1, by omega, by rw [← he, e]⟩
          · exact ⟨j, by omega, e⟩
      · intro x hx _
        rw [List.append_nil] at hx
        have := i3 x hx (by omega)
        show x ≤ d[m + 1 - 1]!
        rw [show m + 1 - 1 = m by omega, he]
        exact this
theorem compact_facts (l : List Int) (h : l.Pairwise (· ≤ ·)) : (∀ x, x ∈ Lib.compact l ↔ x ∈ l) ∧ (Lib.compact l).Pairwise (· < ·) ∧ (Lib.compact l).length ≤ l.length := by
  have hd : ∀ j, 0 < j → j < l.toArray.size → l.toArray[j - 1]! ≤ l.toArray[j]! := by
    intro j h0 hj
    have hj' : j < l.length := by simpa using hj
    rw [getElem!_pos l.toArray (j - 1) (by simp; omega), getElem!_pos l.toArray j hj]
    simp only [List.getElem_toArray]
    exact (List.pairwise_iff_getElem.1 h) (j - 1) j (by omega) hj' (by omega)
  obtain ⟨h1, h2, _, h4⟩ := upTo_facts l.toArray hd l.length (by simp)
  refine ⟨fun x => ?_, h2, h4⟩
  unfold Lib.compact
  rw [h1 x]
  constructor
  · rintro ⟨j, hj, e⟩
    rw [getElem!_pos l.toArray j (by simpa using hj)] at e
    subst e
    simp
  · intro hx
    obtain ⟨j, hj, e⟩ := List.mem_iff_getElem.1 hx
    refine ⟨j, hj, ?_⟩
    rw [getElem!_pos l.toArray j (by simpa using hj)]
    simpa using e
def setL (xs : List Int) : List Int := Lib.compact (xs.mergeSort fun x y => decide (x ≤ y))
theorem sorted_sort (xs : List Int) : (xs.mergeSort fun x y => decide (x ≤ y)).Pairwise (· ≤ ·) := by
  have := List.pairwise_mergeSort (le := fun x y : Int => decide (x ≤ y)) (fun a b c h1 h2 => by simp at *; omega) (fun a b => by simp; omega) xs
  exact this.imp fun h => by simpa using h
theorem setL_facts (xs : List Int) : (∀ x, x ∈ setL xs ↔ x ∈ xs) ∧ (setL xs).Pairwise (· < ·) ∧ (setL xs).length ≤ xs.length := by
  obtain ⟨h1, h2, h3⟩ := compact_facts _ (sorted_sort xs)
  refine ⟨fun x => ?_, h2, by rw [List.length_mergeSort] at h3; exact h3⟩
  show x ∈ Lib.compact _ ↔ _
  rw [h1 x, List.mem_mergeSort]
/-- a number put to its place among rising ones, once -/
def putL (n : Int) : List Int → List Int
  | [] => [n]
  | x :: r => if n ≤ x then (if n < x then n :: x :: r else x :: r) else x :: putL n r
theorem putL_mem (n : Int) (l : List Int) (y : Int) : y ∈ putL n l ↔ y = n ∨ y ∈ l := by
  induction l with
  | nil => simp [putL]
  | cons x r ih =>
    unfold putL
    by_cases h1 : n ≤ x
    · rw [if_pos h1]
      by_cases h2 : n < x
      · rw [if_pos h2]; simp
      · rw [if_neg h2]
        have : n = x := by omega
        subst this
        simp
    · rw [if_neg h1]
      simp only [List.mem_cons, ih]
      constructor
      · rintro (h | h | h)
        · exact .inr (.inl h)
        · exact .inl h
        · exact .inr (.inr h)
      · rintro (h | h | h)
        · exact .inr (.inl h)
        · exact .inl h
        · exact .inr (.inr h)
theorem putL_rise (n : Int) (l : List Int) (h : l.Pairwise (· < ·)) : (putL n l).Pairwise (· < ·) := by
  induction l with
  | nil => simp [putL]
  | cons x r ih =>
    have h' := List.pairwise_cons.1 h
    unfold putL
    by_cases h1 : n ≤ x
    · rw [if_pos h1]
      by_cases h2 : n < x
      · rw [if_pos h2, List.pairwise_cons]
        refine ⟨fun y hy => ?_, h⟩
        rcases List.mem_cons.1 hy with e | e
        · omega
        · have := h'.1 y e; omega
      · rw [if_neg h2]; exact h
    · rw [if_neg h1, List.pairwise_cons]
      refine ⟨fun y hy => ?_, ih h'.2⟩
      rcases (putL_mem n r y).1 hy with e | e
      · omega
      · exact h'.1 y e
theorem putL_len (n : Int) (l : List Int) : (putL n l).length ≤ l.length + 1 := by
  induction l with
  | nil => simp [putL]
  | cons x r ih =>
    unfold putL
    split
    · split <;> simp
    · simpa using ih
def pstep (n : Int) (st : List Int × Bool) (x : Int) : List Int × Bool :=
  if st.2 = false ∧ n ≤ x then ((if n < x then st.1 ++ [n] else st.1) ++ [x], true) else (st.1 ++ [x], st.2)
def pTo (n : Int) (l : List Int) (k : Nat) : List Int × Bool := (l.take k).foldl (pstep n) ([], false)
theorem pTo_succ (n : Int) (l : List Int) (k : Nat) (x : Int) (h : l[k]? = some x) : pTo n l (k + 1) = pstep n (pTo n l k) x := by
  have hk : k < l.length := (List.getElem?_eq_some_iff.1 h).1
  have hp : l[k] = x := (List.getElem?_eq_some_iff.1 h).2
  simp [pTo, List.take_succ_eq_append_getElem hk, hp]
theorem pstep_len (n : Int) (st : List Int × Bool) (x : Int) : (pstep n st x).1.length ≤ st.1.length + 2 := by
  unfold pstep
  split
  · simp only; split <;> simp
  · simp
theorem pTo_len (n : Int) (l : List Int) (k : Nat) (h : k ≤ l.length) : (pTo n l k).1.length ≤ 2 * k := by
  induction k with
  | zero => simp [pTo]
  | succ k ih =>
    rw [pTo_succ n l k l[k] (List.getElem?_eq_getElem (by omega))]
    have := pstep_len n (pTo n l k) l[k]
    have := ih (by omega)
    omega
theorem fold_true (n : Int) : ∀ (l acc : List Int), l.foldl (pstep n) (acc, true) = (acc ++ l, true) := by
  intro l
  induction l with
  | nil => intro acc; simp
  | cons x r ih => intro acc; rw [List.foldl_cons]; simp [pstep, ih]
theorem fold_put (n : Int) : ∀ (l acc : List Int), (if (l.foldl (pstep n) (acc, false)).2 = true then (l.foldl (pstep n) (acc, false)).1 else (l.foldl (pstep n) (acc, false)).1 ++ [n]) = acc ++ putL n l := by
  intro l
  induction l with
  | nil => intro acc; simp [putL]
  | cons x r ih =>
    intro acc
    rw [List.foldl_cons]
    by_cases h1 : n ≤ x
    · have e : pstep n (acc, false) x = ((if n < x then acc ++ [n] else acc) ++ [x], true) := by simp [pstep, h1]
      rw [e, fold_true]
      simp only [if_true, putL, if_pos h1]
      split <;> simp
    · have e : pstep n (acc, false) x = (acc ++ [x], false) := by simp [pstep, h1]
      rw [e, ih (acc ++ [x])]
      simp [putL, h1]
theorem pTo_put (n : Int) (l : List Int) : (if (pTo n l l.length).2 = true then (pTo n l l.length).1 else (pTo n l l.length).1 ++ [n]) = putL n l := by
  have := fold_put n l []
  simpa [pTo] using this
def joinTo (a b : List Int) (k : Nat) : List Int := (b.take k).foldl (fun acc n => putL n acc) a
def joinL (a b : List Int) : List Int := joinTo a b b.length
theorem joinTo_succ (a b : List Int) (k : Nat) (x : Int) (h : b[k]? = some x) : joinTo a b (k + 1) = putL x (joinTo a b k) := by
  have hk : k < b.length := (List.getElem?_eq_some_iff.1 h).1
  have hp : b[k] = x := (List.getElem?_eq_some_iff.1 h).2
  simp [joinTo, List.take_succ_eq_append_getElem hk, hp]
theorem joinTo_len (a b : List Int) (k : Nat) (h : k ≤ b.length) : (joinTo a b k).length ≤ a.length + k := by
  induction k with
  | zero => simp [joinTo]
  | succ k ih =>
    rw [joinTo_succ a b k b[k] (List.getElem?_eq_getElem (by omega))]
    have := putL_len b[k] (joinTo a b k)
    have := ih (by omega)
    omega
theorem fold_facts : ∀ (b a : List Int), a.Pairwise (· < ·) → (b.foldl (fun acc n => putL n acc) a).Pairwise (· < ·) ∧ ∀ y, y ∈ b.foldl (fun acc n => putL n acc) a ↔ y ∈ a ∨ y ∈ b := by
  intro b
  induction b with
  | nil => intro a h; exact ⟨h, by simp⟩
  | cons x r ih =>
    intro a h
    obtain ⟨h1, h2⟩ := ih (putL x a) (putL_rise x a h)
    refine ⟨h1, fun y => ?_⟩
    rw [List.foldl_cons, h2 y, putL_mem]
    simp only [List.mem_cons]
    constructor
    · rintro ((h | h) | h)
      · exact .inr (.inl h)
      · exact .inl h
      · exact .inr (.inr h)
    · rintro (h | h | h)
      · exact .inl (.inr h)
      · exact .inl (.inl h)
      · exact .inr h
theorem setL_join (a b : List Int) (ha : a.Pairwise (· < ·)) : setL (a ++ b) = joinL a b := by
  obtain ⟨s1, s2, _⟩ := setL_facts (a ++ b)
  obtain ⟨j1, j2⟩ := fold_facts b a ha
  refine strict_ext _ _ s2 (by simpa [joinL, joinTo] using j1) fun x => ?_
  rw [s1 x, show joinL a b = b.foldl (fun acc n => putL n acc) a by simp [joinL, joinTo], j2 x, List.mem_append]
theorem memB_pair {xs : List Int} (h : memB xs = true) : xs.Pairwise (· < ·) := by
  rw [List.pairwise_iff_getElem]
  intro i j hi hj hij
  exact rise_lt (mem_rise h) hij hj (List.getElem?_eq_getElem hi) (List.getElem?_eq_getElem hj)
theorem memB_len {xs : List Int} (h : memB xs = true) : xs.length ≤ 1000 := by
  have hr := mem_rise h
  have key : ∀ k x, k < xs.length → xs[k]? = some x → (k : Int) + 1 ≤ x := by
    intro k
    induction k with
    | zero => intro x hk hx; have := (hr 0 x hk hx).1; omega
    | succ k ih =>
      intro x hk hx
      have h1 := ih (xs[k]'(by omega)) (by omega) (List.getElem?_eq_getElem (by omega))
      have h2 := rise_lt hr (i := k) (j := k + 1) (by omega) hk (List.getElem?_eq_getElem (by omega)) hx
      omega
  rcases Nat.eq_zero_or_pos xs.length with h0 | h0
  · omega
  · have h1 := key (xs.length - 1) (xs[xs.length - 1]'(by omega)) (by omega) (List.getElem?_eq_getElem (by omega))
    have h2 := (hr (xs.length - 1) _ (by omega) (List.getElem?_eq_getElem (by omega))).2.1
    omega
theorem setL_nil : setL [] = [] := by
  have := (setL_facts []).2.2
  exact List.length_eq_zero_iff.1 (by simpa using this)
end Go.Proofs.Yteeodjbionjlmaa
namespace Go.Proofs.Yteeodjbionjlmaa
set_option linter.unusedVariables false
/-- members, invites and bans of a room, field by field -/
structure Mb where
  id : Int
  role : Int
  since : Int
  quiet : Int
structure Iv where
  id : Int
  byy : Int
  til : Int
structure Bn where
  id : Int
  til : Int
def tickB (n : Int) : Bool := decide (0 ≤ n ∧ n ≤ 1000000)
def roleB (n : Int) : Bool := decide (0 ≤ n ∧ n ≤ 3)
def idB (n : Int) : Bool := decide (1 ≤ n ∧ n ≤ 1000)
def mbB (m : Mb) : Bool := roleB m.role && (tickB m.since && tickB m.quiet)
def ivB (x : Iv) : Bool := idB x.byy && tickB x.til
def bnB (x : Bn) : Bool := tickB x.til
def mids (ms : List Mb) : List Int := ms.map Mb.id
def iids (ms : List Iv) : List Int := ms.map Iv.id
def bids (ms : List Bn) : List Int := ms.map Bn.id
def ownB (m : Mb) : Bool := m.role == 3
def membersB (ms : List Mb) : Bool := decide (ms.length ≤ 32) && (ms.all mbB && memB (mids ms)) && ms.any ownB
def invitesB (ms : List Mb) (vs : List Iv) : Bool := decide (vs.length ≤ 16) && (vs.all ivB && memB (iids vs)) && vs.all fun x => !decide (x.id ∈ mids ms)
def bansB (ms : List Mb) (vs : List Iv) (bs : List Bn) : Bool := decide (bs.length ≤ 16) && (bs.all bnB && memB (bids bs)) && bs.all fun x => !decide (x.id ∈ mids ms) && !decide (x.id ∈ iids vs)
def roomB (ms : List Mb) (vs : List Iv) (bs : List Bn) : Bool := membersB ms && (invitesB ms vs && bansB ms vs bs)
theorem setL_nodup (l : List Int) (h : l.Nodup) : (setL l).length = l.length := by
  obtain ⟨h1, h2, _⟩ := setL_facts l
  have hn : (setL l).Nodup := h2.imp fun hab => by omega
  exact ((List.perm_ext_iff_of_nodup hn h).2 h1).length_eq
theorem setL_dup {a b : List Int} {x : Int} (ha : x ∈ a) (hb : x ∈ b) : (setL (a ++ b)).length < (a ++ b).length := by
  obtain ⟨h1, h2, h3⟩ := setL_facts (a ++ b)
  have hn : (setL (a ++ b)).Nodup := h2.imp fun hab => by omega
  obtain ⟨b1, b2, rfl⟩ := List.append_of_mem hb
  have hs : (setL (a ++ (b1 ++ x :: b2))).length ≤ (a ++ (b1 ++ b2)).length := by
    obtain ⟨g1, g2, g3⟩ := setL_facts (a ++ (b1 ++ b2))
    have e : setL (a ++ (b1 ++ x :: b2)) = setL (a ++ (b1 ++ b2)) := strict_ext _ _ h2 g2 fun y => by
      rw [h1, g1]
      simp only [List.mem_append, List.mem_cons]
      constructor
      · rintro (h | h | rfl | h)
        · exact .inl h
        · exact .inr (.inl h)
        · exact .inl ha
        · exact .inr (.inr h)
      · rintro (h | h | h)
        · exact .inl h
        · exact .inr (.inl h)
        · exact .inr (.inr (.inr h))
    rw [e]; exact g3
  simp only [List.length_append, List.length_cons] at hs ⊢
  omega
theorem nodup3 {a b c : List Int} (ha : a.Nodup) (hb : b.Nodup) (hc : c.Nodup) (hab : ∀ x ∈ b, ¬ x ∈ a) (hac : ∀ x ∈ c, ¬ x ∈ a) (hbc : ∀ x ∈ c, ¬ x ∈ b) : (a ++ (b ++ c)).Nodup := by
  rw [List.nodup_append]
  refine ⟨ha, ?_, ?_⟩
  · rw [List.nodup_append]
    exact ⟨hb, hc, fun x hx y hy e => hbc y hy (e ▸ hx)⟩
  · intro x hx y hy e
    subst e
    rcases List.mem_append.1 hy with h | h
    · exact hab x h hx
    · exact hac x h hx
theorem memB_nodup {l : List Int} (h : memB l = true) : l.Nodup := (memB_pair h).imp fun hab => by omega
/-- the program's last test: an Id that stands in two lists is only once in the set -/
theorem distinct_iff (ms : List Mb) (vs : List Iv) (bs : List Bn) (h1 : memB (mids ms) = true) (h2 : memB (iids vs) = true) (h3 : memB (bids bs) = true) :
    ((setL (mids ms ++ (iids vs ++ bids bs))).length = ms.length + vs.length + bs.length) ↔ ((vs.all fun x => !decide (x.id ∈ mids ms)) = true ∧ (bs.all fun x => !decide (x.id ∈ mids ms) && !decide (x.id ∈ iids vs)) = true) := by
  have hl : (mids ms ++ (iids vs ++ bids bs)).length = ms.length + vs.length + bs.length := by simp [mids, iids, bids]; omega
  constructor
  · intro h
    constructor
    · rw [List.all_eq_true]
      intro x hx
      rw [Bool.not_eq_true', decide_eq_false_iff_not]
      intro hm
      have := setL_dup hm (b := iids vs ++ bids bs) (List.mem_append_left _ (List.mem_map_of_mem hx))
      omega
    · rw [List.all_eq_true]
      intro x hx
      rw [Bool.and_eq_true, Bool.not_eq_true', Bool.not_eq_true', decide_eq_false_iff_not, decide_eq_false_iff_not]
      constructor
      · intro hm
        have := setL_dup hm (b := iids vs ++ bids bs) (List.mem_append_right _ (List.mem_map_of_mem hx))
        omega
      · intro hm
        have := setL_dup (a := mids ms ++ iids vs) (b := bids bs) (List.mem_append_right _ hm) (List.mem_map_of_mem hx)
        rw [List.append_assoc] at this
        omega
  · rintro ⟨ha, hb⟩
    rw [List.all_eq_true] at ha hb
    rw [setL_nodup _ (nodup3 (memB_nodup h1) (memB_nodup h2) (memB_nodup h3) ?_ ?_ ?_), hl]
    · intro y hy
      obtain ⟨x, hx, rfl⟩ := List.mem_map.1 hy
      have := ha x hx
      simpa using this
    · intro y hy
      obtain ⟨x, hx, rfl⟩ := List.mem_map.1 hy
      have := hb x hx
      rw [Bool.and_eq_true] at this
      simpa using this.1
    · intro y hy
      obtain ⟨x, hx, rfl⟩ := List.mem_map.1 hy
      have := hb x hx
      rw [Bool.and_eq_true] at this
      simpa using this.2
theorem first_at {xs : List Int} {t : Int} (h : t ∈ xs) : ∃ k : Nat, xs[k]? = some t ∧ NotIn xs t k := by
  induction xs with
  | nil => simp at h
  | cons x r ih =>
    by_cases e : x = t
    · exact ⟨0, by simp [e], NotIn.zero _ _⟩
    · obtain ⟨k, h1, h2⟩ := ih (by rcases List.mem_cons.1 h with h | h; exact absurd h.symm e; exact h)
      refine ⟨k + 1, by simpa using h1, fun j y hj hy => ?_⟩
      cases j with
      | zero => simp at hy; subst hy; exact e
      | succ j => exact h2 j y (by omega) (by simpa using hy)
theorem mb_bad {xs : List Mb} {z : Mb} {k : Nat} (hz : xs[k]? = some z) (h : mbB z = false ∨ idB z.id = false) : membersB xs = false := by
  rw [← Bool.not_eq_true]; intro H
  simp only [membersB, Bool.and_eq_true] at H
  obtain ⟨⟨_, h1, h2⟩, _⟩ := H
  have hm := List.mem_of_getElem? hz
  rcases h with h | h
  · have := List.all_eq_true.1 h1 z hm; rw [h] at this; cases this
  · have hr := mem_rise h2 k z.id (by have := (List.getElem?_eq_some_iff.1 hz).1; simpa [mids] using this) (by simp [mids, hz])
    have : idB z.id = true := by simp [idB, hr.1, hr.2.1]
    rw [h] at this; cases this
theorem mb_flat {xs : List Mb} {z y : Mb} {k : Nat} (h0 : 0 < k) (hz : xs[k]? = some z) (hy : xs[k - 1]? = some y) (h : z.id ≤ y.id) : membersB xs = false := by
  rw [← Bool.not_eq_true]; intro H
  simp only [membersB, Bool.and_eq_true] at H
  obtain ⟨⟨_, _, h2⟩, _⟩ := H
  have := rises_flat (xs := mids xs) (lo := 1) (hi := 1000) (k := k) (x := z.id) (y := y.id) h0 (by simp [mids, hz]) (by simp [mids, hy]) h
  unfold memB at h2
  rw [this] at h2; cases h2
theorem mb_long {xs : List Mb} (h : 32 < xs.length) : membersB xs = false := by
  rw [← Bool.not_eq_true]; intro H
  simp only [membersB, Bool.and_eq_true, decide_eq_true_eq] at H
  omega
theorem mb_none {xs : List Mb} (h : xs.length < 1) : membersB xs = false := by
  have : xs = [] := List.eq_nil_of_length_eq_zero (by omega)
  subst this; simp [membersB]
def ownersTo (xs : List Mb) (k : Nat) : Nat := ((xs.take k).filter ownB).length
theorem ownersTo_yes {xs : List Mb} {z : Mb} {k : Nat} (hz : xs[k]? = some z) (h : z.role = 3) : ownersTo xs (k + 1) = ownersTo xs k + 1 := by
  simp [ownersTo, take_some hz, List.filter_append, ownB, h]
theorem ownersTo_no {xs : List Mb} {z : Mb} {k : Nat} (hz : xs[k]? = some z) (h : z.role ≠ 3) : ownersTo xs (k + 1) = ownersTo xs k := by
  simp [ownersTo, take_some hz, List.filter_append, ownB, h]
theorem ownersTo_le (xs : List Mb) (k : Nat) : ownersTo xs k ≤ k := by
  unfold ownersTo
  have := List.length_filter_le ownB (xs.take k)
  have := List.length_take_le k xs
  omega
/-- what stands of the members up to k -/
def MbTo (xs : List Mb) (k : Nat) : Prop := RiseTo (mids xs) 1 1000 k ∧ ∀ z ∈ xs.take k, mbB z = true
theorem MbTo.zero (xs : List Mb) : MbTo xs 0 := ⟨RiseTo.zero _ _ _, fun z h => by simp at h⟩
theorem MbTo.succ {xs : List Mb} {z : Mb} {k : Nat} (h : MbTo xs k) (hz : xs[k]? = some z) (h1 : mbB z = true) (h2 : idB z.id = true) (h3 : ∀ y, 0 < k → xs[k - 1]? = some y → y.id < z.id) : MbTo xs (k + 1) := by
  simp only [idB, decide_eq_true_eq] at h2
  refine ⟨h.1.succ (x := z.id) (by simp [mids, hz]) h2.1 h2.2 fun y h0 hy => ?_, fun u hu => ?_⟩
  · simp only [mids, List.getElem?_map, Option.map_eq_some_iff] at hy
    obtain ⟨y', hy', rfl⟩ := hy
    exact h3 y' h0 hy'
  · rw [take_some hz, List.mem_append] at hu
    rcases hu with hu | hu
    · exact h.2 u hu
    · simp at hu; subst hu; exact h1
theorem mb_full {xs : List Mb} {k : Nat} (h : MbTo xs k) (hk : xs.length ≤ k) (hl : xs.length ≤ 32) : membersB xs = decide (0 < ownersTo xs k) := by
  obtain ⟨h1, h2⟩ := h
  have e1 : memB (mids xs) = true := rises_full h1 (by simpa [mids] using hk)
  rw [List.take_of_length_le hk] at h2
  have e2 : xs.all mbB = true := List.all_eq_true.2 h2
  have e3 : xs.any ownB = decide (0 < ownersTo xs k) := by
    rw [Bool.eq_iff_iff, decide_eq_true_eq, List.any_eq_true]
    unfold ownersTo
    rw [List.take_of_length_le hk, List.length_pos_iff_exists_mem]
    simp only [List.mem_filter]
  simp [membersB, e1, e2, e3, hl]
end Go.Proofs.Yteeodjbionjlmaa
namespace Go.Proofs.Yteeodjbionjlmaa
set_option linter.unusedVariables false
def IvTo (ms : List Mb) (xs : List Iv) (k : Nat) : Prop := RiseTo (iids xs) 1 1000 k ∧ ∀ z ∈ xs.take k, ivB z = true ∧ ¬ z.id ∈ mids ms
theorem IvTo.zero (ms : List Mb) (xs : List Iv) : IvTo ms xs 0 := ⟨RiseTo.zero _ _ _, fun z h => by simp at h⟩
theorem IvTo.succ {ms : List Mb} {xs : List Iv} {z : Iv} {k : Nat} (h : IvTo ms xs k) (hz : xs[k]? = some z) (h1 : ivB z = true) (h2 : idB z.id = true) (h3 : ∀ y, 0 < k → xs[k - 1]? = some y → y.id < z.id) (h4 : ¬ z.id ∈ mids ms) : IvTo ms xs (k + 1) := by
  simp only [idB, decide_eq_true_eq] at h2
  refine ⟨h.1.succ (x := z.id) (by simp [iids, hz]) h2.1 h2.2 fun y h0 hy => ?_, fun u hu => ?_⟩
  · simp only [iids, List.getElem?_map, Option.map_eq_some_iff] at hy
    obtain ⟨y', hy', rfl⟩ := hy
    exact h3 y' h0 hy'
  · rw [take_some hz, List.mem_append] at hu
    rcases hu with hu | hu
    · exact h.2 u hu
    · simp at hu; subst hu; exact ⟨h1, h4⟩
theorem iv_bad {ms : List Mb} {xs : List Iv} {z : Iv} {k : Nat} (hz : xs[k]? = some z) (h : ivB z = false ∨ idB z.id = false ∨ ¬ (¬ z.id ∈ mids ms)) : invitesB ms xs = false := by
  rw [← Bool.not_eq_true]; intro H
  simp only [invitesB, Bool.and_eq_true] at H
  obtain ⟨⟨_, h1, h2⟩, h3⟩ := H
  have hm := List.mem_of_getElem? hz
  rcases h with h | h | h
  · have := List.all_eq_true.1 h1 z hm; rw [h] at this; cases this
  · have hr := mem_rise h2 k z.id (by have := (List.getElem?_eq_some_iff.1 hz).1; simpa [iids] using this) (by simp [iids, hz])
    have : idB z.id = true := by simp [idB, hr.1, hr.2.1]
    rw [h] at this; cases this
  · have := List.all_eq_true.1 h3 z hm
    exact h (by simpa using this)
theorem iv_flat {ms : List Mb} {xs : List Iv} {z y : Iv} {k : Nat} (h0 : 0 < k) (hz : xs[k]? = some z) (hy : xs[k - 1]? = some y) (h : z.id ≤ y.id) : invitesB ms xs = false := by
  rw [← Bool.not_eq_true]; intro H
  simp only [invitesB, Bool.and_eq_true] at H
  obtain ⟨⟨_, _, h2⟩, _⟩ := H
  have := rises_flat (xs := iids xs) (lo := 1) (hi := 1000) (k := k) (x := z.id) (y := y.id) h0 (by simp [iids, hz]) (by simp [iids, hy]) h
  unfold memB at h2
  rw [this] at h2; cases h2
theorem iv_long {ms : List Mb} {xs : List Iv} (h : 16 < xs.length) : invitesB ms xs = false := by
  rw [← Bool.not_eq_true]; intro H
  simp only [invitesB, Bool.and_eq_true, decide_eq_true_eq] at H
  omega
theorem iv_full {ms : List Mb} {xs : List Iv} {k : Nat} (h : IvTo ms xs k) (hk : xs.length ≤ k) (hl : xs.length ≤ 16) : invitesB ms xs = true := by
  obtain ⟨h1, h2⟩ := h
  have e1 : memB (iids xs) = true := rises_full h1 (by simpa [iids] using hk)
  rw [List.take_of_length_le hk] at h2
  have e2 : xs.all ivB = true := List.all_eq_true.2 fun z hz => (h2 z hz).1
  simp only [invitesB, e1, e2, Bool.and_true, Bool.and_eq_true, decide_eq_true_eq]
  refine ⟨hl, List.all_eq_true.2 fun z hz => ?_⟩
  have := (h2 z hz).2
  simpa using this
def BnTo (ms : List Mb) (vs : List Iv) (xs : List Bn) (k : Nat) : Prop := RiseTo (bids xs) 1 1000 k ∧ ∀ z ∈ xs.take k, bnB z = true ∧ ¬ z.id ∈ mids ms ∧ ¬ z.id ∈ iids vs
theorem BnTo.zero (ms : List Mb) (vs : List Iv) (xs : List Bn) : BnTo ms vs xs 0 := ⟨RiseTo.zero _ _ _, fun z h => by simp at h⟩
theorem BnTo.succ {ms : List Mb} {vs : List Iv} {xs : List Bn} {z : Bn} {k : Nat} (h : BnTo ms vs xs k) (hz : xs[k]? = some z) (h1 : bnB z = true) (h2 : idB z.id = true) (h3 : ∀ y, 0 < k → xs[k - 1]? = some y → y.id < z.id) (h4 : ¬ z.id ∈ mids ms ∧ ¬ z.id ∈ iids vs) : BnTo ms vs xs (k + 1) := by
  simp only [idB, decide_eq_true_eq] at h2
  refine ⟨h.1.succ (x := z.id) (by simp [bids, hz]) h2.1 h2.2 fun y h0 hy => ?_, fun u hu => ?_⟩
  · simp only [bids, List.getElem?_map, Option.map_eq_some_iff] at hy
    obtain ⟨y', hy', rfl⟩ := hy
    exact h3 y' h0 hy'
  · rw [take_some hz, List.mem_append] at hu
    rcases hu with hu | hu
    · exact h.2 u hu
    · simp at hu; subst hu; exact ⟨h1, h4⟩
theorem bn_bad {ms : List Mb} {vs : List Iv} {xs : List Bn} {z : Bn} {k : Nat} (hz : xs[k]? = some z) (h : bnB z = false ∨ idB z.id = false ∨ ¬ (¬ z.id ∈ mids ms ∧ ¬ z.id ∈ iids vs)) : bansB ms vs xs = false := by
  rw [← Bool.not_eq_true]; intro H
  simp only [bansB, Bool.and_eq_true] at H
  obtain ⟨⟨_, h1, h2⟩, h3⟩ := H
  have hm := List.mem_of_getElem? hz
  rcases h with h | h | h
  · have := List.all_eq_true.1 h1 z hm; rw [h] at this; cases this
  · have hr := mem_rise h2 k z.id (by have := (List.getElem?_eq_some_iff.1 hz).1; simpa [bids] using this) (by simp [bids, hz])
    have : idB z.id = true := by simp [idB, hr.1, hr.2.1]
    rw [h] at this; cases this
  · have := List.all_eq_true.1 h3 z hm
    exact h (by simpa using this)
theorem bn_flat {ms : List Mb} {vs : List Iv} {xs : List Bn} {z y : Bn} {k : Nat} (h0 : 0 < k) (hz : xs[k]? = some z) (hy : xs[k - 1]? = some y) (h : z.id ≤ y.id) : bansB ms vs xs = false := by
  rw [← Bool.not_eq_true]; intro H
  simp only [bansB, Bool.and_eq_true] at H
  obtain ⟨⟨_, _, h2⟩, _⟩ := H
  have := rises_flat (xs := bids xs) (lo := 1) (hi := 1000) (k := k) (x := z.id) (y := y.id) h0 (by simp [bids, hz]) (by simp [bids, hy]) h
  unfold memB at h2
  rw [this] at h2; cases h2
theorem bn_long {ms : List Mb} {vs : List Iv} {xs : List Bn} (h : 16 < xs.length) : bansB ms vs xs = false := by
  rw [← Bool.not_eq_true]; intro H
  simp only [bansB, Bool.and_eq_true, decide_eq_true_eq] at H
  omega
theorem bn_full {ms : List Mb} {vs : List Iv} {xs : List Bn} {k : Nat} (h : BnTo ms vs xs k) (hk : xs.length ≤ k) (hl : xs.length ≤ 16) : bansB ms vs xs = true := by
  obtain ⟨h1, h2⟩ := h
  have e1 : memB (bids xs) = true := rises_full h1 (by simpa [bids] using hk)
  rw [List.take_of_length_le hk] at h2
  have e2 : xs.all bnB = true := List.all_eq_true.2 fun z hz => (h2 z hz).1
  simp only [bansB, e1, e2, Bool.and_true, Bool.and_eq_true, decide_eq_true_eq]
  refine ⟨hl, List.all_eq_true.2 fun z hz => ?_⟩
  have := (h2 z hz).2
  simpa using this
end Go.Proofs.Yteeodjbionjlmaa
