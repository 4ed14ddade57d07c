import Derived.Test.YteeodjbionjlmaaPlain5
namespace Go.Proofs.Yteeodjbionjlmaa
set_option linter.unusedVariables false
theorem rise_lt {xs : List Int} {lo hi : Int} {n : Nat} (h : RiseTo xs lo hi n) : ∀ {i j : Nat} {a b : Int}, i < j → j < n → xs[i]? = some a → xs[j]? = some b → a < b := by
  intro i j
  induction j with
  | zero => intro a b hij; omega
  | succ j ih =>
    intro a b hij hj ha hb
    have hjl : j + 1 < xs.length := (List.getElem?_eq_some_iff.1 hb).1
    have hstep := (h (j + 1) b hj hb).2.2 (xs[j]'(by omega)) (by omega) (by simp)
    by_cases e : i = j
    · subst e
      have : xs[i]? = some (xs[i]'(by omega)) := List.getElem?_eq_getElem (by omega)
      rw [this] at ha; injection ha with ha; rw [← ha]; exact hstep
    · have := ih (a := a) (b := xs[j]'(by omega)) (by omega) (by omega) ha (List.getElem?_eq_getElem (by omega))
      omega
theorem mem_rise {xs : List Int} (h : memB xs = true) : RiseTo xs 1 1000 xs.length := (rises_iff xs 1 1000).1 h
/-- what a binary search knows: all below i are less, all from j on are not less -/
def Cut (xs : List Int) (t : Int) (i j : Nat) : Prop := (∀ k x, k < i → xs[k]? = some x → x < t) ∧ (∀ k x, j ≤ k → xs[k]? = some x → t ≤ x)
theorem Cut.start (xs : List Int) (t : Int) : Cut xs t 0 xs.length :=
  ⟨fun _ _ h => by omega, fun k x h hx => by have := (List.getElem?_eq_some_iff.1 hx).1; omega⟩
theorem Cut.up {xs : List Int} {t x : Int} {i j h : Nat} (hs : RiseTo xs 1 1000 xs.length) (hc : Cut xs t i j) (hx : xs[h]? = some x) (hl : x < t) : Cut xs t (h + 1) j := by
  refine ⟨fun k y hk hy => ?_, hc.2⟩
  by_cases e : k = h
  · subst e; rw [hx] at hy; injection hy with hy; omega
  · have := rise_lt hs (i := k) (j := h) (by omega) (List.getElem?_eq_some_iff.1 hx).1 hy hx; omega
theorem Cut.down {xs : List Int} {t x : Int} {i j h : Nat} (hs : RiseTo xs 1 1000 xs.length) (hc : Cut xs t i j) (hx : xs[h]? = some x) (hl : t ≤ x) : Cut xs t i h := by
  refine ⟨hc.1, fun k y hk hy => ?_⟩
  by_cases e : k = h
  · subst e; rw [hx] at hy; injection hy with hy; omega
  · have := rise_lt hs (i := h) (j := k) (by omega) (List.getElem?_eq_some_iff.1 hy).1 hx hy; omega
theorem Cut.found {xs : List Int} {t : Int} {i : Nat} (hx : xs[i]? = some t) : decide (t ∈ xs) = true := by
  have h := List.mem_of_getElem? hx; simpa using h
theorem Cut.none_ {xs : List Int} {t : Int} {i : Nat} (hs : RiseTo xs 1 1000 xs.length) (hc : Cut xs t i i) (h : ∀ x, xs[i]? = some x → x ≠ t) : decide (t ∈ xs) = false := by
  rw [decide_eq_false_iff_not]
  intro hm
  obtain ⟨k, hk⟩ := List.getElem?_of_mem hm
  by_cases a : k < i
  · have := hc.1 k t a hk; omega
  · by_cases e : k = i
    · subst e; exact h t hk rfl
    · have hi : i < xs.length := by have := (List.getElem?_eq_some_iff.1 hk).1; omega
      have h1 := hc.2 i (xs[i]) (Nat.le_refl _) (List.getElem?_eq_getElem hi)
      have h4 := rise_lt hs (i := i) (j := k) (by omega) (List.getElem?_eq_some_iff.1 hk).1 (List.getElem?_eq_getElem hi) hk
      omega
def NotIn (xs : List Int) (t : Int) (k : Nat) : Prop := ∀ j x, j < k → xs[j]? = some x → x ≠ t
theorem NotIn.zero (xs : List Int) (t : Int) : NotIn xs t 0 := fun _ _ h => by omega
theorem NotIn.succ {xs : List Int} {t x : Int} {k : Nat} (h : NotIn xs t k) (hx : xs[k]? = some x) (hn : x ≠ t) : NotIn xs t (k + 1) := by
  intro j y hj hy
  by_cases e : j = k
  · subst e; rw [hx] at hy; injection hy with hy; subst hy; exact hn
  · exact h j y (by omega) hy
theorem NotIn.all {xs : List Int} {t : Int} {k : Nat} (h : NotIn xs t k) (hk : xs.length ≤ k) : decide (t ∈ xs) = false := by
  rw [decide_eq_false_iff_not]
  intro hm
  obtain ⟨j, hj⟩ := List.getElem?_of_mem hm
  exact h j t (by have := (List.getElem?_eq_some_iff.1 hj).1; omega) hj rfl
def lessL (xs ys : List Int) : List Int := xs.filter fun x => !decide (x ∈ ys)
def lessTo (xs ys : List Int) (k : Nat) : List Int := lessL (xs.take k) ys
theorem lessTo_zero (xs ys : List Int) : lessTo xs ys 0 = [] := rfl
theorem take_some {α : Type} {xs : List α} {k : Nat} {x : α} (h : xs[k]? = some x) : xs.take (k + 1) = xs.take k ++ [x] := by
  have hk : k < xs.length := (List.getElem?_eq_some_iff.1 h).1
  rw [List.take_succ_eq_append_getElem hk]
  rw [List.getElem?_eq_getElem hk] at h
  injection h with h
  rw [h]
theorem lessTo_in {xs ys : List Int} {k : Nat} {x : Int} (h : xs[k]? = some x) (hm : decide (x ∈ ys) = true) : lessTo xs ys (k + 1) = lessTo xs ys k := by
  have hm' : x ∈ ys := by simpa using hm
  simp [lessTo, lessL, take_some h, List.filter_append, hm']
theorem lessTo_out {xs ys : List Int} {k : Nat} {x : Int} (h : xs[k]? = some x) (hm : decide (x ∈ ys) = false) : lessTo xs ys (k + 1) = lessTo xs ys k ++ [x] := by
  have hm' : x ∉ ys := by simpa using hm
  simp [lessTo, lessL, take_some h, List.filter_append, hm']
theorem lessTo_len (xs ys : List Int) (k : Nat) : (lessTo xs ys k).length ≤ k := by
  unfold lessTo lessL
  have := List.length_filter_le (fun x => !decide (x ∈ ys)) (xs.take k)
  have h2 := List.length_take_le k xs
  omega
theorem lessTo_end (xs ys : List Int) (k : Nat) (h : xs.length ≤ k) : lessTo xs ys k = lessL xs ys := by
  unfold lessTo; rw [List.take_of_length_le h]
end Go.Proofs.Yteeodjbionjlmaa
