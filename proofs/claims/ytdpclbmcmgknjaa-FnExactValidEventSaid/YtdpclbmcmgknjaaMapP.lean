import Derived.Maps.OwnSet
namespace Go.Proofs.Ytdpclbmcmgknjaa
set_option linter.unusedVariables false
open Go Go.Maps
/-- A map whose keys are numbers, as the list of what it holds, rising by key. -/
def tabD {α : Type} (k : α → Int) (v : α → Value) (xs : List α) : DataW Value := .map (xs.map fun x => (.int .i64 (k x), .held (v x)))
def heldR (v : Value) : Option (DataW Value × List MemPlace) := some (.held v, [])
section
variable {α : Type} {k : α → Int} {v : α → Value}
def insK (k : α → Int) (x : α) : List α → List α
  | [] => [x]
  | y :: r => if k x < k y then x :: y :: r else y :: insK k x r
def dropK (k : α → Int) (t : Int) (xs : List α) : List α := xs.filter fun x => !decide (k x = t)
def putK (k : α → Int) (x : α) (xs : List α) : List α := insK k x (dropK k (k x) xs)
def Rise (k : α → Int) (xs : List α) : Prop := xs.Pairwise fun a b => k a < k b
theorem key_same (a b : Int) : Lit.sameKey (.int .i64 a) (.int .i64 b) = decide (a = b) := by simp [Lit.sameKey]
theorem tab_has (xs : List α) (t : Int) : Maps.has (tabD k v xs) (.int .i64 t) = decide (t ∈ xs.map k) := by
  simp only [tabD, Maps.has, List.any_map]
  rw [Bool.eq_iff_iff, List.any_eq_true, decide_eq_true_eq, List.mem_map]
  constructor
  · rintro ⟨x, hx, h⟩
    exact ⟨x, hx, by simpa [key_same] using h⟩
  · rintro ⟨x, hx, h⟩
    exact ⟨x, hx, by simpa [key_same] using h⟩
theorem tab_at (xs : List α) (t : Int) (z : DataW Value) : (tabD k v xs).atKey (.int .i64 t) z = match xs.find? (fun x => decide (k x = t)) with | some x => .held (v x) | none => z := by
  simp only [tabD, DataW.atKey, List.find?_map]
  have e : ((fun p : Lit × DataW Value => p.1.sameKey (.int .i64 t)) ∘ fun x => ((.int .i64 (k x), .held (v x)) : Lit × DataW Value)) = fun x => decide (k x = t) := by
    funext x; simp [key_same]
  rw [e]
  cases xs.find? (fun x => decide (k x = t)) <;> rfl
theorem tab_size (xs : List α) : Maps.size (tabD k v xs) = xs.length := by simp [tabD, Maps.size]
theorem tab_filter (xs : List α) (t : Int) : ((xs.map fun x => ((.int .i64 (k x), .held (v x)) : Lit × DataW Value)).filter fun p => !p.1.sameKey (.int .i64 t)) = (dropK k t xs).map fun x => ((.int .i64 (k x), .held (v x)) : Lit × DataW Value) := by
  rw [List.filter_map, dropK]
  congr 1
  apply List.filter_congr
  intro x _
  simp [key_same]
theorem tab_del (xs : List α) (t : Int) : (tabD k v xs).del (.int .i64 t) = tabD k v (dropK k t xs) := by
  simp only [tabD, DataW.del, tab_filter]
theorem tab_insert (x : α) : ∀ xs : List α, DataW.insert ((.int .i64 (k x), .held (v x)) : Lit × DataW Value) (xs.map fun x => (.int .i64 (k x), .held (v x))) = (insK k x xs).map fun x => (.int .i64 (k x), .held (v x))
  | [] => rfl
  | y :: r => by
    simp only [List.map_cons, DataW.insert, insK, Lit.before]
    by_cases h : k x < k y
    · simp [h]
    · simp [h, tab_insert x r]
theorem tab_put (x : α) (xs : List α) : (tabD k v xs).put (.int .i64 (k x)) (.held (v x)) = tabD k v (putK k x xs) := by
  simp only [tabD, DataW.put, tab_filter, tab_insert, putK]
theorem ins_mem {x z : α} : ∀ {xs : List α}, z ∈ insK k x xs ↔ z = x ∨ z ∈ xs
  | [] => by simp [insK]
  | y :: r => by
    rw [insK]
    split
    · simp
    · rw [List.mem_cons, ins_mem (xs := r), List.mem_cons]
      constructor
      · rintro (h | h | h)
        · exact .inr (.inl h)
        · exact .inl h
        · exact .inr (.inr h)
      · rintro (h | h | h)
        · exact .inr (.inl h)
        · exact .inl h
        · exact .inr (.inr h)
theorem ins_rise {x : α} : ∀ {xs : List α}, Rise k xs → (∀ y ∈ xs, k y ≠ k x) → Rise k (insK k x xs)
  | [], _, _ => List.pairwise_singleton _ _
  | y :: r, h, hn => by
    rw [insK]
    have h' := List.pairwise_cons.1 h
    split
    · rename_i hlt
      exact List.pairwise_cons.2 ⟨fun z hz => by rcases List.mem_cons.1 hz with rfl | hz; exact hlt; have := h'.1 z hz; omega, h⟩
    · rename_i hlt
      have hne := hn y (by simp)
      refine List.pairwise_cons.2 ⟨fun z hz => ?_, ins_rise h'.2 fun z hz => hn z (by simp [hz])⟩
      rcases ins_mem.1 hz with rfl | hz
      · omega
      · exact h'.1 z hz
theorem ins_last {x : α} : ∀ {xs : List α}, (∀ y ∈ xs, k y < k x) → insK k x xs = xs ++ [x]
  | [], _ => rfl
  | y :: r, h => by
    have := h y (by simp)
    rw [insK, if_neg (by omega), ins_last fun z hz => h z (by simp [hz])]
    rfl
theorem drop_none {t : Int} {xs : List α} (h : ∀ y ∈ xs, k y ≠ t) : dropK k t xs = xs := by
  rw [dropK, List.filter_eq_self]
  intro y hy
  simpa using h y hy
theorem drop_rise {t : Int} {xs : List α} (h : Rise k xs) : Rise k (dropK k t xs) := h.filter _
theorem drop_mem {t : Int} {xs : List α} {z : α} : z ∈ dropK k t xs ↔ z ∈ xs ∧ k z ≠ t := by simp [dropK]
theorem put_last {x : α} {xs : List α} (h : ∀ y ∈ xs, k y < k x) : putK k x xs = xs ++ [x] := by
  rw [putK, drop_none fun y hy => by have := h y hy; omega, ins_last h]
theorem put_mem {x z : α} {xs : List α} : z ∈ putK k x xs ↔ z = x ∨ (z ∈ xs ∧ k z ≠ k x) := by rw [putK, ins_mem, drop_mem]
theorem put_rise {x : α} {xs : List α} (h : Rise k xs) : Rise k (putK k x xs) := ins_rise (drop_rise h) fun y hy => (drop_mem.1 hy).2
theorem Rise_take {xs : List α} {n : Nat} (h : Rise k xs) : Rise k (xs.take n) := List.Pairwise.sublist (List.take_sublist n xs) h
theorem Rise_lt {xs : List α} {n : Nat} {z : α} (h : Rise k xs) (hz : xs[n]? = some z) : ∀ y ∈ xs.take n, k y < k z := by
  intro y hy
  obtain ⟨j, hj⟩ := List.mem_iff_getElem?.1 hy
  rw [List.getElem?_take] at hj
  split at hj
  · rename_i hjn
    obtain ⟨h1, e1⟩ := List.getElem?_eq_some_iff.1 hj
    obtain ⟨h2, e2⟩ := List.getElem?_eq_some_iff.1 hz
    rw [← e1, ← e2]
    exact List.pairwise_iff_getElem.1 h j n h1 h2 hjn
  · cases hj
theorem Rise_put_take {xs : List α} {n : Nat} {z : α} (h : Rise k xs) (hz : xs[n]? = some z) : putK k z (xs.take n) = xs.take (n + 1) := by
  rw [put_last (Rise_lt h hz), List.take_add_one, hz]
  rfl
theorem Rise_find {xs : List α} {z : α} (h : Rise k xs) (hz : z ∈ xs) : xs.find? (fun x => decide (k x = k z)) = some z := by
  induction xs with
  | nil => simp at hz
  | cons y r ih =>
    have h' := List.pairwise_cons.1 h
    rw [List.find?_cons]
    rcases List.mem_cons.1 hz with rfl | hz
    · simp
    · have := h'.1 z hz
      rw [show decide (k y = k z) = false by simp; omega]
      exact ih h'.2 hz
theorem findK_none {xs : List α} {t : Int} (h : ¬ t ∈ xs.map k) : xs.find? (fun x => decide (k x = t)) = none := by
  rw [List.find?_eq_none]
  intro x hx
  simp only [decide_eq_true_eq]
  intro e
  exact h (by rw [← e]; exact List.mem_map_of_mem hx)
theorem findK_mem {xs : List α} {t : Int} (h : t ∈ xs.map k) : ∃ z, xs.find? (fun x => decide (k x = t)) = some z ∧ z ∈ xs ∧ k z = t := by
  cases hf : xs.find? (fun x => decide (k x = t)) with
  | none =>
    obtain ⟨x, hx, rfl⟩ := List.mem_map.1 h
    have := List.find?_eq_none.1 hf x hx
    simp at this
  | some z => exact ⟨z, rfl, List.mem_of_find?_eq_some hf, by simpa using List.find?_some hf⟩
theorem Rise_sorted {xs : List α} (h : Rise k xs) : (xs.map k).mergeSort (fun x y => decide (x ≤ y)) = xs.map k := by
  refine List.Perm.eq_of_pairwise (le := fun a b => decide (a ≤ b) = true) (fun a b _ _ h1 h2 => ?_) (List.pairwise_mergeSort (fun a b c h1 h2 => by simp only [decide_eq_true_eq] at *; omega) (fun a b => by simp only [Bool.or_eq_true, decide_eq_true_eq]; omega) _) ?_ (List.mergeSort_perm _ _)
  · simp only [decide_eq_true_eq] at h1 h2; omega
  · rw [List.pairwise_map]
    exact h.imp fun hab => by simp only [decide_eq_true_eq]; omega
end
end Go.Proofs.Ytdpclbmcmgknjaa
