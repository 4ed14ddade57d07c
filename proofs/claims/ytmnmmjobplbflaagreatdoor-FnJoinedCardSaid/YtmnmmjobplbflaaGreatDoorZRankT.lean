import Derived.Test.YtmnmmjobplbflaaGreatDoorJq
namespace Go.Proofs.YtmnmmjobplbflaaGreatDoor
set_option linter.unusedVariables false
/-- the best of the first i stands at k -/
def BestAt (xs : List Mb) (i k : Nat) : Prop := ∃ m, xs[k]? = some m ∧ bestM (xs.take i) = some m
theorem BestAt.one {xs : List Mb} {x : Mb} (h : xs[0]? = some x) : BestAt xs 1 0 := ⟨x, h, by
  cases xs with
  | nil => simp at h
  | cons y r => simp at h; subst h; rfl⟩
theorem best_take {xs : List Mb} {i : Nat} {m z : Mb} (h : bestM (xs.take i) = some m) (hz : xs[i]? = some z) : bestM (xs.take (i + 1)) = some (stepM m z) := by
  rw [List.take_add_one, hz]
  cases ht : xs.take i with
  | nil => rw [ht] at h; cases h
  | cons y r =>
    rw [ht] at h
    simp only [bestM, Option.some.injEq] at h
    simp only [Option.toList, List.cons_append, bestM, List.foldl_append, List.foldl_cons, List.foldl_nil, h]
theorem BestAt.yes {xs : List Mb} {i k : Nat} {m z : Mb} (h : BestAt xs i k) (hk : xs[k]? = some m) (hz : xs[i]? = some z) (hr : rankLt z m = true) : BestAt xs (i + 1) i := by
  obtain ⟨m', h1, h2⟩ := h
  rw [hk] at h1; cases h1
  exact ⟨z, hz, by rw [best_take h2 hz, stepM, if_pos hr]⟩
theorem BestAt.no {xs : List Mb} {i k : Nat} {m z : Mb} (h : BestAt xs i k) (hk : xs[k]? = some m) (hz : xs[i]? = some z) (hr : rankLt z m = false) : BestAt xs (i + 1) k := by
  obtain ⟨m', h1, h2⟩ := h
  rw [hk] at h1; cases h1
  exact ⟨m, hk, by rw [best_take h2 hz, stepM, if_neg (by rw [hr]; decide)]⟩
theorem BestAt.full {xs : List Mb} {i k : Nat} (h : BestAt xs i k) (hi : xs.length ≤ i) : ∃ m, xs[k]? = some m ∧ bestM xs = some m := by
  obtain ⟨m, h1, h2⟩ := h
  rw [List.take_of_length_le hi] at h2
  exact ⟨m, h1, h2⟩
/-- what the model gives the best one -/
def heirL (xs : List Mb) : Int := if xs.any (fun x => decide (x.role = 3)) then 0 else 3
theorem heir_no {xs : List Mb} (h : ∀ x ∈ xs, x.role ≠ 3) : heirL xs = 3 := by
  rw [heirL, if_neg]
  simp only [List.any_eq_true, decide_eq_true_eq, not_exists, not_and]
  exact h
theorem heir_yes {xs : List Mb} {x : Mb} (h : x ∈ xs) (hr : x.role = 3) : heirL xs = 0 := by
  rw [heirL, if_pos (List.any_eq_true.2 ⟨x, h, by simp [hr]⟩)]
theorem heir_max {xs : List Mb} {m : Mb} (hp : xs.Pairwise fun a b => a.id ≠ b.id) (hb : bestM xs = some m) (hr : ∀ x ∈ xs, 0 ≤ x.role ∧ x.role ≤ 3) : (if heirL xs < m.role then m.role else heirL xs) = 3 := by
  obtain ⟨hm, hall⟩ := best_spec hp hb
  have h1 := hr m hm
  by_cases h : ∃ x ∈ xs, x.role = 3
  · obtain ⟨x, hx, hx3⟩ := h
    rw [heir_yes hx hx3]
    have : m.role = 3 := by
      rcases hall x hx with e | e
      · rw [← e]; exact hx3
      · rw [rankLt_iff] at e; omega
    rw [if_pos (by omega), this]
  · rw [heir_no (fun x hx e => h ⟨x, hx, e⟩), if_neg (by omega)]
end Go.Proofs.YtmnmmjobplbflaaGreatDoor
