import Derived.Test.YtgomffcdoglbfaaDoorZPresP
import Derived.Test.YtgomffcdoglbfaaDoorJq
namespace Go.Proofs.YtgomffcdoglbfaaDoor
set_option linter.unusedVariables false
def NoIn (t : Int) (xs : List Bn) (k : Nat) : Prop := ∀ y ∈ xs.take k, y.id ≠ t
theorem NoIn.zero (t : Int) (xs : List Bn) : NoIn t xs 0 := fun y h => by simp at h
theorem NoIn.succ {t : Int} {xs : List Bn} {k : Nat} {z : Bn} (h : NoIn t xs k) (hz : xs[k]? = some z) (hn : z.id ≠ t) : NoIn t xs (k + 1) := fun y hy => by
  rw [take_some hz, List.mem_append] at hy
  rcases hy with hy | hy
  · exact h y hy
  · simp at hy; subst hy; exact hn
def findB (xs : List Bn) (t : Int) : Option Bn := xs.find? fun x => decide (x.id = t)
theorem findB_at {t : Int} : ∀ {xs : List Bn} {k : Nat} {z : Bn}, NoIn t xs k → xs[k]? = some z → z.id = t → findB xs t = some z := by
  intro xs
  induction xs with
  | nil => intro k z _ hz; simp at hz
  | cons x r ih =>
    intro k z h hz ht
    cases k with
    | zero => simp at hz; subst hz; simp [findB, ht]
    | succ k =>
      have hx : x.id ≠ t := h x (by simp)
      have := ih (k := k) (z := z) (fun y hy => h y (by simp [hy])) (by simpa using hz) ht
      unfold findB at this ⊢
      rw [List.find?_cons_of_neg (by simpa using hx)]
      exact this
theorem findB_none {t : Int} {xs : List Bn} {k : Nat} (h : NoIn t xs k) (hk : xs.length ≤ k) : findB xs t = none := by
  unfold NoIn at h
  rw [List.take_of_length_le hk] at h
  unfold findB
  rw [List.find?_eq_none]
  intro x hx
  simpa using h x hx
/-- the number that a list keeps of a member, or another one -/
def numOf (xs : List Bn) (t d : Int) : Int := match findB xs t with | some z => z.til | none => d
theorem numOf_at {t d : Int} {xs : List Bn} {k : Nat} {z : Bn} (h : NoIn t xs k) (hz : xs[k]? = some z) (ht : z.id = t) : numOf xs t d = z.til := by unfold numOf; rw [findB_at h hz ht]
theorem numOf_none {t d : Int} {xs : List Bn} {k : Nat} (h : NoIn t xs k) (hk : xs.length ≤ k) : numOf xs t d = d := by unfold numOf; rw [findB_none h hk]
/-- who has read a message -/
def readL (n : Int) (xs : List Bn) : List Int := bids (xs.filter fun x => decide (n ≤ x.til))
theorem readL_yes {n : Int} {xs : List Bn} {k : Nat} {z : Bn} (hz : xs[k]? = some z) (h : n ≤ z.til) : readL n (xs.take (k + 1)) = readL n (xs.take k) ++ [z.id] := by
  simp [readL, bids, take_some hz, List.filter_append, h]
theorem readL_no {n : Int} {xs : List Bn} {k : Nat} {z : Bn} (hz : xs[k]? = some z) (h : ¬ n ≤ z.til) : readL n (xs.take (k + 1)) = readL n (xs.take k) := by
  simp [readL, bids, take_some hz, List.filter_append, h]
theorem readL_len (n : Int) (xs : List Bn) : (readL n xs).length ≤ xs.length := by
  unfold readL bids; rw [List.length_map]; exact List.length_filter_le _ _
theorem readL_take (n : Int) (xs : List Bn) (k : Nat) : (readL n (xs.take k)).length ≤ k := Nat.le_trans (readL_len _ _) (by rw [List.length_take]; omega)
theorem roll_rise {f : Bn → Bool} {xs : List Bn} (h : rollB f xs = true) : xs.length ≤ 30 ∧ (xs.all f) = true ∧ memB (bids xs) = true := by
  simp only [rollB, Bool.and_eq_true, decide_eq_true_eq] at h
  exact ⟨h.1, h.2.1, h.2.2⟩
def markZ (b : Bool) (ks : List Bn) (t : Int) : Int := if b = true then numOf ks t 0 else 0
end Go.Proofs.YtgomffcdoglbfaaDoor
