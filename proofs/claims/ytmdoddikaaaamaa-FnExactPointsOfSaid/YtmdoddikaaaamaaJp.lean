import Derived.Test.YtmdoddikaaaamaaJa
import Derived.Test.YtmdoddikaaaamaaZMsgP
namespace Go.Proofs.Ytmdoddikaaaamaa
set_option linter.unusedVariables false
/-- leases and marks of a presence: both are rows of two numbers -/
def mkOk (x : Bn) : Bool := amtB x.til
def rollB (f : Bn → Bool) (xs : List Bn) : Bool := decide (xs.length ≤ 30) && (xs.all f && memB (bids xs))
def presB (hs ts ks : List Bn) : Bool := rollB bnB hs && (rollB bnB ts && rollB mkOk ks)
def RollTo (f : Bn → Bool) (xs : List Bn) (k : Nat) : Prop := RiseTo (bids xs) 1 1000 k ∧ ∀ z ∈ xs.take k, f z = true
theorem RollTo.zero (f : Bn → Bool) (xs : List Bn) : RollTo f xs 0 := ⟨RiseTo.zero _ _ _, fun z h => by simp at h⟩
theorem RollTo.succ {f : Bn → Bool} {xs : List Bn} {z : Bn} {k : Nat} (h : RollTo f xs k) (hz : xs[k]? = some z) (h1 : f z = true) (h2 : idB z.id = true) (h3 : ∀ y, 0 < k → xs[k - 1]? = some y → y.id < z.id) : RollTo f xs (k + 1) := by
  simp only [idB, decide_eq_true_eq] at h2
  refine ⟨h.1.succ (x := z.id) (by simp [bids, hz]) h2.1 h2.2 fun y h0 hy => ?_, fun u hu => ?_⟩
  · simp only [bids, List.getElem?_map, Option.map_eq_some_iff] at hy
    obtain ⟨y', hy', rfl⟩ := hy
    exact h3 y' h0 hy'
  · rw [take_some hz, List.mem_append] at hu
    rcases hu with hu | hu
    · exact h.2 u hu
    · simp at hu; subst hu; exact h1
theorem roll_bad {f : Bn → Bool} {xs : List Bn} {z : Bn} {k : Nat} (hz : xs[k]? = some z) (h : f z = false ∨ idB z.id = false) : (xs.all f && memB (bids xs)) = false := by
  rw [← Bool.not_eq_true]; intro H
  simp only [Bool.and_eq_true] at H
  obtain ⟨h1, h2⟩ := H
  have hm := List.mem_of_getElem? hz
  rcases h with h | h
  · have := List.all_eq_true.1 h1 z hm; rw [h] at this; cases this
  · have hr := mem_rise h2 k z.id (by have := (List.getElem?_eq_some_iff.1 hz).1; simpa [bids] using this) (by simp [bids, hz])
    have : idB z.id = true := by simp [idB, hr.1, hr.2.1]
    rw [h] at this; cases this
theorem roll_flat {f : Bn → Bool} {xs : List Bn} {z y : Bn} {k : Nat} (h0 : 0 < k) (hz : xs[k]? = some z) (hy : xs[k - 1]? = some y) (h : z.id ≤ y.id) : (xs.all f && memB (bids xs)) = false := by
  rw [← Bool.not_eq_true]; intro H
  simp only [Bool.and_eq_true] at H
  obtain ⟨_, h2⟩ := H
  have := rises_flat (xs := bids xs) (lo := 1) (hi := 1000) (k := k) (x := z.id) (y := y.id) h0 (by simp [bids, hz]) (by simp [bids, hy]) h
  unfold memB at h2
  rw [this] at h2; cases h2
theorem roll_full {f : Bn → Bool} {xs : List Bn} {k : Nat} (h : RollTo f xs k) (hk : xs.length ≤ k) : (xs.all f && memB (bids xs)) = true := by
  obtain ⟨h1, h2⟩ := h
  have e1 : memB (bids xs) = true := rises_full h1 (by simpa [bids] using hk)
  rw [List.take_of_length_le hk] at h2
  rw [e1, Bool.and_true]
  exact List.all_eq_true.2 h2
theorem presB_iff {hs ts ks : List Bn} : presB hs ts ks = true ↔ rollB bnB hs = true ∧ rollB bnB ts = true ∧ rollB mkOk ks = true := by simp [presB]
end Go.Proofs.Ytmdoddikaaaamaa
