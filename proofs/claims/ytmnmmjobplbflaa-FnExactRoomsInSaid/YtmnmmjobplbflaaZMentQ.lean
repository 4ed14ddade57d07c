import Derived.Test.YtmnmmjobplbflaaZMentP
namespace Go.Proofs.Ytmnmmjobplbflaa
set_option linter.unusedVariables false
/-- the mentions of what stands behind i -/
def foldP (xs : List Int) (os : List Int) : List Int := xs.foldl (fun acc n => putL n acc) os
theorem ments_other {l : List UInt8} {i : Nat} {b : UInt8} (h : l[i]? = some b) (hb : b ≠ 64) : mentsL (l.drop i) = mentsL (l.drop (i + 1)) := by
  obtain ⟨hl, he⟩ := List.getElem?_eq_some_iff.1 h
  rw [List.drop_eq_getElem_cons hl, he]
  simp [mentsL, digitsL, hb]
def behindL (l : List UInt8) (i : Nat) : List UInt8 := (l.drop (i + 1)).takeWhile digC
theorem ments_some {l : List UInt8} {i : Nat} {n : Int} (h : l[i]? = some 64) (hm : mentOf (behindL l i) = some n) : mentsL (l.drop i) = n :: mentsL (l.drop (i + 1)) := by
  obtain ⟨hl, he⟩ := List.getElem?_eq_some_iff.1 h
  rw [List.drop_eq_getElem_cons hl, he]
  unfold behindL at hm
  simp [mentsL, digitsL, hm]
theorem ments_none {l : List UInt8} {i : Nat} (h : l[i]? = some 64) (hm : mentOf (behindL l i) = none) : mentsL (l.drop i) = mentsL (l.drop (i + 1)) := by
  obtain ⟨hl, he⟩ := List.getElem?_eq_some_iff.1 h
  rw [List.drop_eq_getElem_cons hl, he]
  unfold behindL at hm
  simp [mentsL, digitsL, hm]
theorem foldP_cons (n : Int) (xs os : List Int) : foldP (n :: xs) os = foldP xs (putL n os) := rfl
theorem foldP_nil (os : List Int) : foldP [] os = os := rfl
theorem setL_fold (xs : List Int) : setL xs = foldP xs [] := by
  have h := setL_join [] xs List.Pairwise.nil
  rw [List.nil_append] at h
  rw [h]
  simp [joinL, joinTo, foldP]
theorem foldP_len : ∀ (xs os : List Int), (foldP xs os).length ≤ os.length + xs.length
  | [], os => by simp [foldP]
  | x :: xs, os => by
    have h1 := foldP_len xs (putL x os)
    have h2 := putL_len x os
    rw [foldP_cons, List.length_cons]; omega
theorem ments_end {l : List UInt8} {i : Nat} (h : l.length ≤ i) : mentsL (l.drop i) = [] := by
  rw [List.drop_eq_nil_of_le h]; rfl
/-- how far the digits behind i go -/
def toOf (l : List UInt8) (i : Nat) : Nat := i + 1 + (behindL l i).length
theorem toOf_le {l : List UInt8} {i : Nat} (h : i < l.length) : toOf l i ≤ l.length := by
  unfold toOf behindL
  have h1 := (List.takeWhile_prefix digC (l := l.drop (i + 1))).length_le
  rw [List.length_drop] at h1
  omega
theorem to_digit {l : List UInt8} {i j : Nat} (h0 : i + 1 ≤ j) (h : j < toOf l i) : ∃ b, l[j]? = some b ∧ digC b = true := by
  unfold toOf behindL at h
  obtain ⟨k, rfl⟩ : ∃ k, j = i + 1 + k := ⟨j - (i + 1), by omega⟩
  have hk : k < ((l.drop (i + 1)).takeWhile digC).length := by omega
  have hg := List.getElem?_eq_getElem hk
  have hmem := List.getElem_mem hk
  have hd := (List.all_eq_true.1 (List.all_takeWhile (l := l.drop (i + 1)) (p := digC))) _ hmem
  refine ⟨((l.drop (i + 1)).takeWhile digC)[k], ?_, hd⟩
  obtain ⟨t, ht⟩ := List.takeWhile_prefix digC (l := l.drop (i + 1))
  have h2 : (l.drop (i + 1))[k]? = some ((l.drop (i + 1)).takeWhile digC)[k] := by
    conv => lhs; rw [← ht]
    rw [List.getElem?_append_left hk]
    exact hg
  rw [List.getElem?_drop] at h2
  exact h2
theorem to_stop {l : List UInt8} {i : Nat} {b : UInt8} (h : l[toOf l i]? = some b) : digC b = false := by
  unfold toOf behindL at h
  have e : l = l.take (i + 1) ++ l.drop (i + 1) := (List.take_append_drop _ _).symm
  have hh := h
  rw [← List.getElem?_drop] at hh
  have hs : l.drop (i + 1) = (l.drop (i + 1)).takeWhile digC ++ (l.drop (i + 1)).dropWhile digC := (List.takeWhile_append_dropWhile).symm
  rw [hs, List.getElem?_append_right (by simp), ] at hh
  have h0 : ((l.drop (i + 1)).takeWhile digC ++ (l.drop (i + 1)).dropWhile digC).takeWhile digC = (l.drop (i + 1)).takeWhile digC := by rw [← hs]
  rw [h0, Nat.sub_self] at hh
  cases hd : (l.drop (i + 1)).dropWhile digC with
  | nil => rw [hd] at hh; simp at hh
  | cons x r =>
    rw [hd] at hh
    simp at hh
    subst hh
    have := List.head?_dropWhile_not digC (l.drop (i + 1))
    rw [hd] at this
    simpa using this
theorem tl_extract (s : ByteArray) (i : Nat) (h : i < s.size) : tl (s.extract (i + 1) (toOf (tl s) i)) = behindL (tl s) i := by
  have : tl (s.extract (i + 1) (toOf (tl s) i)) = ((tl s).take (toOf (tl s) i)).drop (i + 1) := by simp [tl, List.drop_take]
  rw [this, List.drop_take]
  unfold toOf
  rw [show i + 1 + (behindL (tl s) i).length - (i + 1) = (behindL (tl s) i).length by omega]
  unfold behindL
  exact (List.prefix_iff_eq_take.1 (List.takeWhile_prefix digC)).symm
end Go.Proofs.Ytmnmmjobplbflaa
