import Derived.Lib.Split
import Derived.Lib.IndexBytes
import Derived.Lib.IndexLaws
import Derived.Lib.SplitLaws
import Derived.Lib.CountLaws
import Derived.Test.YtmnmmjobplbflaaZCutP
import Derived.Test.YtmnmmjobplbflaaJa
import Derived.Test.YtmnmmjobplbflaaZDecP
import Derived.Test.YtmnmmjobplbflaaZDecQ
namespace Go.Proofs.Ytmnmmjobplbflaa
set_option linter.unusedVariables false
/-- the parts of a text between its at signs -/
def cutA : List UInt8 → List (List UInt8)
  | [] => [[]]
  | b :: r => if b = 64 then [] :: cutA r else match cutA r with
    | [] => [[b]]
    | p :: ps => (b :: p) :: ps
theorem cutA_ne (l : List UInt8) : cutA l ≠ [] := by
  cases l with
  | nil => simp [cutA]
  | cons b r =>
    unfold cutA
    split
    · simp
    · split <;> simp
theorem cutA_none (l : List UInt8) (h : Lib.indexByte l 64 = -1) : cutA l = [l] := by
  induction l with
  | nil => rfl
  | cons b r ih =>
    unfold Lib.indexByte at h
    by_cases hb : b = 64
    · subst hb; simp at h
    · have hge := Lib.indexByte_ge r 64
      have hr : Lib.indexByte r 64 = -1 := by
        rw [if_neg (by simpa using hb)] at h
        by_cases e : Lib.indexByte r 64 = -1
        · exact e
        · rw [if_neg (by simpa using e)] at h; omega
      rw [cutA, if_neg hb, ih hr]
theorem cutA_some (l : List UInt8) (i : Nat) (h : Lib.indexByte l 64 = i) : cutA l = l.take i :: cutA (l.drop (i + 1)) := by
  induction l generalizing i with
  | nil => simp [Lib.indexByte] at h
  | cons b r ih =>
    unfold Lib.indexByte at h
    by_cases hb : b = 64
    · subst hb
      simp at h
      have : i = 0 := by omega
      subst this
      simp [cutA]
    · have hge := Lib.indexByte_ge r 64
      rw [if_neg (by simpa using hb)] at h
      by_cases e : Lib.indexByte r 64 = -1
      · rw [if_pos (by simpa using e)] at h; omega
      · rw [if_neg (by simpa using e)] at h
        obtain ⟨j, hj⟩ : ∃ j : Nat, Lib.indexByte r 64 = j := ⟨(Lib.indexByte r 64).toNat, by omega⟩
        have hij : i = j + 1 := by omega
        subst hij
        rw [cutA, if_neg hb, ih j hj]
        simp
theorem cutA_len (l : List UInt8) : (cutA l).length ≤ l.length + 1 := by
  induction l with
  | nil => simp [cutA]
  | cons b r ih =>
    have hne := cutA_ne r
    unfold cutA
    split
    · simp; omega
    · cases hc : cutA r with
      | nil => exact absurd hc hne
      | cons p ps => rw [hc] at ih; simp at ih ⊢; omega
theorem splitK_at (k : Nat) (l : List UInt8) (h : (cutA l).length ≤ k + 1) : Lib.splitK [64] 0 k l = cutA l := by
  induction k generalizing l with
  | zero =>
    rcases (show Lib.indexByte l 64 < 0 ∨ 0 ≤ Lib.indexByte l 64 by omega) with h1 | h1
    · have h1 : Lib.indexByte l 64 = -1 := by have := Lib.indexByte_ge l 64; omega
      rw [cutA_none l h1]
      simp [Lib.splitK]
    · obtain ⟨i, hi⟩ : ∃ i : Nat, Lib.indexByte l 64 = i := ⟨(Lib.indexByte l 64).toNat, by omega⟩
      rw [cutA_some l i hi] at h
      have := cutA_ne (l.drop (i + 1))
      have h3 : 0 < (cutA (l.drop (i + 1))).length := List.length_pos_iff.2 this
      simp only [List.length_cons] at h
      omega
  | succ k ih =>
    unfold Lib.splitK
    rw [Lib.index_one]
    rcases (show Lib.indexByte l 64 < 0 ∨ 0 ≤ Lib.indexByte l 64 by omega) with h1 | h1
    · have h1 : Lib.indexByte l 64 = -1 := by have := Lib.indexByte_ge l 64; omega
      rw [cutA_none l h1, if_pos (by rw [h1]; rfl)]
    · obtain ⟨i, hi⟩ : ∃ i : Nat, Lib.indexByte l 64 = i := ⟨(Lib.indexByte l 64).toNat, by omega⟩
      have hn : ¬ (Lib.indexByte l 64 == -1) = true := by rw [hi]; simp
      rw [cutA_some l i hi] at h ⊢
      simp only [List.length_cons] at h
      rw [if_neg hn, hi]
      have := ih (l.drop (i + 1)) (by omega)
      simpa using this
def digC (b : UInt8) : Bool := decide (48 ≤ b) && decide (b ≤ 57)
/-- the digits that stand behind each at sign -/
def digitsL : List UInt8 → List (List UInt8)
  | [] => []
  | b :: r => if b = 64 then r.takeWhile digC :: digitsL r else digitsL r
theorem cutA_digits (l : List UInt8) : (cutA l).tail.map (fun p => p.takeWhile digC) = digitsL l ∧ ((cutA l).headD []).takeWhile digC = l.takeWhile digC := by
  induction l with
  | nil => simp [cutA, digitsL]
  | cons b r ih =>
    unfold cutA digitsL
    by_cases hb : b = 64
    · subst hb
      rw [if_pos rfl, if_pos rfl]
      refine ⟨?_, by simp [digC]⟩
      cases hc : cutA r with
      | nil => exact absurd hc (cutA_ne r)
      | cons p ps =>
        rw [hc] at ih
        simp only [List.tail_cons, List.map_cons, List.headD_cons] at ih ⊢
        rw [ih.1, ih.2]
    · rw [if_neg hb, if_neg hb]
      cases hc : cutA r with
      | nil => exact absurd hc (cutA_ne r)
      | cons p ps =>
        rw [hc] at ih
        simp only [List.tail_cons, List.headD_cons] at ih ⊢
        refine ⟨ih.1, ?_⟩
        rw [List.takeWhile_cons, List.takeWhile_cons, ih.2]
theorem cutA_count (l : List UInt8) : (cutA l).length = l.count 64 + 1 := by
  induction l with
  | nil => simp [cutA]
  | cons b r ih =>
    unfold cutA
    by_cases hb : b = 64
    · subst hb; simp [ih]
    · rw [if_neg hb, List.count_cons_of_ne (by simpa using hb)]
      cases hc : cutA r with
      | nil => exact absurd hc (cutA_ne r)
      | cons p ps => rw [hc] at ih; simpa using ih
def cutAB (s : ByteArray) : List ByteArray := (cutA (tl s)).map fun l => ⟨l.toArray⟩
theorem cutAB_tl (s : ByteArray) : (cutAB s).map tl = cutA (tl s) := by simp [cutAB, tl, Function.comp_def]
theorem split_at_signs (s : ByteArray) : Lib.splitB ⟨#[64]⟩ 0 (Lib.countB s ⟨#[64]⟩) s = cutAB s := by
  have hd := Lib.splitB_data ⟨#[64]⟩ 0 (Lib.countB s ⟨#[64]⟩) s
  have hc : Lib.countB s ⟨#[64]⟩ = (tl s).count 64 := Lib.count_one 64 _
  have h2 : (Lib.splitB ⟨#[64]⟩ 0 (Lib.countB s ⟨#[64]⟩) s).map tl = Lib.splitK [64] 0 (Lib.countB s ⟨#[64]⟩) (tl s) := hd
  rw [splitK_at _ _ (by rw [cutA_count, hc]; omega), ← cutAB_tl] at h2
  exact List.map_inj_right (fun a b => tl_inj) |>.1 h2
theorem cutAB_len (s : ByteArray) : (cutAB s).length = (tl s).count 64 + 1 := by simp [cutAB, cutA_count]
/-- the member that digits name -/
def mentOf (ds : List UInt8) : Option Int := ((List.range 1001).find? fun (k : Nat) => decide (1 ≤ k) && decide (strOfNums (decL (k : Int)) = ⟨ds.toArray⟩)).map fun (k : Nat) => (k : Int)
theorem decL_inj {n m : Int} (h : strOfNums (decL n) = strOfNums (decL m)) : n = m := by
  rw [decL_str, decL_str] at h
  have h2 : Lib.itoa n = Lib.itoa m := by
    have := congrArg tl h
    simpa [tl] using this
  rw [← svL_itoa n, ← svL_itoa m, h2]
theorem mentOf_some {ds : List UInt8} {n : Int} (h : mentOf ds = some n) : 1 ≤ n ∧ n ≤ 1000 ∧ strOfNums (decL n) = ⟨ds.toArray⟩ := by
  simp only [mentOf, Option.map_eq_some_iff] at h
  obtain ⟨k, hk, rfl⟩ := h
  have h1 := List.mem_of_find?_eq_some hk
  have h2 := List.find?_some hk
  simp only [Bool.and_eq_true, decide_eq_true_eq] at h2
  rw [List.mem_range] at h1
  exact ⟨by omega, by omega, h2.2⟩
theorem mentOf_of {ds : List UInt8} {n : Int} (h0 : 1 ≤ n) (h1 : n ≤ 1000) (h : strOfNums (decL n) = ⟨ds.toArray⟩) : mentOf ds = some n := by
  cases hm : mentOf ds with
  | some m =>
    obtain ⟨_, _, h3⟩ := mentOf_some hm
    rw [decL_inj (h3.trans h.symm)]
  | none =>
    simp only [mentOf, Option.map_eq_none_iff, List.find?_eq_none, List.mem_range, Bool.and_eq_true, decide_eq_true_eq] at hm
    exact absurd ⟨by omega, by rw [show ((n.toNat : Nat) : Int) = n by omega]; exact h⟩ (hm n.toNat (by omega))
/-- the members that a text mentions, one after another -/
def mentsL (l : List UInt8) : List Int := (digitsL l).filterMap mentOf
theorem mentsL_len (l : List UInt8) : (mentsL l).length ≤ l.length := by
  have h1 := List.length_filterMap_le mentOf (digitsL l)
  have h2 : (digitsL l).length = l.count 64 := by
    rw [← (cutA_digits l).1]; simp [cutA_count]
  have h3 := List.count_le_length (a := (64 : UInt8)) (l := l)
  unfold mentsL; omega
end Go.Proofs.Ytmnmmjobplbflaa
