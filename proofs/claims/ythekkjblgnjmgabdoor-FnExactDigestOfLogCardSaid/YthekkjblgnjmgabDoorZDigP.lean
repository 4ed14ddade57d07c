import Derived.Test.YthekkjblgnjmgabDoorChecked
import Derived.WalkKit
import Derived.ProofKit
import Derived.OpenShut
import Derived.ShutString
import Derived.ChangeOld
import Derived.Below
import Derived.Lib.Hide
import Derived.Test.YthekkjblgnjmgabDoorZListI
import Derived.Test.YthekkjblgnjmgabDoorZMsgA
namespace Go.Proofs.YthekkjblgnjmgabDoor
open Go.ChangeShapes Go.WideShapes Go.ChangeAt Go.RowKit
open Go.ChangeMaps (open_string shut_string)
set_option linter.unusedVariables false
/-- the text of a log, line by line -/
def numsOf (m : Mg) : List Int := [m.num, m.sdr, m.tick, m.edits, if m.gone then 1 else 0, m.reply]
def lineB (m : Mg) : ByteArray := ltS (numsOf m) ++ ⟨#[32]⟩ ++ ltS m.likes ++ ⟨#[32]⟩ ++ m.text
def lineN (m : Mg) : ByteArray := lineB m ++ ⟨#[10]⟩
def logTo (x : Int) (ms : List Mg) (k : Nat) : ByteArray := (ms.take k).foldl (fun a m => a ++ lineN m) (ds x ++ ⟨#[10]⟩)
theorem logTo_zero (x : Int) (ms : List Mg) : logTo x ms 0 = ds x ++ ⟨#[10]⟩ := by simp [logTo]
theorem logTo_succ {x : Int} {ms : List Mg} {k : Nat} {m : Mg} (h : ms[k]? = some m) : logTo x ms (k + 1) = logTo x ms k ++ lineN m := by
  rw [logTo, take_get h, List.foldl_append]; rfl
theorem rise_small {xs : List Int} {lo hi : Int} (h : risesB xs lo hi = true) (h0 : -1000000000 ≤ lo) (h1 : hi ≤ 1000000000) : SmallL xs := by
  induction xs with
  | nil => intro x hx; cases hx
  | cons a r ih =>
    cases r with
    | nil =>
      simp only [risesB, decide_eq_true_eq] at h
      intro x hx; simp at hx; subst hx; omega
    | cons b r =>
      simp only [risesB, Bool.and_eq_true, decide_eq_true_eq] at h
      intro x hx
      rcases List.mem_cons.1 hx with rfl | hx
      · omega
      · exact ih h.2 x hx
theorem msg_few {m : Mg} (h : msgB m = true) : SmallL (numsOf m) ∧ SmallL m.likes ∧ m.likes.length ≤ 20 ∧ m.text.size ≤ 80 := by
  simp only [msgB, numB, idB, tickB, textB, amtB, repB, likesB, Bool.and_eq_true, decide_eq_true_eq] at h
  obtain ⟨h1, h2, h3, h4, h5, h6, ⟨h7, h8, _⟩, _⟩ := h
  refine ⟨?_, ?_, h7, h4.1⟩
  · intro x hx
    simp only [numsOf, List.mem_cons, List.not_mem_nil, or_false] at hx
    rcases hx with rfl | rfl | rfl | rfl | rfl | rfl
    · omega
    · omega
    · omega
    · omega
    · split <;> omega
    · omega
  · exact rise_small (lo := 1) (hi := 1000) h8 (by omega) (by omega)
theorem ltS_size {xs : List Int} (h : SmallL xs) : (ltS xs).size ≤ 12 * xs.length + 11 := by
  cases xs with
  | nil => decide
  | cons x r => have := ltTo_size x r h r.length (Nat.le_refl _); simp only [ltS, List.length_cons]; omega
theorem line_size {m : Mg} (h : msgB m = true) : (lineB m).size ≤ 416 := by
  obtain ⟨h1, h2, h3, h4⟩ := msg_few h
  have a := ltS_size h1
  have b := ltS_size h2
  have c : (numsOf m).length = 6 := rfl
  have d : (⟨#[32]⟩ : ByteArray).size = 1 := rfl
  unfold lineB
  simp only [ByteArray.size_append]
  omega
theorem lineN_size {m : Mg} (h : msgB m = true) : (lineN m).size ≤ 417 := by
  have a := line_size h
  have d : (⟨#[10]⟩ : ByteArray).size = 1 := rfl
  unfold lineN
  rw [ByteArray.size_append]; omega
theorem chain_all : ∀ {ms : List Mg} {p : Option Mg}, chainB p ms = true → ∀ m ∈ ms, msgB m = true := by
  intro ms
  induction ms with
  | nil => intro p _ m hm; cases hm
  | cons a r ih =>
    intro p h m hm
    rw [chainB, link_eq, Bool.and_eq_true, Bool.and_eq_true] at h
    rcases List.mem_cons.1 hm with rfl | hm
    · exact h.1.1
    · exact ih h.2 m hm
theorem log_parts {x : Int} {ms : List Mg} (h : logB x ms = true) : ms.length ≤ 40 ∧ (1 ≤ x ∧ x ≤ 1000000000) ∧ ∀ m ∈ ms, msgB m = true := by
  simp only [logB, numB, Bool.and_eq_true, decide_eq_true_eq] at h
  exact ⟨h.1, h.2.1, chain_all h.2.2.1⟩
theorem logTo_size {x : Int} {ms : List Mg} (h : logB x ms = true) (k : Nat) (hk : k ≤ ms.length) : (logTo x ms k).size ≤ 12 + 417 * k := by
  obtain ⟨h1, h2, h3⟩ := log_parts h
  induction k with
  | zero =>
    have := ds_size x (by omega) (by omega)
    have d : (⟨#[10]⟩ : ByteArray).size = 1 := rfl
    rw [logTo_zero, ByteArray.size_append]; omega
  | succ k ih =>
    have e := List.getElem?_eq_getElem (show k < ms.length by omega)
    rw [logTo_succ e, ByteArray.size_append]
    have := ih (by omega)
    have := lineN_size (h3 _ (List.getElem_mem (show k < ms.length by omega)))
    omega
theorem row_new6 (w : World) (t : TypeId) (a b c d e f : Int) : Row i64v (w.alloc (.cells #[.int .i64 a, .int .i64 b, .int .i64 c, .int .i64 d, .int .i64 e, .int .i64 f] t)) (w.heap.size + 1) (some ⟨w.heap.size, 0, none⟩) 6 [a, b, c, d, e, f] :=
  ⟨rfl, fun _ => ⟨_, 0, rfl, by omega, fun j z hj => by
    rw [Nat.zero_add, (Blk.new w t #[.int .i64 a, .int .i64 b, .int .i64 c, .int .i64 d, .int .i64 e, .int .i64 f]).cell, ← Array.getElem?_toList]
    match j, hj with
    | 0, hj => cases hj; rfl
    | 1, hj => cases hj; rfl
    | 2, hj => cases hj; rfl
    | 3, hj => cases hj; rfl
    | 4, hj => cases hj; rfl
    | 5, hj => cases hj; rfl⟩⟩
theorem few_all {xs : List Int} {n : Nat} (h : SmallL xs) (hn : xs.length = n) : FewAt xs n :=
  ⟨by omega, fun j x _ hx => h x (List.mem_of_getElem? hx), fun x hx => by rw [List.getElem?_eq_none (by omega)] at hx; cases hx⟩
theorem BuilderAt_lt {w : World} {b : Nat} {o : Obj} (h : w.heap[b]? = some o) : b < w.heap.size := by
  rcases Nat.lt_or_ge b w.heap.size with h1 | h1
  · exact h1
  · simp [Array.getElem?_eq_none h1] at h
theorem builder_below {T e : TypeId} {B b : Nat} {bs : List Value} {w w' : World} (h : Lib.IsBuilder T e B b bs w) (hb : Below w.heap.size w w') : Lib.IsBuilder T e B b bs w' := by
  rcases h with h | h
  · obtain ⟨hB, v, hbk, ho, hne⟩ := h
    exact .inl ⟨hB, v, (hb.block b (BuilderAt_lt hbk)).trans hbk, own_below ho hb (Nat.le_refl _), hne⟩
  · obtain ⟨hB, v, hbk, ho, hne⟩ := h
    exact .inr ⟨hB, v, (hb.block b (BuilderAt_lt hbk)).trans hbk, own_below ho hb (Nat.le_refl _), hne⟩
end Go.Proofs.YthekkjblgnjmgabDoor
