import Derived.Lib.Split
import Derived.Lib.IndexBytes
import Derived.Lib.IndexLaws
namespace Go.Proofs.Ytmnmmjobplbflaa
set_option linter.unusedVariables false
def tl (s : ByteArray) : List UInt8 := s.data.toList
theorem tl_inj {a b : ByteArray} (h : tl a = tl b) : a = b := by
  have ext : ∀ a b : ByteArray, a.data = b.data → a = b := fun a b h => by cases a; cases b; simp_all
  exact ext a b (Array.ext' h)
/-- the parts of a text between commas -/
def cutL : List UInt8 → List (List UInt8)
  | [] => [[]]
  | b :: r => if b = 44 then [] :: cutL r else match cutL r with
    | [] => [[b]]
    | p :: ps => (b :: p) :: ps
def pre (q : List UInt8) : List (List UInt8) → List (List UInt8)
  | [] => [q]
  | p :: ps => (q ++ p) :: ps
theorem cutL_ne (l : List UInt8) : cutL l ≠ [] := by
  cases l with
  | nil => simp [cutL]
  | cons b r =>
    unfold cutL
    split
    · simp
    · split <;> simp
theorem pre_nil (ps : List (List UInt8)) (h : ps ≠ []) : pre [] ps = ps := by
  cases ps with
  | nil => exact absurd rfl h
  | cons p ps => rfl
theorem pre_mark (q r : List UInt8) : pre q (cutL (44 :: r)) = q :: cutL r := by simp [cutL, pre]
theorem pre_other (q r : List UInt8) (b : UInt8) (h : b ≠ 44) : pre q (cutL (b :: r)) = pre (q ++ [b]) (cutL r) := by
  have hne := cutL_ne r
  rw [cutL, if_neg h]
  cases hc : cutL r with
  | nil => exact absurd hc hne
  | cons p ps => simp [pre]
theorem cutL_len (l : List UInt8) : (cutL l).length ≤ l.length + 1 := by
  induction l with
  | nil => simp [cutL]
  | cons b r ih =>
    have hne := cutL_ne r
    unfold cutL
    split
    · simp; omega
    · cases hc : cutL r with
      | nil => exact absurd hc hne
      | cons p ps => rw [hc] at ih; simp at ih ⊢; omega
theorem cutL_none (l : List UInt8) (h : Lib.indexByte l 44 = -1) : cutL l = [l] := by
  induction l with
  | nil => rfl
  | cons b r ih =>
    unfold Lib.indexByte at h
    by_cases hb : b = 44
    · subst hb; simp at h
    · have hge := Lib.indexByte_ge r 44
      have hr : Lib.indexByte r 44 = -1 := by
        rw [if_neg (by simpa using hb)] at h
        by_cases e : Lib.indexByte r 44 = -1
        · exact e
        · rw [if_neg (by simpa using e)] at h; omega
      rw [cutL, if_neg hb, ih hr]
theorem cutL_some (l : List UInt8) (i : Nat) (h : Lib.indexByte l 44 = i) : cutL l = l.take i :: cutL (l.drop (i + 1)) := by
  induction l generalizing i with
  | nil => simp [Lib.indexByte] at h
  | cons b r ih =>
    unfold Lib.indexByte at h
    by_cases hb : b = 44
    · subst hb
      simp at h
      have : i = 0 := by omega
      subst this
      simp [cutL]
    · have hge := Lib.indexByte_ge r 44
      rw [if_neg (by simpa using hb)] at h
      by_cases e : Lib.indexByte r 44 = -1
      · rw [if_pos (by simpa using e)] at h; omega
      · rw [if_neg (by simpa using e)] at h
        obtain ⟨j, hj⟩ : ∃ j : Nat, Lib.indexByte r 44 = j := ⟨(Lib.indexByte r 44).toNat, by omega⟩
        have hij : i = j + 1 := by omega
        subst hij
        rw [cutL, if_neg hb, ih j hj]
        simp
/-- cut at k commas at most: the whole of the parts if they are so few, and one more than k parts else -/
theorem splitK_cut (k : Nat) (l : List UInt8) : ((cutL l).length ≤ k + 1 → Lib.splitK [44] 0 k l = cutL l) ∧ (k + 1 < (cutL l).length → (Lib.splitK [44] 0 k l).length = k + 1) := by
  induction k generalizing l with
  | zero =>
    rcases (show Lib.indexByte l 44 < 0 ∨ 0 ≤ Lib.indexByte l 44 by omega) with h | h
    · have h1 : Lib.indexByte l 44 = -1 := by have := Lib.indexByte_ge l 44; omega
      rw [cutL_none l h1]
      simp [Lib.splitK]
    · obtain ⟨i, hi⟩ : ∃ i : Nat, Lib.indexByte l 44 = i := ⟨(Lib.indexByte l 44).toNat, by omega⟩
      rw [cutL_some l i hi]
      have := cutL_ne (l.drop (i + 1))
      refine ⟨fun h2 => ?_, fun _ => rfl⟩
      have h3 : 0 < (cutL (l.drop (i + 1))).length := List.length_pos_iff.2 this
      simp only [List.length_cons] at h2
      omega
  | succ k ih =>
    unfold Lib.splitK
    rw [Lib.index_one]
    rcases (show Lib.indexByte l 44 < 0 ∨ 0 ≤ Lib.indexByte l 44 by omega) with h | h
    · have h1 : Lib.indexByte l 44 = -1 := by have := Lib.indexByte_ge l 44; omega
      rw [cutL_none l h1, if_pos (by rw [h1]; rfl)]
      simp
    · obtain ⟨i, hi⟩ : ∃ i : Nat, Lib.indexByte l 44 = i := ⟨(Lib.indexByte l 44).toNat, by omega⟩
      have hn : ¬ (Lib.indexByte l 44 == -1) = true := by rw [hi]; simp
      rw [if_neg hn, hi, cutL_some l i hi]
      obtain ⟨a, b⟩ := ih (l.drop (i + 1))
      refine ⟨fun h2 => ?_, fun h2 => ?_⟩
      · simp only [List.length_cons] at h2
        simp [a (by omega)]
      · simp only [List.length_cons] at h2 ⊢
        simp [b (by omega)]
def cutB (s : ByteArray) : List ByteArray := (cutL (tl s)).map fun l => ⟨l.toArray⟩
theorem cutB_tl (s : ByteArray) : (cutB s).map tl = cutL (tl s) := by simp [cutB, tl, Function.comp_def]
theorem cutB_of {s : ByteArray} {ps : List ByteArray} (h : ps.map tl = cutL (tl s)) : ps = cutB s := by
  rw [← cutB_tl] at h
  exact List.map_inj_right (fun a b => tl_inj) |>.1 h
/-- what strings.SplitN of a limit of 301 hands back: the parts, or too many -/
theorem splitN_cut (s : ByteArray) : ((cutB s).length ≤ 300 → Lib.splitB ⟨#[44]⟩ 0 (min 301 (s.size + 1) - 1) s = cutB s) ∧ (300 < (cutB s).length → 300 < (Lib.splitB ⟨#[44]⟩ 0 (min 301 (s.size + 1) - 1) s).length) := by
  have hl : (cutB s).length = (cutL (tl s)).length := by simp [cutB]
  have hd := Lib.splitB_data ⟨#[44]⟩ 0 (min 301 (s.size + 1) - 1) s
  have hc := cutL_len (tl s)
  have hsz : (tl s).length = s.size := by simp [tl]
  obtain ⟨a, b⟩ := splitK_cut (min 301 (s.size + 1) - 1) (tl s)
  have hd2 : (Lib.splitB ⟨#[44]⟩ 0 (min 301 (s.size + 1) - 1) s).map tl = Lib.splitK [44] 0 (min 301 (s.size + 1) - 1) (tl s) := hd
  refine ⟨fun h => cutB_of (by rw [hd2, a (by omega)]), fun h => ?_⟩
  have he : (Lib.splitB ⟨#[44]⟩ 0 (min 301 (s.size + 1) - 1) s).length = (Lib.splitK [44] 0 (min 301 (s.size + 1) - 1) (tl s)).length := by rw [← hd2]; simp
  rw [he]
  by_cases h2 : (cutL (tl s)).length ≤ (min 301 (s.size + 1) - 1) + 1
  · rw [a h2]; omega
  · rw [b (by omega)]; omega
end Go.Proofs.Ytmnmmjobplbflaa
