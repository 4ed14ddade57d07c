import Derived.Test.YteeodjbionjlmaaZPlain10
namespace Go.Proofs.Yteeodjbionjlmaa
set_option linter.unusedVariables false
/-- the runs of a text with their places, byte by byte -/
abbrev RSt := List (Nat × List Int) × List Int
def rstep (k : Nat) (st : RSt) (b : Int) : RSt := if lowC b ≠ 0 then (st.1, st.2 ++ [lowC b]) else if st.2 = [] then st else (st.1 ++ [(k - st.2.length, st.2)], [])
def rTo (s : ByteArray) : Nat → RSt
  | 0 => ([], [])
  | k + 1 => rstep k (rTo s k) (byteAt s k)
theorem rstep_put (k : Nat) (st : RSt) (b c : Int) (h : lowC b = c) (hc : c ≠ 0) : rstep k st b = (st.1, st.2 ++ [c]) := by subst h; simp [rstep, hc]
theorem rstep_none (k : Nat) (st : RSt) (b : Int) (h : lowC b = 0) (hc : st.2 = []) : rstep k st b = st := by simp [rstep, h, hc]
theorem rstep_end (k : Nat) (st : RSt) (b : Int) (h : lowC b = 0) (hc : st.2 ≠ []) : rstep k st b = (st.1 ++ [(k - st.2.length, st.2)], []) := by simp [rstep, h, hc]
theorem rTo_wTo (s : ByteArray) (k : Nat) : (rTo s k).1.map (·.2) = (wTo s k).1 ∧ (rTo s k).2 = (wTo s k).2 := by
  induction k with
  | zero => simp [rTo, wTo]
  | succ k ih =>
    obtain ⟨h1, h2⟩ := ih
    simp only [rTo, wTo, rstep, wstep, h2]
    split
    · exact ⟨h1, rfl⟩
    · split
      · exact ⟨h1, h2⟩
      · simp [h1]
theorem rTo_bd (s : ByteArray) (k : Nat) : (rTo s k).1.length ≤ k ∧ (rTo s k).2.length ≤ k := by
  have h := rTo_wTo s k
  have b := wTo_bd s k
  rw [← h.1, ← h.2, List.length_map] at b
  exact b
theorem rTo_byte (s : ByteArray) (k : Nat) : ByteL (rTo s k).2 := by rw [(rTo_wTo s k).2]; exact wTo_byte s k
def runsL (s : ByteArray) : List (Nat × List Int) := (rTo s (s.size + 1)).1
/-- the end of a run -/
def endOf (s : ByteArray) (k : Nat) : Nat := if k < s.size ∧ lowC (byteAt s k) ≠ 0 then endOf s (k + 1) else k
  termination_by s.size - k
theorem endOf_go (s : ByteArray) (k : Nat) (h : k < s.size) (h2 : lowC (byteAt s k) ≠ 0) : endOf s k = endOf s (k + 1) := by rw [endOf, if_pos ⟨h, h2⟩]
theorem endOf_stay (s : ByteArray) (k : Nat) (h : ¬ (k < s.size ∧ lowC (byteAt s k) ≠ 0)) : endOf s k = k := by rw [endOf, if_neg h]
theorem endOf_ge (s : ByteArray) (k : Nat) : k ≤ endOf s k := by
  induction k using endOf.induct s with
  | case1 k h ih => rw [endOf_go s k h.1 h.2]; omega
  | case2 k h => rw [endOf_stay s k h]; omega
theorem endOf_le (s : ByteArray) (k : Nat) (hk : k ≤ s.size) : endOf s k ≤ s.size := by
  induction k using endOf.induct s with
  | case1 k h ih => rw [endOf_go s k h.1 h.2]; exact ih (by omega)
  | case2 k h => rw [endOf_stay s k h]; exact hk
theorem byteAt_far (s : ByteArray) (k : Nat) (h : s.size ≤ k) : byteAt s k = 0 := by
  unfold byteAt
  rw [List.getD_eq_getElem?_getD, List.getElem?_eq_none (by simpa using h)]
  rfl
theorem endOf_stop (s : ByteArray) (k : Nat) : lowC (byteAt s (endOf s k)) = 0 := by
  induction k using endOf.induct s with
  | case1 k h ih => rw [endOf_go s k h.1 h.2]; exact ih
  | case2 k h =>
    rw [endOf_stay s k h]
    by_cases h1 : k < s.size
    · exact Decidable.not_not.1 (fun h2 => h ⟨h1, h2⟩)
    · rw [byteAt_far s k (by omega)]; rfl
/-- the small letters from a place to another -/
def lows (s : ByteArray) (a e : Nat) : List Int := (List.range' a (e - a)).map (fun j => lowC (byteAt s j))
theorem lows_len (s : ByteArray) (a e : Nat) : (lows s a e).length = e - a := by simp [lows]
theorem lows_byte (s : ByteArray) (a e : Nat) : ByteL (lows s a e) := by
  intro x hx
  obtain ⟨j, -, rfl⟩ := List.mem_map.1 hx
  have := byteAt_bd s j
  exact lowC_bd _ this.1 this.2
theorem rTo_in (s : ByteArray) (a k : Nat) (hk : a ≤ k) : ∀ cur, rTo s k = ((rTo s a).1, cur) → rTo s (endOf s k) = ((rTo s a).1, cur ++ lows s k (endOf s k)) := by
  clear hk
  induction k using endOf.induct s with
  | case1 k h ih =>
    intro cur hc
    have e := endOf_go s k h.1 h.2
    have g := endOf_ge s (k + 1)
    have h1 : rTo s (k + 1) = ((rTo s a).1, cur ++ [lowC (byteAt s k)]) := by
      show rstep k (rTo s k) (byteAt s k) = _
      rw [hc]; exact rstep_put k _ _ _ rfl h.2
    rw [e, ih _ h1]
    have hl : lows s k (endOf s (k + 1)) = lowC (byteAt s k) :: lows s (k + 1) (endOf s (k + 1)) := by
      unfold lows
      obtain ⟨d, hd⟩ : ∃ d, endOf s (k + 1) - k = d + 1 := ⟨endOf s (k + 1) - k - 1, by omega⟩
      rw [hd, show endOf s (k + 1) - (k + 1) = d by omega]
      rfl
    rw [hl, List.append_assoc]
    rfl
  | case2 k h =>
    intro cur hc
    rw [endOf_stay s k h, hc]
    simp [lows]
/-- ONE RUN: from a place outside of one -/
theorem rTo_run (s : ByteArray) (a : Nat) (h : (rTo s a).2 = []) (he : a < endOf s a) : rTo s (endOf s a + 1) = ((rTo s a).1 ++ [(a, lows s a (endOf s a))], []) := by
  have h1 := rTo_in s a a (Nat.le_refl _) [] (by rw [← h])
  show rstep (endOf s a) (rTo s (endOf s a)) (byteAt s (endOf s a)) = _
  rw [h1, List.nil_append]
  have hn := lows_len s a (endOf s a)
  rw [rstep_end _ _ _ (endOf_stop s a) (by intro e; simp only at e; rw [e] at hn; simp at hn; omega)]
  simp only [hn]
  rw [show endOf s a - (endOf s a - a) = a by omega]
theorem rTo_skip (s : ByteArray) (a : Nat) (h : (rTo s a).2 = []) (he : endOf s a = a) : rTo s (a + 1) = rTo s a := by
  show rstep a (rTo s a) (byteAt s a) = _
  exact rstep_none _ _ _ (by have := endOf_stop s a; rwa [he] at this) h
theorem rTo_last (s : ByteArray) (a : Nat) (h : (rTo s a).2 = []) (h1 : s.size ≤ a) (h2 : a ≤ s.size + 1) : (rTo s a).1 = runsL s := by
  unfold runsL
  rcases (show a = s.size + 1 ∨ a = s.size by omega) with rfl | rfl
  · rfl
  · have := rTo_skip s s.size h (endOf_stay s _ (by omega)); rw [this]
/-- what a change of runs makes of a text: what is done, and up to where -/
def chg (s : ByteArray) (f : ByteArray → ByteArray) (l : List (Nat × List Int)) : ByteArray × Nat :=
  l.foldl (fun p x => (p.1 ++ s.extract p.2 x.1 ++ f (s.extract x.1 (x.1 + x.2.length)), x.1 + x.2.length)) (ByteArray.empty, 0)
theorem chg_snoc (s : ByteArray) (f : ByteArray → ByteArray) (l : List (Nat × List Int)) (x : Nat × List Int) :
    chg s f (l ++ [x]) = ((chg s f l).1 ++ s.extract (chg s f l).2 x.1 ++ f (s.extract x.1 (x.1 + x.2.length)), x.1 + x.2.length) := by
  unfold chg; rw [List.foldl_append]; rfl
/-- the runs of a text come one behind another -/
theorem rTo_chain (s : ByteArray) (k : Nat) : ∀ x ∈ (rTo s k).1, x.1 + x.2.length + (rTo s k).2.length + 1 ≤ k ∧ 1 ≤ x.2.length := by
  induction k with
  | zero => intro x hx; simp [rTo] at hx
  | succ k ih =>
    intro x hx
    have hb := (rTo_bd s k).2
    simp only [rTo, rstep] at hx ⊢
    split at hx
    · rename_i h; rw [if_pos h]; have := ih x hx; simp; omega
    · rename_i h
      rw [if_neg h]
      split at hx
      · rename_i h2; rw [if_pos h2]; have := ih x hx; omega
      · rename_i h2
        rw [if_neg h2]
        have hp : 1 ≤ (rTo s k).2.length := by cases hc : (rTo s k).2 with | nil => exact absurd hc h2 | cons a l => simp
        rcases List.mem_append.1 hx with hx | hx
        · have := ih x hx; simp; omega
        · simp at hx; subst hx; simp; omega
end Go.Proofs.Yteeodjbionjlmaa
