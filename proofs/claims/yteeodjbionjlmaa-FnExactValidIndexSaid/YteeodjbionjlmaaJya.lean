
namespace Go.Proofs.Yteeodjbionjlmaa
set_option linter.unusedVariables false
/-- the hexadecimal digit of 0 to 15 -/
def hexD (d : Int) : Int := if d < 10 then 48 + d else 87 + d
theorem hexD_bd (d : Int) (h0 : 0 ≤ d) (h1 : d < 16) : 48 ≤ hexD d ∧ hexD d ≤ 102 := by unfold hexD; split <;> omega
theorem hexS_at : ∀ i : Fin 16, (((⟨#[48, 49, 50, 51, 52, 53, 54, 55, 56, 57, 97, 98, 99, 100, 101, 102]⟩ : ByteArray)[i.1]'(by have := i.2; show i.1 < 16; omega)).toNat : Int) = hexD i.1 := by decide
theorem hexS_get (d : Int) (h0 : 0 ≤ d) (h1 : d < 16) (h : d.toNat < (⟨#[48, 49, 50, 51, 52, 53, 54, 55, 56, 57, 97, 98, 99, 100, 101, 102]⟩ : ByteArray).size) :
    (((⟨#[48, 49, 50, 51, 52, 53, 54, 55, 56, 57, 97, 98, 99, 100, 101, 102]⟩ : ByteArray)[d.toNat]'h).toNat : Int) = hexD d := by
  have := hexS_at ⟨d.toNat, by omega⟩
  rw [this]
  congr 1
  show ((d.toNat : Nat) : Int) = d
  omega
def hexL (l : List UInt8) : List Int := l.flatMap fun c => [hexD ((c.toNat : Int) / 16), hexD ((c.toNat : Int) % 16)]
def hexTo (s : ByteArray) (k : Nat) : List Int := hexL (s.data.toList.take k)
theorem hexTo_zero (s : ByteArray) : hexTo s 0 = [] := by simp [hexTo, hexL]
theorem hexTo_succ (s : ByteArray) (k : Nat) (h : k < s.size) : hexTo s (k + 1) = hexTo s k ++ [hexD ((s[k].toNat : Int) / 16), hexD ((s[k].toNat : Int) % 16)] := by
  unfold hexTo hexL
  rw [List.take_succ_eq_append_getElem (by simpa using h), List.flatMap_append]
  rfl
theorem hexTo_len (s : ByteArray) (k : Nat) (h : k ≤ s.size) : (hexTo s k).length = 2 * k := by
  induction k with
  | zero => simp [hexTo_zero]
  | succ k ih => rw [hexTo_succ s k (by omega), List.length_append, ih (by omega)]; simp; omega
theorem hexTo_end (s : ByteArray) (k : Nat) (h : s.size ≤ k) : hexTo s k = hexL s.data.toList := by
  unfold hexTo; rw [List.take_of_length_le (by simpa using h)]
end Go.Proofs.Yteeodjbionjlmaa
namespace Go.Proofs.Yteeodjbionjlmaa
set_option linter.unusedVariables false
def nib (c : Int) : Int := if 48 ≤ c ∧ c ≤ 57 then c - 48 else if 97 ≤ c ∧ c ≤ 102 then c - 87 else -1
theorem nib_bd (c : Int) : -1 ≤ nib c ∧ nib c ≤ 15 := by unfold nib; split <;> (try split) <;> omega
theorem nib_lo (c : Int) (h : c < 48) : nib c = -1 := by unfold nib; rw [if_neg (by omega), if_neg (by omega)]
theorem nib_dig (c : Int) (h : 48 ≤ c) (h2 : c ≤ 57) : nib c = c - 48 := by unfold nib; rw [if_pos ⟨h, h2⟩]
theorem nib_mid (c : Int) (h : 57 < c) (h2 : c < 97) : nib c = -1 := by unfold nib; rw [if_neg (by omega), if_neg (by omega)]
theorem nib_let (c : Int) (h : 97 ≤ c) (h2 : c ≤ 102) : nib c = c - 97 + 10 := by unfold nib; rw [if_neg (by omega), if_pos ⟨h, h2⟩]; omega
theorem nib_hi (c : Int) (h : 102 < c) : nib c = -1 := by unfold nib; rw [if_neg (by omega), if_neg (by omega)]
theorem hexD_nib (d : Int) (h0 : 0 ≤ d) (h1 : d < 16) : nib (hexD d) = d := by
  unfold nib hexD; split <;> (split <;> (try split) <;> omega)
theorem nib_hexD (c : Int) (h : 0 ≤ nib c) : hexD (nib c) = c := by
  revert h; unfold nib hexD; split
  · intro _; rw [if_pos (by omega)]; omega
  · split
    · intro _; rw [if_neg (by omega)]; omega
    · intro h; omega
def byteAt (s : ByteArray) (j : Nat) : Int := ((s.data.toList.getD j 0).toNat : Int)
theorem byteAt_eq (s : ByteArray) (j : Nat) (h : j < s.size) : byteAt s j = (s[j].toNat : Int) := by
  unfold byteAt
  rw [List.getD_eq_getElem?_getD, List.getElem?_eq_getElem (by simpa using h)]
  rfl
def HexTo (s : ByteArray) (k : Nat) : Prop := ∀ j, j < k → 0 ≤ nib (byteAt s j)
def unhL (s : ByteArray) (k : Nat) : List Int := (List.range k).map fun j => 16 * nib (byteAt s (2 * j)) + nib (byteAt s (2 * j + 1))
theorem HexTo.zero (s : ByteArray) : HexTo s 0 := fun _ h => absurd h (Nat.not_lt_zero _)
theorem HexTo.two {s : ByteArray} {k : Nat} (h : HexTo s (2 * k)) (h0 : 2 * k + 1 < s.size) (h1 : 0 ≤ nib (s[2 * k].toNat : Int)) (h2 : 0 ≤ nib (s[2 * k + 1].toNat : Int)) : HexTo s (2 * (k + 1)) := by
  intro j hj
  by_cases e : j < 2 * k
  · exact h j e
  · by_cases e2 : j = 2 * k
    · subst e2; rw [byteAt_eq s _ (by omega)]; exact h1
    · have e3 : j = 2 * k + 1 := by omega
      subst e3; rw [byteAt_eq s _ (by omega)]; exact h2
theorem unhL_zero (s : ByteArray) : unhL s 0 = [] := rfl
theorem unhL_len (s : ByteArray) (k : Nat) : (unhL s k).length = k := by simp [unhL]
theorem unhL_succ (s : ByteArray) (k : Nat) (h : 2 * k + 1 < s.size) : unhL s (k + 1) = unhL s k ++ [16 * nib (s[2 * k].toNat : Int) + nib (s[2 * k + 1].toNat : Int)] := by
  simp only [unhL, List.range_succ, List.map_append, List.map_cons, List.map_nil]
  rw [byteAt_eq s (2 * k) (by omega), byteAt_eq s (2 * k + 1) h]
theorem HexTo.not0 {s : ByteArray} {k : Nat} (h : 2 * k + 1 < s.size) (h1 : nib (s[2 * k].toNat : Int) < 0) : ¬ HexTo s s.size := by
  intro H; have := H (2 * k) (by omega); rw [byteAt_eq s _ (by omega)] at this; omega
theorem HexTo.not1 {s : ByteArray} {k : Nat} (h : 2 * k + 1 < s.size) (h1 : nib (s[2 * k + 1].toNat : Int) < 0) : ¬ HexTo s s.size := by
  intro H; have := H (2 * k + 1) h; rw [byteAt_eq s _ h] at this; omega
/-- the value of a hexadecimal digit as the program reckons it, for any byte -/
def hv (c : Int) : Int := if 97 ≤ c then c - 97 + 10 else (c - 48) % 256
theorem hv_bd (c : Int) (h0 : 0 ≤ c) (h1 : c < 256) : 0 ≤ hv c ∧ hv c < 256 := by unfold hv; split <;> omega
theorem hv_nib (c : Int) (h0 : 0 ≤ c) (h1 : c < 256) (h : 0 ≤ nib c) : hv c = nib c := by
  unfold hv
  by_cases a : 97 ≤ c
  · rw [if_pos a]
    by_cases b : c ≤ 102
    · rw [nib_let c a b]
    · rw [nib_hi c (by omega)] at h; omega
  · rw [if_neg a]
    by_cases b : c < 48
    · rw [nib_lo c b] at h; omega
    · by_cases d : c ≤ 57
      · rw [nib_dig c (by omega) d]; omega
      · rw [nib_mid c (by omega) (by omega)] at h; omega
end Go.Proofs.Yteeodjbionjlmaa
namespace Go.Proofs.Yteeodjbionjlmaa
set_option linter.unusedVariables false
def lowC (b : Int) : Int := if (97 ≤ b ∧ b ≤ 122) ∨ (48 ≤ b ∧ b ≤ 57) then b else if 65 ≤ b ∧ b ≤ 90 then b + 32 else 0
theorem lowC_small (b : Int) (h : 97 ≤ b) (h2 : b ≤ 122) : lowC b = b := by unfold lowC; rw [if_pos (.inl ⟨h, h2⟩)]
theorem lowC_dig (b : Int) (h : 48 ≤ b) (h2 : b ≤ 57) : lowC b = b := by unfold lowC; rw [if_pos (.inr ⟨h, h2⟩)]
theorem lowC_cap (b : Int) (h : 65 ≤ b) (h2 : b ≤ 90) : lowC b = b - 65 + 97 := by unfold lowC; rw [if_neg (by omega), if_pos ⟨h, h2⟩]; omega
theorem lowC_oth (b : Int) (h : ¬ (97 ≤ b ∧ b ≤ 122)) (h2 : ¬ (48 ≤ b ∧ b ≤ 57)) (h3 : ¬ (65 ≤ b ∧ b ≤ 90)) : lowC b = 0 := by unfold lowC; rw [if_neg (by omega), if_neg h3]
theorem lowC_bd (b : Int) (h0 : 0 ≤ b) (h1 : b < 256) : 0 ≤ lowC b ∧ lowC b < 128 := by unfold lowC; split <;> (try split) <;> omega
abbrev WSt := List (List Int) × List Int
def wstep (st : WSt) (b : Int) : WSt := if lowC b ≠ 0 then (st.1, st.2 ++ [lowC b]) else if st.2 = [] then st else (st.1 ++ [st.2], [])
def wTo (s : ByteArray) : Nat → WSt
  | 0 => ([], [])
  | k + 1 => wstep (wTo s k) (byteAt s k)
theorem wstep_put (st : WSt) (b c : Int) (h : lowC b = c) (hc : c ≠ 0) : wstep st b = (st.1, st.2 ++ [c]) := by subst h; simp [wstep, hc]
theorem wstep_none (st : WSt) (b : Int) (h : lowC b = 0) (hc : st.2 = []) : wstep st b = st := by simp [wstep, h, hc]
theorem wstep_end (st : WSt) (b : Int) (h : lowC b = 0) (hc : st.2 ≠ []) : wstep st b = (st.1 ++ [st.2], []) := by simp [wstep, h, hc]
theorem byteAt_out (s : ByteArray) : byteAt s s.size = 0 := by
  unfold byteAt
  rw [List.getD_eq_getElem?_getD, List.getElem?_eq_none (by simp)]
  rfl
theorem wTo_bd (s : ByteArray) (k : Nat) : (wTo s k).1.length ≤ k ∧ (wTo s k).2.length ≤ k := by
  induction k with
  | zero => simp [wTo]
  | succ k ih =>
    simp only [wTo, wstep]
    split
    · simp; omega
    · split
      · omega
      · simp; omega
def ByteL (l : List Int) : Prop := ∀ x ∈ l, 0 ≤ x ∧ x < 128
theorem byteAt_bd (s : ByteArray) (k : Nat) : 0 ≤ byteAt s k ∧ byteAt s k < 256 := by
  unfold byteAt
  have := (s.data.toList.getD k 0).toNat_lt
  omega
theorem wTo_byte (s : ByteArray) (k : Nat) : ByteL (wTo s k).2 := by
  induction k with
  | zero => intro x hx; simp [wTo] at hx
  | succ k ih =>
    simp only [wTo, wstep]
    split
    · intro x hx
      rcases List.mem_append.1 hx with h | h
      · exact ih x h
      · simp at h; subst h; have := byteAt_bd s k; exact lowC_bd _ this.1 this.2
    · split
      · exact ih
      · intro x hx; simp at hx
end Go.Proofs.Yteeodjbionjlmaa
namespace Go.Proofs.Yteeodjbionjlmaa
set_option linter.unusedVariables false
/-- the runs of a text with their places, byte by byte -/
abbrev RSt := List (Nat × List Int) × List Int
def rstep (k : Nat) (st : RSt) (b : Int) : RSt := if lowC b ≠ 0 then (st.1, st.2 ++ [lowC b]) else if st.2 = [] then st else (st.1 ++ [(k - st.2.length, st.2)], [])
def rTo (s : ByteArray) : Nat → RSt
  | 0 => ([], [])
  | k + 1 => rstep k (rTo s k) (byteAt s k)
theorem rstep_put (k : Nat) (st : RSt) (b c : Int) (h : lowC b = c) (hc : c ≠ 0) : rstep k st b = (st.1, st.2 ++ [c]) := by subst h; simp [rstep, hc]
theorem rstep_none (k : Nat) (st : RSt) (b : Int) (h : lowC b = 0) (hc : st.2 = []) : rstep k st b = st := by simp [rstep, h, hc]
theorem rstep_end (k : Nat) (st : RSt) (b : Int) (h : lowC b = 0) (hc : st.2 ≠ []) : rstep k st b = (st.1 ++ [(k - st.2.length, st.2)], []) := by simp [rstep, h, hc]
theorem rTo_wTo (s : ByteArray) (k : Nat) : (rTo s k).1.map (·.2) = (wTo s k).1 ∧ (rTo s k).2 = (wTo s k).2 := by
  induction k with
  | zero => simp [rTo, wTo]
  | succ k ih =>
    obtain ⟨h1, h2⟩ := ih
    simp only [rTo, wTo, rstep, wstep, h2]
    split
    · exact ⟨h1, rfl⟩
    · split
      · exact ⟨h1, h2⟩
      · simp [h1]
theorem rTo_bd (s : ByteArray) (k : Nat) : (rTo s k).1.length ≤ k ∧ (rTo s k).2.length ≤ k := by
  have h := rTo_wTo s k
  have b := wTo_bd s k
  rw [← h.1, ← h.2, List.length_map] at b
  exact b
theorem rTo_byte (s : ByteArray) (k : Nat) : ByteL (rTo s k).2 := by rw [(rTo_wTo s k).2]; exact wTo_byte s k
def runsL (s : ByteArray) : List (Nat × List Int) := (rTo s (s.size + 1)).1
/-- the end of a run -/
def endOf (s : ByteArray) (k : Nat) : Nat := if k < s.size ∧ lowC (byteAt s k) ≠ 0 then endOf s (k + 1) else k
  termination_by s.size - k
theorem endOf_go (s : ByteArray) (k : Nat) (h : k < s.size) (h2 : lowC (byteAt s k) ≠ 0) : endOf s k = endOf s (k + 1) := by rw [endOf, if_pos ⟨h, h2⟩]
theorem endOf_stay (s : ByteArray) (k : Nat) (h : ¬ (k < s.size ∧ lowC (byteAt s k) ≠ 0)) : endOf s k = k := by rw [endOf, if_neg h]
theorem endOf_ge (s : ByteArray) (k : Nat) : k ≤ endOf s k := by
  induction k using endOf.induct s with
  | case1 k h ih => rw [endOf_go s k h.1 h.2]; omega
  | case2 k h => rw [endOf_stay s k h]; omega
theorem endOf_le (s : ByteArray) (k : Nat) (hk : k ≤ s.size) : endOf s k ≤ s.size := by
  induction k using endOf.induct s with
  | case1 k h ih => rw [endOf_go s k h.1 h.2]; exact ih (by omega)
  | case2 k h => rw [endOf_stay s k h]; exact hk
theorem byteAt_far (s : ByteArray) (k : Nat) (h : s.size ≤ k) : byteAt s k = 0 := by
  unfold byteAt
  rw [List.getD_eq_getElem?_getD, List.getElem?_eq_none (by simpa using h)]
  rfl
theorem endOf_stop (s : ByteArray) (k : Nat) : lowC (byteAt s (endOf s k)) = 0 := by
  induction k using endOf.induct s with
  | case1 k h ih => rw [endOf_go s k h.1 h.2]; exact ih
  | case2 k h =>
    rw [endOf_stay s k h]
    by_cases h1 : k < s.size
    · exact Decidable.not_not.1 (fun h2 => h ⟨h1, h2⟩)
    · rw [byteAt_far s k (by omega)]; rfl
/-- the small letters from a place to another -/
def lows (s : ByteArray) (a e : Nat) : List Int := (List.range' a (e - a)).map (fun j => lowC (byteAt s j))
theorem lows_len (s : ByteArray) (a e : Nat) : (lows s a e).length = e - a := by simp [lows]
theorem lows_byte (s : ByteArray) (a e : Nat) : ByteL (lows s a e) := by
  intro x hx
  obtain ⟨j, -, rfl⟩ := List.mem_map.1 hx
  have := byteAt_bd s j
  exact lowC_bd _ this.1 this.2
theorem rTo_in (s : ByteArray) (a k : Nat) (hk : a ≤ k) : ∀ cur, rTo s k = ((rTo s a).1, cur) → rTo s (endOf s k) = ((rTo s a).1, cur ++ lows s k (endOf s k)) := by
  clear hk
  induction k using endOf.induct s with
  | case1 k h ih =>
    intro cur hc
    have e := endOf_go s k h.1 h.2
    have g := endOf_ge s (k + 1)
    have h1 : rTo s (k + 1) = ((rTo s a).1, cur ++ [lowC (byteAt s k)]) := by
      show rstep k (rTo s k) (byteAt s k) = _
      rw [hc]; exact rstep_put k _ _ _ rfl h.2
    rw [e, ih _ h1]
    have hl : lows s k (endOf s (k + 1)) = lowC (byteAt s k) :: lows s (k + 1) (endOf s (k + 1)) := by
      unfold lows
      obtain ⟨d, hd⟩ : ∃ d, endOf s (k + 1) - k = d + 1 := ⟨endOf s (k + 1) - k - 1, by omega⟩
      rw [hd, show endOf s (k + 1) - (k + 1) = d by omega]
      rfl
    rw [hl, List.append_assoc]
    rfl
  | case2 k h =>
    intro cur hc
    rw [endOf_stay s k h, hc]
    simp [lows]
/-- ONE RUN: from a place outside of one -/
theorem rTo_run (s : ByteArray) (a : Nat) (h : (rTo s a).2 = []) (he : a < endOf s a) : rTo s (endOf s a + 1) = ((rTo s a).1 ++ [(a, lows s a (endOf s a))], []) := by
  have h1 := rTo_in s a a (Nat.le_refl _) [] (by rw [← h])
  show rstep (endOf s a) (rTo s (endOf s a)) (byteAt s (endOf s a)) = _
  rw [h1, List.nil_append]
  have hn := lows_len s a (endOf s a)
  rw [rstep_end _ _ _ (endOf_stop s a) (by intro e; simp only at e; rw [e] at hn; simp at hn; omega)]
  simp only [hn]
  rw [show endOf s a - (endOf s a - a) = a by omega]
theorem rTo_skip (s : ByteArray) (a : Nat) (h : (rTo s a).2 = []) (he : endOf s a = a) : rTo s (a + 1) = rTo s a := by
  show rstep a (rTo s a) (byteAt s a) = _
  exact rstep_none _ _ _ (by have := endOf_stop s a; rwa [he] at this) h
theorem rTo_last (s : ByteArray) (a : Nat) (h : (rTo s a).2 = []) (h1 : s.size ≤ a) (h2 : a ≤ s.size + 1) : (rTo s a).1 = runsL s := by
  unfold runsL
  rcases (show a = s.size + 1 ∨ a = s.size by omega) with rfl | rfl
  · rfl
  · have := rTo_skip s s.size h (endOf_stay s _ (by omega)); rw [this]
/-- what a change of runs makes of a text: what is done, and up to where -/
def chg (s : ByteArray) (f : ByteArray → ByteArray) (l : List (Nat × List Int)) : ByteArray × Nat :=
  l.foldl (fun p x => (p.1 ++ s.extract p.2 x.1 ++ f (s.extract x.1 (x.1 + x.2.length)), x.1 + x.2.length)) (ByteArray.empty, 0)
theorem chg_snoc (s : ByteArray) (f : ByteArray → ByteArray) (l : List (Nat × List Int)) (x : Nat × List Int) :
    chg s f (l ++ [x]) = ((chg s f l).1 ++ s.extract (chg s f l).2 x.1 ++ f (s.extract x.1 (x.1 + x.2.length)), x.1 + x.2.length) := by
  unfold chg; rw [List.foldl_append]; rfl
/-- the runs of a text come one behind another -/
theorem rTo_chain (s : ByteArray) (k : Nat) : ∀ x ∈ (rTo s k).1, x.1 + x.2.length + (rTo s k).2.length + 1 ≤ k ∧ 1 ≤ x.2.length := by
  induction k with
  | zero => intro x hx; simp [rTo] at hx
  | succ k ih =>
    intro x hx
    have hb := (rTo_bd s k).2
    simp only [rTo, rstep] at hx ⊢
    split at hx
    · rename_i h; rw [if_pos h]; have := ih x hx; simp; omega
    · rename_i h
      rw [if_neg h]
      split at hx
      · rename_i h2; rw [if_pos h2]; have := ih x hx; omega
      · rename_i h2
        rw [if_neg h2]
        have hp : 1 ≤ (rTo s k).2.length := by cases hc : (rTo s k).2 with | nil => exact absurd hc h2 | cons a l => simp
        rcases List.mem_append.1 hx with hx | hx
        · have := ih x hx; simp; omega
        · simp at hx; subst hx; simp; omega
end Go.Proofs.Yteeodjbionjlmaa
namespace Go.Proofs.Yteeodjbionjlmaa
set_option linter.unusedVariables false
theorem lows_zero (s : ByteArray) (a : Nat) : lows s a a = [] := by simp [lows]
theorem lows_succ (s : ByteArray) (a k : Nat) (h : a ≤ k) : lows s a (k + 1) = lows s a k ++ [lowC (byteAt s k)] := by
  unfold lows
  rw [show k + 1 - a = (k - a) + 1 by omega, ← List.range'_append_1 (s := a) (m := k - a) (n := 1), List.map_append]
  simp [List.range', show a + (k - a) = k by omega]
theorem byteAt_extract (s : ByteArray) (a e j : Nat) (h : a + j < e) (he : e ≤ s.size) : byteAt (s.extract a e) j = byteAt s (a + j) := by
  have h1 : j < (s.extract a e).size := by rw [ByteArray.size_extract]; omega
  rw [byteAt_eq _ _ h1, byteAt_eq _ _ (show a + j < s.size by omega), ByteArray.getElem_extract]
theorem size_extract_in (s : ByteArray) (a e : Nat) (he : e ≤ s.size) : (s.extract a e).size = e - a := by rw [ByteArray.size_extract]; omega
theorem lows_extract (s : ByteArray) (a e : Nat) (ha : a ≤ e) (he : e ≤ s.size) : lows (s.extract a e) 0 (s.extract a e).size = lows s a e := by
  rw [size_extract_in s a e he]
  unfold lows
  rw [Nat.sub_zero]
  apply List.ext_getElem (by simp)
  intro j h1 h2
  simp at h1 h2 ⊢
  rw [byteAt_extract s a e j (by omega) he]
theorem endOf_lt {s : ByteArray} {k : Nat} (h : endOf s k ≠ k) : k < endOf s k := by have := endOf_ge s k; omega
/-- a list of texts has a text -/
def hasS (xs : List ByteArray) (z : ByteArray) : Bool := xs.any (fun y => decide (y.data = z.data))
theorem hasS_iff (xs : List ByteArray) (z : ByteArray) : hasS xs z = true ↔ z ∈ xs := by
  unfold hasS
  rw [List.any_eq_true]
  constructor
  · rintro ⟨y, hy, h⟩
    have h2 : y.data = z.data := of_decide_eq_true h
    obtain rfl : y = z := by cases y; cases z; simp_all
    exact hy
  · intro h; exact ⟨z, h, decide_eq_true rfl⟩
theorem hasS_yes {xs : List ByteArray} {z : ByteArray} (h : z ∈ xs) : hasS xs z = true := (hasS_iff xs z).2 h
theorem hasS_no {xs : List ByteArray} {z : ByteArray} (h : z ∉ xs) : hasS xs z = false := by
  cases e : hasS xs z
  · rfl
  · exact absurd ((hasS_iff xs z).1 e) h
end Go.Proofs.Yteeodjbionjlmaa
