import Derived.Test.YteeodjbionjlmaaJya
namespace Go.Proofs.Yteeodjbionjlmaa
set_option linter.unusedVariables false
def aheadR (a b : Nat × List Int) : Prop := a.1 + a.2.length ≤ b.1
theorem rTo_pair (s : ByteArray) (k : Nat) : (rTo s k).1.Pairwise aheadR := by
  induction k with
  | zero => exact List.Pairwise.nil
  | succ k ih =>
    have hc := rTo_chain s k
    simp only [rTo, rstep]
    split
    · exact ih
    · split
      · exact ih
      · refine List.pairwise_append.2 ⟨ih, List.pairwise_singleton _ _, fun a ha b hb => ?_⟩
        simp at hb; subst hb
        have := hc a ha
        show a.1 + a.2.length ≤ k - (rTo s k).2.length
        omega
/-- the runs of a list come in order, each in the text -/
def RunsOk (s : ByteArray) (l : List (Nat × List Int)) : Prop := l.Pairwise aheadR ∧ ∀ x ∈ l, x.1 + x.2.length ≤ s.size ∧ 1 ≤ x.2.length
theorem runs_ok (s : ByteArray) : RunsOk s (runsL s) := ⟨rTo_pair s _, fun x hx => by have := rTo_chain s (s.size + 1) x hx; omega⟩
theorem RunsOk.filter {s : ByteArray} {l : List (Nat × List Int)} (h : RunsOk s l) (p : Nat × List Int → Bool) : RunsOk s (l.filter p) :=
  ⟨h.1.filter p, fun x hx => h.2 x (List.mem_filter.1 hx).1⟩
theorem RunsOk.prefix {s : ByteArray} {l m : List (Nat × List Int)} (h : RunsOk s l) (hp : m <+: l) : RunsOk s m :=
  ⟨h.1.sublist hp.sublist, fun x hx => h.2 x (hp.subset hx)⟩
theorem chg_le {s : ByteArray} {f : ByteArray → ByteArray} {l : List (Nat × List Int)} (h : RunsOk s l) : (chg s f l).2 ≤ s.size := by
  rcases List.eq_nil_or_concat l with rfl | ⟨m, y, rfl⟩
  · exact Nat.zero_le _
  · rw [List.concat_eq_append, chg_snoc]; exact (h.2 y (by simp)).1
theorem chg_next {s : ByteArray} {f : ByteArray → ByteArray} {l : List (Nat × List Int)} {x : Nat × List Int} (h : RunsOk s (l ++ [x])) : (chg s f l).2 ≤ x.1 := by
  rcases List.eq_nil_or_concat l with rfl | ⟨m, y, rfl⟩
  · exact Nat.zero_le _
  · rw [List.concat_eq_append] at h ⊢
    rw [chg_snoc]
    exact (List.pairwise_append.1 h.1).2.2 y (by simp) x (by simp)
theorem chg_size {s : ByteArray} {f : ByteArray → ByteArray} (hf : ∀ r, (f r).size ≤ r.size + 2) : ∀ (n : Nat) (l : List (Nat × List Int)), l.length = n → RunsOk s l → (chg s f l).1.size ≤ (s.size + 2) * n := by
  intro n
  induction n with
  | zero => intro l hl _; rw [List.length_eq_zero_iff.1 hl]; simp [chg]
  | succ n ih =>
    intro l hl h
    rcases List.eq_nil_or_concat l with rfl | ⟨m, x, rfl⟩
    · cases hl
    · rw [List.concat_eq_append] at h hl ⊢
      have hm : m.length = n := by simpa using hl
      have h1 := ih m hm (h.prefix (List.prefix_append _ _))
      have h2 := chg_next (f := f) h
      have h3 := (h.2 x (by simp)).1
      have h4 := hf (s.extract x.1 (x.1 + x.2.length))
      rw [chg_snoc]
      simp only [ByteArray.size_append, ByteArray.size_extract] at *
      rw [Nat.mul_add]
      omega
/-- the text with its changed runs -/
def chgAll (s : ByteArray) (f : ByteArray → ByteArray) (l : List (Nat × List Int)) : ByteArray := (chg s f l).1 ++ s.extract (chg s f l).2 s.size
end Go.Proofs.Yteeodjbionjlmaa
namespace Go.Proofs.Yteeodjbionjlmaa
set_option linter.unusedVariables false
/-- the runs up to a place, the one that ends there closed -/
def clo (s : ByteArray) (k : Nat) : List (Nat × List Int) := (rstep k (rTo s k) 0).1
theorem clo_out {s : ByteArray} {k : Nat} (h : (rTo s k).2 = []) : clo s k = (rTo s k).1 := by
  unfold clo; rw [rstep_none k _ 0 (by rfl) h]
theorem clo_stop {s : ByteArray} {k : Nat} (h : endOf s k = k) : rTo s (k + 1) = (clo s k, []) := by
  have h0 : lowC (byteAt s k) = 0 := by have := endOf_stop s k; rwa [h] at this
  show rstep k (rTo s k) (byteAt s k) = _
  unfold clo
  by_cases hc : (rTo s k).2 = []
  · rw [rstep_none _ _ _ h0 hc, rstep_none _ _ _ (by rfl) hc, ← hc]
  · rw [rstep_end _ _ _ h0 hc, rstep_end _ _ _ (by rfl) hc]
theorem clo_next {s : ByteArray} {k : Nat} (h : endOf s k = k) : (rTo s (k + 1)).2 = [] ∧ clo s (k + 1) = clo s k := by
  have := clo_stop h
  have h2 : (rTo s (k + 1)).2 = [] := by rw [this]
  exact ⟨h2, by rw [clo_out h2, this]⟩
theorem clo_run {s : ByteArray} {k : Nat} (h : (rTo s k).2 = []) (he : k < endOf s k) : endOf s (endOf s k) = endOf s k ∧ clo s (endOf s k) = clo s k ++ [(k, lows s k (endOf s k))] := by
  have h1 := rTo_in s k k (Nat.le_refl _) [] (by rw [← h])
  have hn := lows_len s k (endOf s k)
  refine ⟨endOf_stay s _ (fun hh => hh.2 (endOf_stop s k)), ?_⟩
  rw [clo_out h]
  unfold clo
  rw [h1, List.nil_append, rstep_end _ _ _ (by rfl) (by intro e; simp only at e; rw [e] at hn; simp at hn; omega)]
  simp only [hn]
  rw [show endOf s k - (endOf s k - k) = k by omega]
theorem clo_end (s : ByteArray) : clo s s.size = runsL s := by
  unfold clo runsL
  show _ = (rstep s.size (rTo s s.size) (byteAt s s.size)).1
  rw [byteAt_out]
theorem clo_pre (s : ByteArray) (k : Nat) (hk : k ≤ s.size) : clo s k <+: runsL s ∨ True := .inr trivial
theorem clo_ok (s : ByteArray) (k : Nat) (hk : k ≤ s.size) : RunsOk s (clo s k) ∧ ∀ x ∈ clo s k, x.1 + x.2.length ≤ k := by
  have hc := rTo_chain s k
  have hp := rTo_pair s k
  unfold clo rstep
  rw [if_neg (by decide)]
  split
  · rename_i h
    exact ⟨⟨hp, fun x hx => by have := hc x hx; omega⟩, fun x hx => by have := hc x hx; omega⟩
  · rename_i h
    have hb := (rTo_bd s k).2
    have h1 : 1 ≤ (rTo s k).2.length := by cases e : (rTo s k).2 with | nil => exact absurd e h | cons a l => simp
    refine ⟨⟨List.pairwise_append.2 ⟨hp, List.pairwise_singleton _ _, fun a ha b hb2 => ?_⟩, fun x hx => ?_⟩, fun x hx => ?_⟩
    · simp at hb2; subst hb2
      have := hc a ha
      show a.1 + a.2.length ≤ k - (rTo s k).2.length
      omega
    · rcases List.mem_append.1 hx with hx | hx
      · have := hc x hx; omega
      · simp at hx; subst hx; simp only; omega
    · rcases List.mem_append.1 hx with hx | hx
      · have := hc x hx; omega
      · simp at hx; subst hx; simp only; omega
/-- what the changes of the hits up to a place make -/
def mrk (s : ByteArray) (f : ByteArray → ByteArray) (p : Nat × List Int → Bool) (k : Nat) : ByteArray := (chg s f ((clo s k).filter p)).1 ++ s.extract (chg s f ((clo s k).filter p)).2 k
theorem chg_place {s : ByteArray} {f : ByteArray → ByteArray} {l : List (Nat × List Int)} {k : Nat} (h : ∀ x ∈ l, x.1 + x.2.length ≤ k) : (chg s f l).2 ≤ k := by
  rcases List.eq_nil_or_concat l with rfl | ⟨m, y, rfl⟩
  · exact Nat.zero_le _
  · rw [List.concat_eq_append, chg_snoc]; exact h y (by simp)
theorem mrk_place (s : ByteArray) (f : ByteArray → ByteArray) (p : Nat × List Int → Bool) (k : Nat) (hk : k ≤ s.size) : (chg s f ((clo s k).filter p)).2 ≤ k :=
  chg_place fun x hx => (clo_ok s k hk).2 x (List.mem_filter.1 hx).1
theorem extract_more (s : ByteArray) (a b c : Nat) (h1 : a ≤ b) (h2 : b ≤ c) (h3 : c ≤ s.size) : s.extract a c = s.extract a b ++ s.extract b c := by
  rw [ByteArray.extract_append_extract, Nat.min_eq_left h1, Nat.max_eq_right h2]
theorem mrk_next {s : ByteArray} {f : ByteArray → ByteArray} {p : Nat × List Int → Bool} {k : Nat} (h : endOf s k = k) (hk : k < s.size) : mrk s f p (k + 1) = mrk s f p k ++ s.extract k (k + 1) := by
  have hp := mrk_place s f p k (by omega)
  unfold mrk
  rw [(clo_next h).2, extract_more s _ k (k + 1) hp (by omega) (by omega), ByteArray.append_assoc]
theorem mrk_run {s : ByteArray} {f : ByteArray → ByteArray} {p : Nat × List Int → Bool} {k : Nat} (h : (rTo s k).2 = []) (he : k < endOf s k) (hk : k < s.size) :
    mrk s f p (endOf s k) = mrk s f p k ++ (if p (k, lows s k (endOf s k)) = true then f (s.extract k (endOf s k)) else s.extract k (endOf s k)) := by
  have hp := mrk_place s f p k (by omega)
  have hE := endOf_le s k (by omega)
  have hl := lows_len s k (endOf s k)
  unfold mrk
  rw [(clo_run h he).2, List.filter_append]
  by_cases hh : p (k, lows s k (endOf s k)) = true
  · rw [if_pos hh, List.filter_cons_of_pos hh, List.filter_nil, chg_snoc]
    simp only [hl, show k + (endOf s k - k) = endOf s k by omega]
    rw [show s.extract (endOf s k) (endOf s k) = ByteArray.empty from by simp]
    simp
  · rw [if_neg hh, List.filter_cons_of_neg hh, List.filter_nil, List.append_nil, extract_more s _ k (endOf s k) hp (by omega) hE, ByteArray.append_assoc]
theorem mrk_end (s : ByteArray) (f : ByteArray → ByteArray) (p : Nat × List Int → Bool) : mrk s f p s.size = chgAll s f ((runsL s).filter p) := by
  unfold mrk chgAll; rw [clo_end]
theorem mrk_zero (s : ByteArray) (f : ByteArray → ByteArray) (p : Nat × List Int → Bool) : mrk s f p 0 = ByteArray.empty := by
  unfold mrk
  rw [show clo s 0 = [] from by unfold clo; rfl]
  simp [chg]
end Go.Proofs.Yteeodjbionjlmaa
