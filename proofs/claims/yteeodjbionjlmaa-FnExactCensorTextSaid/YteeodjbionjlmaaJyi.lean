import Derived.Test.YteeodjbionjlmaaJyh
namespace Go.Proofs.Yteeodjbionjlmaa
set_option linter.unusedVariables false
/-- so many stars -/
def stars (n : Nat) : ByteArray := ⟨(List.replicate n (42 : UInt8)).toArray⟩
theorem stars_size (n : Nat) : (stars n).size = n := by show (List.replicate n (42 : UInt8)).toArray.size = n; simp
def cenF (r : ByteArray) : ByteArray := r.extract 0 1 ++ stars (r.size - 1)
theorem cenF_size (r : ByteArray) : (cenF r).size ≤ r.size + 2 := by
  unfold cenF; rw [ByteArray.size_append, stars_size, ByteArray.size_extract]; omega
theorem cenF_same (r : ByteArray) (h : 1 ≤ r.size) : (cenF r).size = r.size := by
  unfold cenF; rw [ByteArray.size_append, stars_size, ByteArray.size_extract]; omega
/-- the bytes of a text as numbers -/
def nums (b : ByteArray) : List Int := b.data.toList.map (fun c => (c.toNat : Int))
theorem nums_len (b : ByteArray) : (nums b).length = b.size := by unfold nums; simp
theorem nums_append (a b : ByteArray) : nums (a ++ b) = nums a ++ nums b := by unfold nums; simp
theorem nums_stars (n : Nat) : nums (stars n) = List.replicate n 42 := by unfold nums stars; simp
/-- a byte that is starred -/
theorem nums_star (A s : ByteArray) (i : Nat) (hA : A.size = i) (hi : i < s.size) : (nums (A ++ s.extract i s.size)).set i 42 = nums (A ++ stars 1 ++ s.extract (i + 1) s.size) := by
  have hx := extract_more s i (i + 1) s.size (by omega) (by omega) (Nat.le_refl _)
  have h1 : (nums (s.extract i (i + 1))).length = 1 := by rw [nums_len, ByteArray.size_extract]; omega
  rw [hx, nums_append, nums_append, nums_append, nums_append, List.set_append_right _ _ (by rw [nums_len]; omega), nums_len, hA, Nat.sub_self, List.append_assoc, nums_stars]
  obtain ⟨c, hc⟩ : ∃ c, nums (s.extract i (i + 1)) = [c] := List.length_eq_one_iff.1 h1
  rw [hc]
  rfl
theorem bytes_ext {a b : ByteArray} (h : a.data = b.data) : a = b := by cases a; cases b; simp_all
theorem stars_succ (n : Nat) : stars (n + 1) = stars n ++ stars 1 := by
  apply bytes_ext
  apply Array.ext'
  rw [ByteArray.data_append, Array.toList_append]
  exact List.replicate_succ'
end Go.Proofs.Yteeodjbionjlmaa
namespace Go.Proofs.Yteeodjbionjlmaa
set_option linter.unusedVariables false
theorem chg_same {s : ByteArray} : ∀ (n : Nat) (l : List (Nat × List Int)), l.length = n → RunsOk s l → (chg s cenF l).1.size = (chg s cenF l).2 := by
  intro n
  induction n with
  | zero => intro l hl _; rw [List.length_eq_zero_iff.1 hl]; rfl
  | succ n ih =>
    intro l hl h
    rcases List.eq_nil_or_concat l with rfl | ⟨m, x, rfl⟩
    · cases hl
    · rw [List.concat_eq_append] at h hl ⊢
      have h1 := ih m (by simpa using hl) (h.prefix (List.prefix_append _ _))
      have h2 := chg_next (f := cenF) h
      have h3 := h.2 x (by simp)
      have h4 := cenF_same (s.extract x.1 (x.1 + x.2.length)) (by rw [ByteArray.size_extract]; omega)
      rw [chg_snoc]
      simp only [ByteArray.size_append, h4]
      simp only [ByteArray.size_extract]
      omega
theorem mrk_same (s : ByteArray) (p : Nat × List Int → Bool) (k : Nat) (hk : k ≤ s.size) : (mrk s cenF p k).size = k := by
  have h1 := chg_same _ _ rfl ((clo_ok s k hk).1.filter p)
  have h2 := mrk_place s cenF p k hk
  unfold mrk
  rw [ByteArray.size_append, ByteArray.size_extract, h1]
  omega
/-- the bytes at a place of the censoring -/
def cnt (s : ByteArray) (p : Nat × List Int → Bool) (k : Nat) : ByteArray := mrk s cenF p (min k s.size) ++ s.extract (min k s.size) s.size
theorem cnt_in {s : ByteArray} {p : Nat × List Int → Bool} {k : Nat} (hk : k ≤ s.size) : cnt s p k = mrk s cenF p k ++ s.extract k s.size := by unfold cnt; rw [Nat.min_eq_left hk]
theorem cnt_size (s : ByteArray) (p : Nat × List Int → Bool) (k : Nat) : (cnt s p k).size = s.size := by
  unfold cnt
  rw [ByteArray.size_append, mrk_same s p _ (Nat.min_le_right _ _), ByteArray.size_extract]
  omega
theorem cnt_next {s : ByteArray} {p : Nat × List Int → Bool} {k : Nat} (h : endOf s k = k) (hk : k ≤ s.size) : cnt s p (k + 1) = cnt s p k := by
  by_cases hlt : k < s.size
  · rw [cnt_in (by omega), cnt_in hk, mrk_next h hlt, extract_more s k (k + 1) s.size (by omega) (by omega) (Nat.le_refl _), ByteArray.append_assoc]
  · unfold cnt; rw [show min (k + 1) s.size = min k s.size by omega]
theorem cnt_zero (s : ByteArray) (p : Nat × List Int → Bool) : cnt s p 0 = s := by
  rw [cnt_in (Nat.zero_le _), mrk_zero]; simp
theorem cnt_miss {s : ByteArray} {p : Nat × List Int → Bool} {k : Nat} (h : (rTo s k).2 = []) (he : k < endOf s k) (hk : k < s.size) (hp : p (k, lows s k (endOf s k)) = false) : cnt s p (endOf s k) = cnt s p k := by
  have hE := endOf_le s k (by omega)
  rw [cnt_in hE, cnt_in (by omega), mrk_run h he hk, if_neg (by rw [hp]; simp), extract_more s k (endOf s k) s.size (by omega) hE (Nat.le_refl _), ByteArray.append_assoc]
/-- within a run that is hit: the first letter stands, and the stars so far -/
def cin (s : ByteArray) (p : Nat × List Int → Bool) (k i : Nat) : ByteArray := mrk s cenF p k ++ s.extract k (k + 1) ++ stars (i - (k + 1))
theorem cin_size {s : ByteArray} {p : Nat × List Int → Bool} {k i : Nat} (hk : k < s.size) (hi : k + 1 ≤ i) : (cin s p k i).size = i := by
  unfold cin
  rw [ByteArray.size_append, ByteArray.size_append, mrk_same s p k (by omega), ByteArray.size_extract, stars_size]; omega
theorem cin_first {s : ByteArray} {p : Nat × List Int → Bool} {k : Nat} (hk : k < s.size) : cnt s p k = cin s p k (k + 1) ++ s.extract (k + 1) s.size := by
  have e : stars 0 = ByteArray.empty := rfl
  unfold cin
  rw [cnt_in (by omega), Nat.sub_self, e, extract_more s k (k + 1) s.size (by omega) (by omega) (Nat.le_refl _)]
  simp [ByteArray.append_assoc]
theorem cin_next {s : ByteArray} {p : Nat × List Int → Bool} {k i : Nat} (hi : k + 1 ≤ i) : cin s p k (i + 1) = cin s p k i ++ stars 1 := by
  unfold cin
  rw [show i + 1 - (k + 1) = i - (k + 1) + 1 by omega, stars_succ, ByteArray.append_assoc, ByteArray.append_assoc, ByteArray.append_assoc]
theorem cin_last {s : ByteArray} {p : Nat × List Int → Bool} {k : Nat} (h : (rTo s k).2 = []) (he : k < endOf s k) (hk : k < s.size) (hp : p (k, lows s k (endOf s k)) = true) : cnt s p (endOf s k) = cin s p k (endOf s k) ++ s.extract (endOf s k) s.size := by
  have hE := endOf_le s k (by omega)
  rw [cnt_in hE, mrk_run h he hk, if_pos hp]
  unfold cin cenF
  have h1 : (s.extract k (endOf s k)).extract 0 1 = s.extract k (k + 1) := by
    rw [ByteArray.extract_extract]; congr 1; omega
  have h2 : (s.extract k (endOf s k)).size - 1 = endOf s k - (k + 1) := by rw [ByteArray.size_extract]; omega
  rw [h1, h2, ByteArray.append_assoc, ByteArray.append_assoc, ByteArray.append_assoc, ByteArray.append_assoc]
end Go.Proofs.Yteeodjbionjlmaa
