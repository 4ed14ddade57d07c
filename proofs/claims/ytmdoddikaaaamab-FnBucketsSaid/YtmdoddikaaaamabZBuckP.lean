import Derived.Test.YtmdoddikaaaamabChecked
import Derived.WalkKit
import Derived.ProofKit
import Derived.OpenShut
import Derived.ShutString
import Derived.ChangeOld
import Derived.Below
import Derived.Lib.Hide
import Derived.Test.YtmdoddikaaaamabZWinW
import Derived.Test.YtmdoddikaaaamabZWaitP
import Derived.Test.YtmdoddikaaaamabZRunB
namespace Go.Proofs.Ytmdoddikaaaamab
open Go.ChangeShapes Go.WideShapes Go.ChangeAt Go.RowKit
open Go.ChangeMaps (open_string shut_string)
set_option linter.unusedVariables false
set_option maxRecDepth 100000
/-- how many were let through -/
def trueN : List Bool → Nat
  | [] => 0
  | b :: r => (if b then 1 else 0) + trueN r
theorem trueN_append : ∀ (a b : List Bool), trueN (a ++ b) = trueN a + trueN b := by
  intro a
  induction a with
  | nil => intro b; simp [trueN]
  | cons x r ih => intro b; simp [trueN, ih]; omega
theorem div_sup (a b e : Int) (he : 1 ≤ e) : a / e + b / e ≤ (a + b) / e := by
  refine (Int.le_ediv_iff_mul_le (by omega)).2 ?_
  have h1 := Int.ediv_mul_le a (show e ≠ 0 by omega)
  have h2 := Int.ediv_mul_le b (show e ≠ 0 by omega)
  rw [Int.add_mul]
  omega
theorem div_sub (a q e : Int) (he : 1 ≤ e) : (a - q * e) / e = a / e - q := by
  rw [Int.sub_mul_ediv_right a q (by omega)]
theorem div_lt (a b e : Int) (he : 1 ≤ e) (h : b < e) (h0 : 0 ≤ b) : (a + b) / e ≤ a / e + 1 := by
  have h1 := Int.emod_add_mul_ediv a e
  have h2 := Int.emod_lt_of_pos a (show 0 < e by omega)
  have : (a + b) / e < a / e + 2 := by
    refine Int.ediv_lt_of_lt_mul (by omega) ?_
    rw [Int.add_mul, Int.mul_comm] 
    omega
  omega
/-- the times of a run, each at least the one before, and none beyond T -/
def upTo (f T : Int) : List Int → Prop
  | [] => True
  | t :: r => f ≤ t ∧ t ≤ T ∧ upTo t T r
theorem credit : ∀ (xs : List Int) (b : Bk) (T : Int), bktB b = true → T ≤ 1000000 → b.tm ≤ T → upTo b.tm T xs → (trueN (runG stB b xs).1 : Int) ≤ b.lf + (T - b.tm) / b.ev := by
  intro xs
  induction xs with
  | nil =>
    intro b T hb hT h0 _
    obtain ⟨s1, s2, e1, e2, l1, l2, t1, t2⟩ := bktB_ok hb
    have := Int.ediv_nonneg (show 0 ≤ T - b.tm by omega) (show 0 ≤ b.ev by omega)
    simp [runG, trueN]
    omega
  | cons t r ih =>
    intro b T hb hT h0 hu
    obtain ⟨u1, u2, u3⟩ := hu
    obtain ⟨s1, s2, e1, e2, l1, l2, t1, t2⟩ := bktB_ok hb
    have hp : PreB b t := ⟨hb, u1, by omega⟩
    obtain ⟨n1, n2, n3, n4⟩ := take_ok hp.ok hp.at_ hp.ask
    have hu' : upTo (takeB b 1 t).tm T r := by
      cases r with
      | nil => trivial
      | cons y q => exact ⟨by have := u3.1; omega, u3.2⟩
    have h := ih (takeB b 1 t) T n1 hT (by omega) hu'
    have ht : (trueN (runG stB b (t :: r)).1 : Int) = (if didB b 1 t then 1 else 0) + (trueN (runG stB (takeB b 1 t) r).1 : Int) := by
      show ((trueN (didB b 1 t :: (runG stB (takeB b 1 t) r).1) : Nat) : Int) = _
      rw [trueN]
      cases didB b 1 t <;> simp
    rw [ht]
    by_cases hl : leftB b t < 1
    · rw [did_lo hl, take_lo hl] at *
      simpa using h
    · rw [did_hi hl]
      have hq := Int.ediv_nonneg (show 0 ≤ t - b.tm by omega) (show 0 ≤ b.ev by omega)
      by_cases hf : leftB b t = b.sz
      · rw [take_full hl hf] at h ⊢
        simp only [] at h
        have hs := div_sup (t - b.tm) (T - t) b.ev e1
        have e : t - b.tm + (T - t) = T - b.tm := by omega
        rw [e] at hs
        have hle : leftB b t = min b.sz (b.lf + (t - b.tm) / b.ev) := rfl
        simp
        omega
      · rw [take_hi hl hf] at h ⊢
        simp only [] at h
        have e : T - (b.tm + (t - b.tm) / b.ev * b.ev) = (T - b.tm) - (t - b.tm) / b.ev * b.ev := by omega
        rw [e, div_sub _ _ _ e1] at h
        have hle : leftB b t = min b.sz (b.lf + (t - b.tm) / b.ev) := rfl
        simp
        omega
/-- what is let through in a span -/
theorem span_most : ∀ (xs : List Int) (b : Bk) (t0 T : Int), bktB b = true → T ≤ 1000000 → b.tm ≤ t0 → t0 ≤ T → upTo t0 T xs → (trueN (runG stB b xs).1 : Int) ≤ b.sz + (T - t0) / b.ev := by
  intro xs
  induction xs with
  | nil =>
    intro b t0 T hb hT h0 h1 _
    obtain ⟨s1, s2, e1, e2, l1, l2, t1, t2⟩ := bktB_ok hb
    have := Int.ediv_nonneg (show 0 ≤ T - t0 by omega) (show 0 ≤ b.ev by omega)
    simp [runG, trueN]
    omega
  | cons t r ih =>
    intro b t0 T hb hT h0 h1 hu
    obtain ⟨u1, u2, u3⟩ := hu
    obtain ⟨s1, s2, e1, e2, l1, l2, t1, t2⟩ := bktB_ok hb
    have hp : PreB b t := ⟨hb, by omega, by omega⟩
    obtain ⟨n1, n2, n3, n4⟩ := take_ok hp.ok hp.at_ hp.ask
    have hmono : (T - t) / b.ev ≤ (T - t0) / b.ev := Int.ediv_le_ediv (by omega) (by omega)
    have ht : (trueN (runG stB b (t :: r)).1 : Int) = (if didB b 1 t then 1 else 0) + (trueN (runG stB (takeB b 1 t) r).1 : Int) := by
      show ((trueN (didB b 1 t :: (runG stB (takeB b 1 t) r).1) : Nat) : Int) = _
      rw [trueN]
      cases didB b 1 t <;> simp
    rw [ht]
    by_cases hl : leftB b t < 1
    · rw [did_lo hl, take_lo hl]
      have h := ih b t T hb hT (by omega) u2 u3
      simp
      omega
    · rw [did_hi hl]
      have hu' : upTo (takeB b 1 t).tm T r := by
        cases r with
        | nil => trivial
        | cons y q => exact ⟨by have := u3.1; omega, u3.2⟩
      have h := credit r (takeB b 1 t) T n1 hT (by omega) hu'
      obtain ⟨z1, z2⟩ := left_le hp.ok hp.at_
      by_cases hf : leftB b t = b.sz
      · rw [take_full hl hf] at h ⊢
        simp only [] at h
        simp
        omega
      · rw [take_hi hl hf] at h ⊢
        simp only [] at h
        have h1 := Int.emod_add_mul_ediv (t - b.tm) b.ev
        have h2 := Int.emod_lt_of_pos (t - b.tm) (show 0 < b.ev by omega)
        have h3 := Int.emod_nonneg (t - b.tm) (show b.ev ≠ 0 by omega)
        rw [Int.mul_comm] at h1
        have e : T - (b.tm + (t - b.tm) / b.ev * b.ev) = (T - t) + (t - b.tm) % b.ev := by omega
        rw [e] at h
        have h4 := div_lt (T - t) ((t - b.tm) % b.ev) b.ev e1 h2 h3
        simp
        omega
theorem drop_consB {α : Type} {xs : List α} {k : Nat} {z : α} (h : xs[k]? = some z) : xs.drop k = z :: xs.drop (k + 1) := by
  have hk : k < xs.length := (List.getElem?_eq_some_iff.1 h).1
  have e : xs[k] = z := by rw [List.getElem?_eq_getElem hk] at h; injection h
  rw [List.drop_eq_getElem_cons hk, e]
theorem run_all : ∀ (xs : List Int) (b : Bk) (f : Int), tmG f xs = true → bktB b = true → b.tm ≤ f → bktB (runG stB b xs).2 = true ∧ (runG stB b xs).2.sz = b.sz ∧ (runG stB b xs).2.ev = b.ev ∧ (∀ k t, xs[k]? = some t → PreB (runG stB b (xs.take k)).2 t) := by
  intro xs
  induction xs with
  | nil => intro b f _ hb _; exact ⟨hb, rfl, rfl, fun k t h => by simp at h⟩
  | cons x r ih =>
    intro b f h hb hf
    rw [tmG] at h
    obtain ⟨h1, h2⟩ := and_both h
    have h1 : f ≤ x ∧ x ≤ 1000000 := by simpa using h1
    have hp : PreB b x := ⟨hb, by omega, h1.2⟩
    obtain ⟨n1, n2, n3, n4⟩ := take_ok hp.ok hp.at_ hp.ask
    obtain ⟨i1, i2, i3, i4⟩ := ih (takeB b 1 x) x h2 n1 n2
    refine ⟨i1, i2.trans n3, i3.trans n4, fun k t hk => ?_⟩
    cases k with
    | zero => simp at hk; subst hk; exact hp
    | succ k => exact i4 k t (by simpa using hk)
theorem tmG_take (f : Int) : ∀ (xs : List Int) (k : Nat) (g : Int), tmG g xs = true → tmG g (xs.take k) = true := by
  intro xs
  induction xs with
  | nil => intro k g h; simpa using h
  | cons x r ih =>
    intro k g h
    cases k with
    | zero => rfl
    | succ k =>
      rw [tmG] at h
      obtain ⟨h1, h2⟩ := and_both h
      show (decide (g ≤ x ∧ x ≤ 1000000) && tmG x (r.take k)) = true
      rw [h1, ih k x h2]
      rfl
theorem tmG_drop : ∀ (xs : List Int) (k : Nat) (g : Int), tmG g xs = true → ∀ y, xs[k]? = some y → tmG y (xs.drop (k + 1)) = true ∧ y ≤ 1000000 ∧ g ≤ y := by
  intro xs
  induction xs with
  | nil => intro k g _ y h; simp at h
  | cons x r ih =>
    intro k g h y hy
    rw [tmG] at h
    obtain ⟨h1, h2⟩ := and_both h
    have h1 : g ≤ x ∧ x ≤ 1000000 := by simpa using h1
    cases k with
    | zero => simp at hy; subst hy; exact ⟨by simpa using h2, h1.2, h1.1⟩
    | succ k =>
      obtain ⟨a, b, c⟩ := ih k x h2 y (by simpa using hy)
      exact ⟨by simpa using a, b, by omega⟩
theorem tmG_low (f : Int) {y : Int} {r : List Int} (h : tmG y r = true) (h1 : f ≤ y) (h2 : y ≤ 1000000) : tmG f (y :: r) = true := by
  show (decide (f ≤ y ∧ y ≤ 1000000) && tmG y r) = true
  rw [h, decide_eq_true ⟨h1, h2⟩]
  rfl
/-- a run is cut anywhere -/
theorem cut_ok {xs : List Int} {b : Bk} (h : tmG b.tm xs = true) (hl : xs.length ≤ 256) (hb : bktB b = true) (k : Nat) :
    okRun b xs = true ∧ okRun b (xs.take k) = true ∧ okRun (runG stB b (xs.take k)).2 (xs.drop k) = true ∧ (runG stB (runG stB b (xs.take k)).2 (xs.drop k)).2 = (runG stB b xs).2 ∧ (runG stB b xs).1 = (runG stB b (xs.take k)).1 ++ (runG stB (runG stB b (xs.take k)).2 (xs.drop k)).1 := by
  have ht := tmG_take b.tm xs k b.tm h
  obtain ⟨r1, r2, r3, r4⟩ := run_all xs b b.tm h hb (Int.le_refl _)
  obtain ⟨q1, _, _, _⟩ := run_all (xs.take k) b b.tm ht hb (Int.le_refl _)
  have e := runG_append stB (xs.take k) (xs.drop k) b
  rw [List.take_append_drop] at e
  refine ⟨?_, ?_, ?_, by rw [e], by rw [e]⟩
  · unfold okRun timesF; rw [hb, h, decide_eq_true hl]; rfl
  · unfold okRun timesF; rw [hb, ht, decide_eq_true (by rw [List.length_take]; omega)]; rfl
  · unfold okRun timesF
    rw [q1, decide_eq_true (by rw [List.length_drop]; omega), Bool.true_and, Bool.true_and]
    cases hd : xs[k]? with
    | none =>
      have : xs.length ≤ k := by simpa using hd
      rw [List.drop_eq_nil_of_le this]
      rfl
    | some y =>
      obtain ⟨d1, d2, d3⟩ := tmG_drop xs k b.tm h y hd
      rw [drop_consB hd]
      exact tmG_low _ d1 (r4 k y hd).h1 d2
theorem upTo_of : ∀ (m : Nat) (xs : List Int) (f T : Int), tmG f xs = true → xs[m]? = some T → upTo f T (xs.take (m + 1)) := by
  intro m
  induction m with
  | zero =>
    intro xs f T h hT
    cases xs with
    | nil => simp at hT
    | cons x r =>
      simp at hT; subst hT
      rw [tmG] at h
      have h1 : f ≤ x ∧ x ≤ 1000000 := by simpa using (and_both h).1
      exact ⟨h1.1, Int.le_refl _, trivial⟩
  | succ m ih =>
    intro xs f T h hT
    cases xs with
    | nil => simp at hT
    | cons x r =>
      have hT' : r[m]? = some T := by simpa using hT
      rw [tmG] at h
      obtain ⟨h1, h2⟩ := and_both h
      have h1 : f ≤ x ∧ x ≤ 1000000 := by simpa using h1
      exact ⟨h1.1, (tmG_drop r m x h2 T hT').2.2, ih r x T h2 hT'⟩
/-- the law's bound, at i and k -/
theorem span_law {xs : List Int} {b : Bk} (h : tmG b.tm xs = true) (hb : bktB b = true) {i k : Nat} {ti tk : Int} (hi : xs[i]? = some ti) (hk : xs[k]? = some tk) (hik : i ≤ k) :
    (trueN (((runG stB b xs).1.drop i).take (k + 1 - i)) : Int) ≤ b.sz + (tk - ti) / b.ev ∧ ti ≤ tk ∧ tk ≤ 1000000 ∧ 0 ≤ ti := by
  have hil : i < xs.length := (List.getElem?_eq_some_iff.1 hi).1
  obtain ⟨r1, r2, r3, r4⟩ := run_all xs b b.tm h hb (Int.le_refl _)
  have hti := tmG_take b.tm xs i b.tm h
  obtain ⟨q1, q2, q3, _⟩ := run_all (xs.take i) b b.tm hti hb (Int.le_refl _)
  obtain ⟨d1, d2, d3⟩ := tmG_drop xs i b.tm h ti hi
  have e := runG_append stB (xs.take i) (xs.drop i) b
  rw [List.take_append_drop] at e
  have hlen : (runG stB b (xs.take i)).1.length = i := by rw [runG_len, List.length_take]; omega
  have e1 : (runG stB b xs).1.drop i = (runG stB (runG stB b (xs.take i)).2 (xs.drop i)).1 := by rw [e]; exact List.drop_left' hlen
  have hdl : k + 1 - i ≤ (xs.drop i).length := by have := (List.getElem?_eq_some_iff.1 hk).1; rw [List.length_drop]; omega
  rw [e1, runG_take stB _ _ _ hdl]
  have hkd : (xs.drop i)[k - i]? = some tk := by rw [List.getElem?_drop, show i + (k - i) = k by omega]; exact hk
  have hdr : tmG ti (xs.drop i) = true := by rw [drop_consB hi]; exact tmG_low ti d1 (Int.le_refl _) d2
  have hu := upTo_of (k - i) (xs.drop i) ti tk hdr hkd
  rw [show k - i + 1 = k + 1 - i by omega] at hu
  have hle : ti ≤ tk := (tmG_drop (xs.drop i) (k - i) ti hdr tk hkd).2.2
  have htk : tk ≤ 1000000 := (tmG_drop xs k b.tm h tk hk).2.1
  have hs := span_most _ (runG stB b (xs.take i)).2 ti tk q1 htk (r4 i ti hi).h1 hle hu
  rw [q2, q3] at hs
  have := (bktB_ok hb).t1
  exact ⟨hs, hle, htk, by omega⟩
theorem trueN_step (os : List Bool) (i k : Nat) (x : Bool) (h : os[k]? = some x) (hik : i ≤ k) : trueN ((os.drop i).take (k + 1 - i)) = trueN ((os.drop i).take (k - i)) + (if x then 1 else 0) := by
  have hd : (os.drop i)[k - i]? = some x := by rw [List.getElem?_drop, show i + (k - i) = k by omega]; exact h
  rw [show k + 1 - i = k - i + 1 by omega, takeX hd, trueN_append]
  cases x <;> simp [trueN]
theorem trueN_le : ∀ (os : List Bool), trueN os ≤ os.length := by
  intro os
  induction os with
  | nil => simp [trueN]
  | cons b r ih => cases b <;> simp [trueN] <;> omega
end Go.Proofs.Ytmdoddikaaaamab
