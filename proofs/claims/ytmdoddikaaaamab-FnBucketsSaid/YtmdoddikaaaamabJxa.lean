import Derived.Test.YtmdoddikaaaamabChecked
import Derived.WalkKit
import Derived.ProofKit
import Derived.OpenShut
import Derived.ShutString
import Derived.ChangeOld
import Derived.Below
import Derived.Lib.Hide
import Derived.Test.YtmdoddikaaaamabZRunC
import Derived.Test.YtmdoddikaaaamabZBktW
import Derived.Test.YtmdoddikaaaamabZBktU
namespace Go.Proofs.Ytmdoddikaaaamab
open Go.ChangeShapes Go.WideShapes Go.ChangeAt Go.RowKit
open Go.ChangeMaps (open_string shut_string)
set_option linter.unusedVariables false
set_option maxRecDepth 100000
theorem row_not_blk {W : World} {base e s m g t : Nat} {v : Value} {ys : List Value} {cs : Array Value} (h : W.ownsRow base e s v m ys) (k : Blk W g t cs) (hne : t ≠ e) : v.ownBlock = none ∨ v.ownBlock ≠ some g := by
  rcases h.2 with ⟨hv, _⟩ | ⟨g', cap, cur, hv, _, hc, _⟩
  · subst hv; exact .inl rfl
  · subst hv
    refine .inr fun e' => ?_
    have : g' = g := by simpa [Value.ownBlock] using e'
    subst this
    unfold Blk at k
    rw [hc] at k
    injection k with k
    injection k with _ k2
    exact hne k2.symm
def tmG : Int → List Int → Bool
  | _, [] => true
  | f, x :: r => decide (f ≤ x ∧ x ≤ 1000000) && tmG x r
def timesF (f : Int) (xs : List Int) : Bool := decide (xs.length ≤ 256) && tmG f xs
def startF (f : Int) : List Int → Bool
  | [] => true
  | x :: _ => decide (f ≤ x)
theorem tmG_some : ∀ (r : List Int) (x : Int), 0 ≤ x → tmG x r = chG tickB tkF (some x) r := by
  intro r
  induction r with
  | nil => intro x _; rfl
  | cons y r ih =>
    intro x hx
    rw [tmG, chG]
    by_cases hy : x ≤ y ∧ y ≤ 1000000
    · rw [ih y (by omega)]
      have e : lnkG tickB tkF (some x) y = true := by simp [lnkG, tickB, tkF]; omega
      rw [e, decide_eq_true hy]
    · have e : lnkG tickB tkF (some x) y = false := by
        rw [Bool.eq_false_iff]
        intro h
        simp [lnkG, tickB, tkF] at h
        omega
      rw [e, decide_eq_false hy]
      rfl
theorem tmG_none (xs : List Int) (f : Int) (hf : 0 ≤ f) : tmG f xs = (startF f xs && chG tickB tkF none xs) := by
  cases xs with
  | nil => rfl
  | cons x r =>
    rw [tmG, chG, startF]
    by_cases hx : f ≤ x
    · by_cases hy : x ≤ 1000000
      · rw [tmG_some r x (by omega)]
        have e : lnkG tickB tkF none x = true := by simp [lnkG, tickB]; omega
        rw [e, decide_eq_true (show f ≤ x ∧ x ≤ 1000000 from ⟨hx, hy⟩), decide_eq_true hx]
        rfl
      · have e : lnkG tickB tkF none x = false := by
          rw [Bool.eq_false_iff]
          intro h
          simp [lnkG, tickB] at h
          omega
        rw [e, decide_eq_false (show ¬ (f ≤ x ∧ x ≤ 1000000) by omega), decide_eq_true hx]
        rfl
    · rw [decide_eq_false (show ¬ (f ≤ x ∧ x ≤ 1000000) by omega), decide_eq_false hx]
      rfl
theorem timesF_eq (xs : List Int) (f : Int) (hf : 0 ≤ f) : timesF f xs = (startF f xs && ticksB xs) := by
  unfold timesF ticksB rowG
  rw [tmG_none xs f hf]
  cases decide (xs.length ≤ 256) <;> cases startF f xs <;> rfl
def stB (b : Bk) (t : Int) : Bool × Bk := (didB b 1 t, takeB b 1 t)
structure PreB (b : Bk) (t : Int) : Prop where
  ok : bktB b = true
  h1 : b.tm ≤ t
  h2 : t ≤ 1000000
theorem PreB.at_ {b : Bk} {t : Int} (h : PreB b t) : atB b t = true := by
  have := h.h1; have := h.h2
  simp [atB]; omega
theorem PreB.ask {b : Bk} {t : Int} (h : PreB b t) : askB b 1 = true := by
  have := (bktB_ok h.ok).s1
  simp [askB]; omega
theorem PreB.all {b : Bk} {t : Int} (h : PreB b t) : (bktB b && atB b t && askB b 1) = true := by rw [h.ok, h.at_, h.ask]; rfl
theorem take_ok {b : Bk} {count t : Int} (hb : bktB b = true) (ha : atB b t = true) (hc : askB b count = true) : bktB (takeB b count t) = true ∧ (takeB b count t).tm ≤ t ∧ (takeB b count t).sz = b.sz ∧ (takeB b count t).ev = b.ev := by
  obtain ⟨s1, s2, e1, e2, l1, l2, t1, t2⟩ := bktB_ok hb
  obtain ⟨a1, a2⟩ := at_le ha
  obtain ⟨q1, q2⟩ := ask_le hc
  obtain ⟨z1, z2⟩ := left_le hb ha
  have m := mul_le (t - b.tm) b.ev (by omega) e1
  by_cases hl : leftB b t < count
  · rw [take_lo hl]; exact ⟨hb, a1, rfl, rfl⟩
  · have hk : ∀ u, 0 ≤ u → u ≤ t → bktB ⟨b.sz, b.ev, leftB b t - count, u⟩ = true := fun u h1 h2 =>
      bktB_of ⟨s1, s2, e1, e2, by show 0 ≤ leftB b t - count; omega, by show leftB b t - count ≤ b.sz; omega, h1, by show u ≤ 1000000; omega⟩
    by_cases hf : leftB b t = b.sz
    · rw [take_full hl hf]; exact ⟨hk t (by omega) (by omega), Int.le_refl _, rfl, rfl⟩
    · rw [take_hi hl hf]; exact ⟨hk _ (by omega) (by omega), by show b.tm + (t - b.tm) / b.ev * b.ev ≤ t; omega, rfl, rfl⟩
theorem PreB.next {b : Bk} {t : Int} (h : PreB b t) : bktB (takeB b 1 t) = true ∧ (takeB b 1 t).tm ≤ t := ⟨(take_ok h.ok h.at_ h.ask).1, (take_ok h.ok h.at_ h.ask).2.1⟩
theorem pre_run : ∀ (xs : List Int) (b : Bk) (p : Option Int), chG tickB tkF p xs = true → bktB b = true → startF b.tm xs = true → ∀ (k : Nat) (t : Int), xs[k]? = some t → PreB (runG stB b (xs.take k)).2 t := by
  intro xs
  induction xs with
  | nil => intro b p _ _ _ k t h; simp at h
  | cons x r ih =>
    intro b p hc hb hs k t hk
    rw [chG] at hc
    obtain ⟨c1, c2⟩ := and_both hc
    have hx : b.tm ≤ x := by simpa [startF] using hs
    have hx2 : x ≤ 1000000 := by simp [lnkG, tickB] at c1; omega
    have hp : PreB b x := ⟨hb, hx, hx2⟩
    cases k with
    | zero => simp at hk; subst hk; exact hp
    | succ k =>
      obtain ⟨n1, n2⟩ := hp.next
      refine ih (takeB b 1 x) (some x) c2 n1 ?_ k t (by simpa using hk)
      cases r with
      | nil => rfl
      | cons y r' =>
        rw [chG] at c2
        obtain ⟨d1, _⟩ := and_both c2
        have : x ≤ y := by simp [lnkG, tickB, tkF] at d1; omega
        simp [startF]
        omega
def okRun (b : Bk) (xs : List Int) : Bool := bktB b && timesF b.tm xs
theorem okRun_no {b : Bk} {xs : List Int} (h : bktB b = false) : okRun b xs = false := by simp [okRun, h]
theorem okRun_eq {b : Bk} {xs : List Int} (h : bktB b = true) : okRun b xs = (startF b.tm xs && ticksB xs) := by
  unfold okRun
  rw [h, Bool.true_and, timesF_eq xs b.tm (bktB_ok h).t1]
end Go.Proofs.Ytmdoddikaaaamab
namespace Go.Proofs.Ytmdoddikaaaamab
open Go.ChangeShapes Go.WideShapes Go.ChangeAt Go.RowKit
open Go.ChangeMaps (open_string shut_string)
set_option linter.unusedVariables false
set_option maxRecDepth 100000
/-- is a tick kept out: as many as told have been let through, and the first of the last ones is in the window -/
def blkW (win : Int) (m : Nat) (P : List Int) (t : Int) : Bool := decide (m ≤ P.length) && decide (t - win < P.getD (P.length - m) 0)
def stW (win : Int) (m : Nat) (P : List Int) (t : Int) : Bool × List Int := if blkW win m P t then (false, P) else (true, P ++ [t])
theorem stW_1 (win : Int) (m : Nat) (P : List Int) (t : Int) : (stW win m P t).1 = !blkW win m P t := by unfold stW; cases blkW win m P t <;> rfl
theorem stW_2 (win : Int) (m : Nat) (P : List Int) (t : Int) : (stW win m P t).2 = if blkW win m P t then P else P ++ [t] := by unfold stW; cases blkW win m P t <;> rfl
/-- those that were let through and are greater than c -/
def inW (c : Int) : List Int → List Bool → Nat
  | x :: r, b :: q => (if b && decide (c < x) then 1 else 0) + inW c r q
  | _, _ => 0
def keptW : List Int → List Bool → List Int
  | x :: r, b :: q => if b then x :: keptW r q else keptW r q
  | _, _ => []
theorem inW_kept (c : Int) : ∀ (xs : List Int) (bs : List Bool), inW c xs bs = ((keptW xs bs).filter (fun p => decide (c < p))).length := by
  intro xs
  induction xs with
  | nil => intro bs; cases bs <;> rfl
  | cons x r ih =>
    intro bs
    cases bs with
    | nil => rfl
    | cons b q =>
      rw [inW, keptW, ih q]
      cases b
      · simp
      · by_cases h : c < x
        · simp [h]; omega
        · simp [h]
theorem kept_append : ∀ (xs : List Int) (bs : List Bool) (x : Int) (b : Bool), xs.length = bs.length → keptW (xs ++ [x]) (bs ++ [b]) = keptW xs bs ++ (if b then [x] else []) := by
  intro xs
  induction xs with
  | nil => intro bs x b h; cases bs with | nil => cases b <;> rfl | cons _ _ => simp at h
  | cons y r ih =>
    intro bs x b h
    cases bs with
    | nil => simp at h
    | cons c q =>
      simp only [List.cons_append, keptW]
      rw [ih q x b (by simpa using h)]
      cases c <;> simp
theorem kept_mem : ∀ (xs : List Int) (bs : List Bool) (p : Int), p ∈ keptW xs bs → p ∈ xs := by
  intro xs
  induction xs with
  | nil => intro bs p h; cases bs <;> simp [keptW] at h
  | cons x r ih =>
    intro bs p h
    cases bs with
    | nil => simp [keptW] at h
    | cons b q =>
      cases b
      · simp [keptW] at h; exact List.mem_cons_of_mem _ (ih q p h)
      · simp [keptW] at h
        rcases h with h | h
        · subst h; exact List.mem_cons_self
        · exact List.mem_cons_of_mem _ (ih q p h)
theorem kept_len : ∀ (xs : List Int) (bs : List Bool), (keptW xs bs).length ≤ xs.length := by
  intro xs
  induction xs with
  | nil => intro bs; cases bs <;> simp [keptW]
  | cons x r ih =>
    intro bs
    cases bs with
    | nil => simp [keptW]
    | cons b q => have := ih q; cases b <;> simp [keptW] <;> omega
theorem kept_sorted : ∀ (xs : List Int) (bs : List Bool), xs.Pairwise (· ≤ ·) → (keptW xs bs).Pairwise (· ≤ ·) := by
  intro xs
  induction xs with
  | nil => intro bs _; cases bs <;> simp [keptW]
  | cons x r ih =>
    intro bs h
    rw [List.pairwise_cons] at h
    cases bs with
    | nil => simp [keptW]
    | cons b q =>
      cases b
      · simpa [keptW] using ih q h.2
      · simp only [keptW, if_true, List.pairwise_cons]
        exact ⟨fun y hy => h.1 y (kept_mem r q y hy), ih q h.2⟩
/-- of ascending numbers, at least m are greater than c just if the m-th from behind is -/
theorem count_last (c : Int) (m : Nat) (hm : 0 < m) : ∀ (P : List Int), P.Pairwise (· ≤ ·) → (m ≤ (P.filter (fun p => decide (c < p))).length ↔ m ≤ P.length ∧ c < P.getD (P.length - m) 0) := by
  intro P
  induction P with
  | nil => intro _; simp; omega
  | cons x r ih =>
    intro h
    rw [List.pairwise_cons] at h
    by_cases hx : c < x
    · have hall : (x :: r).filter (fun p => decide (c < p)) = x :: r := by
        rw [List.filter_eq_self]
        intro y hy
        rcases List.mem_cons.1 hy with hy | hy
        · subst hy; simpa using hx
        · have := h.1 y hy; simp; omega
      rw [hall]
      refine ⟨fun h1 => ⟨h1, ?_⟩, fun h1 => h1.1⟩
      have hlt : (x :: r).length - m < (x :: r).length := by simp; omega
      rw [List.getD_eq_getElem?_getD, List.getElem?_eq_getElem hlt, Option.getD_some]
      have hmem := List.getElem_mem hlt
      rcases List.mem_cons.1 hmem with e | hy
      · rw [e]; exact hx
      · have := h.1 _ hy; omega
    · rw [List.filter_cons_of_neg (by simpa using hx), ih h.2]
      by_cases hl : m ≤ r.length
      · have e : (x :: r).length - m = (r.length - m) + 1 := by simp; omega
        rw [e, List.getD_cons_succ]
        simp
        omega
      · constructor
        · intro h1; omega
        · intro h1
          exfalso
          have e : (x :: r).length - m = 0 := by simp at h1 ⊢; omega
          rw [e] at h1
          simp at h1
          omega
theorem blkW_iff (win t : Int) (m : Nat) (hm : 0 < m) (xs : List Int) (bs : List Bool) (hs : xs.Pairwise (· ≤ ·)) : blkW win m (keptW xs bs) t = decide (m ≤ inW (t - win) xs bs) := by
  rw [inW_kept]
  have h := count_last (t - win) m hm (keptW xs bs) (kept_sorted xs bs hs)
  unfold blkW
  rw [Bool.eq_iff_iff]
  simp only [Bool.and_eq_true, decide_eq_true_eq]
  exact h.symm
theorem chG_sorted : ∀ (xs : List Int) (p : Option Int), chG tickB tkF p xs = true → xs.Pairwise (· ≤ ·) := by
  intro xs
  induction xs with
  | nil => intro _ _; exact List.Pairwise.nil
  | cons x r ih =>
    intro p h
    rw [chG] at h
    obtain ⟨_, h2⟩ := and_both h
    rw [List.pairwise_cons]
    refine ⟨?_, ih _ h2⟩
    have hs := ih _ h2
    cases r with
    | nil => intro y hy; cases hy
    | cons y q =>
      rw [chG] at h2
      obtain ⟨h3, _⟩ := and_both h2
      have hxy : x ≤ y := by simp [lnkG, tickB, tkF] at h3; omega
      rw [List.pairwise_cons] at hs
      intro v hv
      rcases List.mem_cons.1 hv with e | hv
      · rw [e]; exact hxy
      · have := hs.1 v hv; omega
theorem chG_ticks : ∀ (xs : List Int) (p : Option Int), chG tickB tkF p xs = true → ∀ x ∈ xs, tickB x = true := by
  intro xs
  induction xs with
  | nil => intro _ _ x hx; cases hx
  | cons y r ih =>
    intro p h x hx
    rw [chG] at h
    obtain ⟨h1, h2⟩ := and_both h
    rcases List.mem_cons.1 hx with e | hx
    · subst e; unfold lnkG at h1; exact (and_both h1).1
    · exact ih _ h2 x hx
/-- the run of a window: what is kept is what was let through -/
theorem runW_kept (win : Int) (m : Nat) (xs : List Int) : ∀ k, k ≤ xs.length → (runG (stW win m) [] (xs.take k)).2 = keptW (xs.take k) (runG (stW win m) [] (xs.take k)).1 := by
  intro k
  induction k with
  | zero => intro _; rfl
  | succ k ih =>
    intro hk
    have hz : xs[k]? = some (xs[k]'(by omega)) := List.getElem?_eq_getElem _
    have h := ih (by omega)
    rw [runG_step hz, takeX hz]
    simp only []
    rw [kept_append _ _ _ _ (by rw [runG_len]), ← h]
    rw [stW_1, stW_2]
    cases blkW win m (runG (stW win m) [] (xs.take k)).2 (xs[k]'(by omega)) <;> simp
theorem runW_step (win : Int) (m : Nat) (hm : 0 < m) {xs : List Int} {k : Nat} {t : Int} (hz : xs[k]? = some t) (hs : xs.Pairwise (· ≤ ·)) :
    (runG (stW win m) [] (xs.take (k + 1))).1 = (runG (stW win m) [] (xs.take k)).1 ++ [decide (inW (t - win) (xs.take k) (runG (stW win m) [] (xs.take k)).1 < m)] := by
  have hk : k < xs.length := (List.getElem?_eq_some_iff.1 hz).1
  rw [runG_step hz]
  simp only []
  congr 2
  have hb := blkW_iff win t m hm (xs.take k) (runG (stW win m) [] (xs.take k)).1 (hs.sublist (List.take_sublist _ _))
  rw [← runW_kept win m xs k (by omega)] at hb
  rw [stW_1, hb]
  by_cases h : m ≤ inW (t - win) (xs.take k) (runG (stW win m) [] (xs.take k)).1
  · rw [decide_eq_true h, decide_eq_false (by omega)]; rfl
  · rw [decide_eq_false h, decide_eq_true (by omega)]; rfl
theorem inW_step (c : Int) : ∀ (xs : List Int) (bs : List Bool) (k : Nat) (x : Int) (b : Bool), xs[k]? = some x → bs[k]? = some b → inW c (xs.take (k + 1)) (bs.take (k + 1)) = inW c (xs.take k) (bs.take k) + (if b && decide (c < x) then 1 else 0) := by
  intro xs
  induction xs with
  | nil => intro bs k x b h _; simp at h
  | cons y r ih =>
    intro bs k x b h h2
    cases bs with
    | nil => simp at h2
    | cons d q =>
      cases k with
      | zero => simp at h h2; subst h; subst h2; simp [inW]
      | succ k =>
        simp only [List.take_succ_cons, inW]
        rw [ih q k x b (by simpa using h) (by simpa using h2)]
        omega
theorem inW_le (c : Int) : ∀ (xs : List Int) (bs : List Bool), inW c xs bs ≤ xs.length := by
  intro xs bs
  rw [inW_kept]
  exact Nat.le_trans (List.length_filter_le _ _) (kept_len xs bs)
def winB (win most : Int) : Bool := spanB win && (decide (1 ≤ most) && decide (most ≤ 256))
def okWin (xs : List Int) (win most : Int) : Bool := ticksB xs && winB win most
end Go.Proofs.Ytmdoddikaaaamab
