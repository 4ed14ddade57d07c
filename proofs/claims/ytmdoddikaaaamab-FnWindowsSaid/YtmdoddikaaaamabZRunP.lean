import Derived.Test.YtmdoddikaaaamabChecked
import Derived.WalkKit
import Derived.ProofKit
import Derived.OpenShut
import Derived.ShutString
import Derived.ChangeOld
import Derived.Below
import Derived.Lib.Hide
import Derived.Test.YtmdoddikaaaamabZRunC
import Derived.Test.YtmdoddikaaaamabZBktW
import Derived.Test.YtmdoddikaaaamabZBktU
namespace Go.Proofs.Ytmdoddikaaaamab
open Go.ChangeShapes Go.WideShapes Go.ChangeAt Go.RowKit
open Go.ChangeMaps (open_string shut_string)
set_option linter.unusedVariables false
set_option maxRecDepth 100000
theorem row_not_blk {W : World} {base e s m g t : Nat} {v : Value} {ys : List Value} {cs : Array Value} (h : W.ownsRow base e s v m ys) (k : Blk W g t cs) (hne : t ≠ e) : v.ownBlock = none ∨ v.ownBlock ≠ some g := by
  rcases h.2 with ⟨hv, _⟩ | ⟨g', cap, cur, hv, _, hc, _⟩
  · subst hv; exact .inl rfl
  · subst hv
    refine .inr fun e' => ?_
    have : g' = g := by simpa [Value.ownBlock] using e'
    subst this
    unfold Blk at k
    rw [hc] at k
    injection k with k
    injection k with _ k2
    exact hne k2.symm
def tmG : Int → List Int → Bool
  | _, [] => true
  | f, x :: r => decide (f ≤ x ∧ x ≤ 1000000) && tmG x r
def timesF (f : Int) (xs : List Int) : Bool := decide (xs.length ≤ 256) && tmG f xs
def startF (f : Int) : List Int → Bool
  | [] => true
  | x :: _ => decide (f ≤ x)
theorem tmG_some : ∀ (r : List Int) (x : Int), 0 ≤ x → tmG x r = chG tickB tkF (some x) r := by
  intro r
  induction r with
  | nil => intro x _; rfl
  | cons y r ih =>
    intro x hx
    rw [tmG, chG]
    by_cases hy : x ≤ y ∧ y ≤ 1000000
    · rw [ih y (by omega)]
      have e : lnkG tickB tkF (some x) y = true := by simp [lnkG, tickB, tkF]; omega
      rw [e, decide_eq_true hy]
    · have e : lnkG tickB tkF (some x) y = false := by
        rw [Bool.eq_false_iff]
        intro h
        simp [lnkG, tickB, tkF] at h
        omega
      rw [e, decide_eq_false hy]
      rfl
theorem tmG_none (xs : List Int) (f : Int) (hf : 0 ≤ f) : tmG f xs = (startF f xs && chG tickB tkF none xs) := by
  cases xs with
  | nil => rfl
  | cons x r =>
    rw [tmG, chG, startF]
    by_cases hx : f ≤ x
    · by_cases hy : x ≤ 1000000
      · rw [tmG_some r x (by omega)]
        have e : lnkG tickB tkF none x = true := by simp [lnkG, tickB]; omega
        rw [e, decide_eq_true (show f ≤ x ∧ x ≤ 1000000 from ⟨hx, hy⟩), decide_eq_true hx]
        rfl
      · have e : lnkG tickB tkF none x = false := by
          rw [Bool.eq_false_iff]
          intro h
          simp [lnkG, tickB] at h
          omega
        rw [e, decide_eq_false (show ¬ (f ≤ x ∧ x ≤ 1000000) by omega), decide_eq_true hx]
        rfl
    · rw [decide_eq_false (show ¬ (f ≤ x ∧ x ≤ 1000000) by omega), decide_eq_false hx]
      rfl
theorem timesF_eq (xs : List Int) (f : Int) (hf : 0 ≤ f) : timesF f xs = (startF f xs && ticksB xs) := by
  unfold timesF ticksB rowG
  rw [tmG_none xs f hf]
  cases decide (xs.length ≤ 256) <;> cases startF f xs <;> rfl
def stB (b : Bk) (t : Int) : Bool × Bk := (didB b 1 t, takeB b 1 t)
structure PreB (b : Bk) (t : Int) : Prop where
  ok : bktB b = true
  h1 : b.tm ≤ t
  h2 : t ≤ 1000000
theorem PreB.at_ {b : Bk} {t : Int} (h : PreB b t) : atB b t = true := by
  have := h.h1; have := h.h2
  simp [atB]; omega
theorem PreB.ask {b : Bk} {t : Int} (h : PreB b t) : askB b 1 = true := by
  have := (bktB_ok h.ok).s1
  simp [askB]; omega
theorem PreB.all {b : Bk} {t : Int} (h : PreB b t) : (bktB b && atB b t && askB b 1) = true := by rw [h.ok, h.at_, h.ask]; rfl
theorem take_ok {b : Bk} {count t : Int} (hb : bktB b = true) (ha : atB b t = true) (hc : askB b count = true) : bktB (takeB b count t) = true ∧ (takeB b count t).tm ≤ t ∧ (takeB b count t).sz = b.sz ∧ (takeB b count t).ev = b.ev := by
  obtain ⟨s1, s2, e1, e2, l1, l2, t1, t2⟩ := bktB_ok hb
  obtain ⟨a1, a2⟩ := at_le ha
  obtain ⟨q1, q2⟩ := ask_le hc
  obtain ⟨z1, z2⟩ := left_le hb ha
  have m := mul_le (t - b.tm) b.ev (by omega) e1
  by_cases hl : leftB b t < count
  · rw [take_lo hl]; exact ⟨hb, a1, rfl, rfl⟩
  · have hk : ∀ u, 0 ≤ u → u ≤ t → bktB ⟨b.sz, b.ev, leftB b t - count, u⟩ = true := fun u h1 h2 =>
      bktB_of ⟨s1, s2, e1, e2, by show 0 ≤ leftB b t - count; omega, by show leftB b t - count ≤ b.sz; omega, h1, by show u ≤ 1000000; omega⟩
    by_cases hf : leftB b t = b.sz
    · rw [take_full hl hf]; exact ⟨hk t (by omega) (by omega), Int.le_refl _, rfl, rfl⟩
    · rw [take_hi hl hf]; exact ⟨hk _ (by omega) (by omega), by show b.tm + (t - b.tm) / b.ev * b.ev ≤ t; omega, rfl, rfl⟩
theorem PreB.next {b : Bk} {t : Int} (h : PreB b t) : bktB (takeB b 1 t) = true ∧ (takeB b 1 t).tm ≤ t := ⟨(take_ok h.ok h.at_ h.ask).1, (take_ok h.ok h.at_ h.ask).2.1⟩
theorem pre_run : ∀ (xs : List Int) (b : Bk) (p : Option Int), chG tickB tkF p xs = true → bktB b = true → startF b.tm xs = true → ∀ (k : Nat) (t : Int), xs[k]? = some t → PreB (runG stB b (xs.take k)).2 t := by
  intro xs
  induction xs with
  | nil => intro b p _ _ _ k t h; simp at h
  | cons x r ih =>
    intro b p hc hb hs k t hk
    rw [chG] at hc
    obtain ⟨c1, c2⟩ := and_both hc
    have hx : b.tm ≤ x := by simpa [startF] using hs
    have hx2 : x ≤ 1000000 := by simp [lnkG, tickB] at c1; omega
    have hp : PreB b x := ⟨hb, hx, hx2⟩
    cases k with
    | zero => simp at hk; subst hk; exact hp
    | succ k =>
      obtain ⟨n1, n2⟩ := hp.next
      refine ih (takeB b 1 x) (some x) c2 n1 ?_ k t (by simpa using hk)
      cases r with
      | nil => rfl
      | cons y r' =>
        rw [chG] at c2
        obtain ⟨d1, _⟩ := and_both c2
        have : x ≤ y := by simp [lnkG, tickB, tkF] at d1; omega
        simp [startF]
        omega
def okRun (b : Bk) (xs : List Int) : Bool := bktB b && timesF b.tm xs
theorem okRun_no {b : Bk} {xs : List Int} (h : bktB b = false) : okRun b xs = false := by simp [okRun, h]
theorem okRun_eq {b : Bk} {xs : List Int} (h : bktB b = true) : okRun b xs = (startF b.tm xs && ticksB xs) := by
  unfold okRun
  rw [h, Bool.true_and, timesF_eq xs b.tm (bktB_ok h).t1]
end Go.Proofs.Ytmdoddikaaaamab
