import Derived.Test.YteeodjbionjlmaaZPostP
import Derived.Test.YteeodjbionjlmaaZMsgP
namespace Go.Proofs.Yteeodjbionjlmaa
set_option linter.unusedVariables false
/-- a list each of whose members is sound and may follow the one before it -/
def lnkG {α : Type} (ok : α → Bool) (fol : α → α → Bool) (p : Option α) (x : α) : Bool := ok x && match p with | none => true | some y => fol y x
def chG {α : Type} (ok : α → Bool) (fol : α → α → Bool) : Option α → List α → Bool
  | _, [] => true
  | p, x :: r => lnkG ok fol p x && chG ok fol (some x) r
def lastG {α : Type} : Option α → List α → Option α
  | p, [] => p
  | _, x :: r => lastG (some x) r
section
variable {α : Type} {ok : α → Bool} {fol : α → α → Bool}
theorem chG_append : ∀ (a b : List α) (p : Option α), chG ok fol p (a ++ b) = (chG ok fol p a && chG ok fol (lastG p a) b) := by
  intro a
  induction a with
  | nil => intro b p; simp [chG, lastG]
  | cons m r ih => intro b p; simp [chG, lastG, ih, Bool.and_assoc]
theorem lastG_append : ∀ (a b : List α) (p : Option α), lastG p (a ++ b) = lastG (lastG p a) b := by
  intro a
  induction a with
  | nil => intro b p; rfl
  | cons m r ih => intro b p; simp [lastG, ih]
theorem chG_step {xs : List α} {k : Nat} {z : α} (h : xs[k]? = some z) : chG ok fol none (xs.take (k + 1)) = (chG ok fol none (xs.take k) && lnkG ok fol (lastG none (xs.take k)) z) := by
  rw [takeX h, chG_append]; simp [chG]
theorem lastG_step {xs : List α} {k : Nat} {z : α} (h : xs[k]? = some z) : lastG none (xs.take (k + 1)) = some z := by
  rw [takeX h, lastG_append]; rfl
theorem chG_no {xs : List α} {k : Nat} {z : α} (h : xs[k]? = some z) (hl : lnkG ok fol (lastG none (xs.take k)) z = false) : chG ok fol none xs = false := by
  rw [splitX h, chG_append]; simp [chG, hl]
theorem chG_full {xs : List α} {k : Nat} (h : chG ok fol none (xs.take k) = true) (hk : xs.length ≤ k) : chG ok fol none xs = true := by rwa [List.take_of_length_le hk] at h
theorem lnkG_no {p : Option α} {x : α} (h : ok x = false) : lnkG ok fol p x = false := by unfold lnkG; rw [h]; rfl
theorem lnkG_some {y x : α} (h : ok x = true) : lnkG ok fol (some y) x = fol y x := by unfold lnkG; rw [h]; rfl
theorem lnkG_none {x : α} (h : ok x = true) : lnkG ok fol none x = true := by unfold lnkG; rw [h]; rfl
/-- no more than m of them -/
def rowG (m : Nat) (ok : α → Bool) (fol : α → α → Bool) (xs : List α) : Bool := decide (xs.length ≤ m) && chG ok fol none xs
theorem rowG_long {m : Nat} {xs : List α} (h : m < xs.length) : rowG m ok fol xs = false := by
  have : decide (xs.length ≤ m) = false := decide_eq_false (by omega)
  simp [rowG, this]
theorem rowG_chain {m : Nat} {xs : List α} (h : chG ok fol none xs = false) : rowG m ok fol xs = false := by simp [rowG, h]
theorem rowG_yes {m : Nat} {xs : List α} (h : xs.length ≤ m) (h2 : chG ok fol none xs = true) : rowG m ok fol xs = true := by simp [rowG, h, h2]
end
def skB (z : Iv) : Bool := idB z.id && decide (0 ≤ z.byy) && decide (z.byy ≤ 2) && tickB z.til
def skF (y z : Iv) : Bool := decide (y.til ≤ z.til)
def strikesB (xs : List Iv) : Bool := rowG 64 skB skF xs
end Go.Proofs.Yteeodjbionjlmaa
