import Derived.Test.YtmdoddikaaaamaaChecked
import Derived.WalkKit
import Derived.ProofKit
import Derived.OpenShut
import Derived.ShutString
import Derived.ChangeOld
import Derived.Below
import Derived.Lib.Hide
import Derived.Test.YtmdoddikaaaamaaZChnT
import Derived.Test.YtmdoddikaaaamaaZBktS
namespace Go.Proofs.Ytmdoddikaaaamaa
open Go.ChangeShapes Go.WideShapes Go.ChangeAt Go.RowKit
open Go.ChangeMaps (open_string shut_string)
set_option linter.unusedVariables false
set_option maxRecDepth 100000
/-- what a strike counts at a tick -/
def ptZ (at_ fade : Int) (z : Iv) : Int := (2 : Int) ^ z.byy.toNat / (2 : Int) ^ ((at_ - z.til) / fade).toNat
def ptOf (m at_ fade : Int) (z : Iv) : Int := if z.id = m ∧ z.til ≤ at_ then ptZ at_ fade z else 0
def ptsL (m at_ fade : Int) : List Iv → Int
  | [] => 0
  | z :: r => ptOf m at_ fade z + ptsL m at_ fade r
theorem ptsL_append (m at_ fade : Int) : ∀ (a b : List Iv), ptsL m at_ fade (a ++ b) = ptsL m at_ fade a + ptsL m at_ fade b := by
  intro a
  induction a with
  | nil => intro b; simp [ptsL]
  | cons z r ih => intro b; simp [ptsL, ih]; omega
theorem ptsL_step {m at_ fade : Int} {xs : List Iv} {k : Nat} {z : Iv} (h : xs[k]? = some z) : ptsL m at_ fade (xs.take (k + 1)) = ptsL m at_ fade (xs.take k) + ptOf m at_ fade z := by
  rw [takeX h, ptsL_append]; simp [ptsL]
theorem half_step (p : Int) (m : Nat) : (p / 2) / (2 : Int) ^ m = p / (2 : Int) ^ (m + 1) := by
  rw [Int.pow_succ, Int.mul_comm, Int.ediv_ediv_of_nonneg (by omega)]
theorem pt_bd {at_ fade : Int} {z : Iv} (h : skB z = true) : 0 ≤ ptZ at_ fade z ∧ ptZ at_ fade z ≤ 4 := by
  simp [skB] at h
  have hk : z.byy.toNat ≤ 2 := by omega
  have h1 : (1 : Int) ≤ (2 : Int) ^ z.byy.toNat ∧ (2 : Int) ^ z.byy.toNat ≤ 4 := by
    rcases (show z.byy.toNat = 0 ∨ z.byy.toNat = 1 ∨ z.byy.toNat = 2 by omega) with e | e | e <;> rw [e] <;> decide
  have hp : (0 : Int) < (2 : Int) ^ ((at_ - z.til) / fade).toNat := Int.pow_pos (by omega)
  unfold ptZ
  refine ⟨Int.ediv_nonneg (by omega) (by omega), ?_⟩
  have := Int.ediv_le_self (b := (2 : Int) ^ ((at_ - z.til) / fade).toNat) (show (0 : Int) ≤ (2 : Int) ^ z.byy.toNat by omega)
  omega
theorem pts_bd {m at_ fade : Int} : ∀ (xs : List Iv), (∀ z ∈ xs, skB z = true) → 0 ≤ ptsL m at_ fade xs ∧ ptsL m at_ fade xs ≤ 4 * xs.length := by
  intro xs
  induction xs with
  | nil => intro _; simp [ptsL]
  | cons z r ih =>
    intro h
    have h1 := ih (fun y hy => h y (List.mem_cons_of_mem _ hy))
    have h2 := pt_bd (at_ := at_) (fade := fade) (h z List.mem_cons_self)
    have h3 : 0 ≤ ptOf m at_ fade z ∧ ptOf m at_ fade z ≤ 4 := by unfold ptOf; split <;> omega
    simp only [ptsL, List.length_cons]
    omega
theorem chG_all {α : Type} {ok : α → Bool} {fol : α → α → Bool} : ∀ (xs : List α) (p : Option α), chG ok fol p xs = true → ∀ x ∈ xs, ok x = true := by
  intro xs
  induction xs with
  | nil => intro _ _ x hx; cases hx
  | cons y r ih =>
    intro p h x hx
    rw [chG] at h
    simp at h
    rcases List.mem_cons.1 hx with e | hx
    · subst e; have := h.1; unfold lnkG at this; simp at this; exact this.1
    · exact ih _ h.2 x hx
theorem strikes_ok {xs : List Iv} (h : strikesB xs = true) : xs.length ≤ 64 ∧ ∀ z ∈ xs, skB z = true := by
  unfold strikesB rowG at h
  simp at h
  exact ⟨h.1, chG_all _ _ h.2⟩
end Go.Proofs.Ytmdoddikaaaamaa
