import Derived.Test.YtmdoddikaaaamabChecked
import Derived.WalkKit
import Derived.ProofKit
import Derived.OpenShut
import Derived.ShutString
import Derived.ChangeOld
import Derived.Below
import Derived.Lib.Hide
import Derived.Deep.QuietTactic
import Derived.BigQuiet
import Derived.Lib.MinMax
import Derived.Test.YtmdoddikaaaamabZBktT
import Derived.Test.YtmdoddikaaaamabZBktS
namespace Go.Proofs.Ytmdoddikaaaamab
open Go.ChangeShapes Go.WideShapes Go.ChangeAt Go.RowKit
open Go.ChangeMaps (open_string shut_string)
set_option linter.unusedVariables false
set_option maxRecDepth 100000
theorem take_hi {b : Bk} {count at_ : Int} (h : ¬ leftB b at_ < count) (h2 : leftB b at_ ≠ b.sz) : takeB b count at_ = ⟨b.sz, b.ev, leftB b at_ - count, b.tm + (at_ - b.tm) / b.ev * b.ev⟩ := by unfold takeB; rw [if_neg h, if_neg h2]
theorem mul_le (x e : Int) (hx : 0 ≤ x ∧ x ≤ 1000000) (he : 1 ≤ e) : 0 ≤ x / e * e ∧ x / e * e ≤ x := by
  have h1 := Int.emod_add_mul_ediv x e
  have h2 := Int.emod_nonneg x (show e ≠ 0 by omega)
  have h3 := Int.emod_lt_of_pos x (show 0 < e by omega)
  have h4 : 0 ≤ x / e := Int.ediv_nonneg hx.1 (by omega)
  have h5 : 0 ≤ x / e * e := Int.mul_nonneg h4 (by omega)
  rw [Int.mul_comm] at h1
  omega
theorem grown_drewN (w : World) (q : Nat) (r : Option Nat) : w.grownBy (w.drewN q) r := ⟨rfl, rfl, rfl, Nat.le_refl _, fun _ _ _ => rfl⟩
theorem gset {w W : World} {g : Nat} (h : w.grownBy W (some g)) (i : Nat) (v : Value) : w.grownBy (W.setCell ⟨g, i, none⟩ v) (some g) :=
  h.trans ⟨rfl, rfl, rfl, by simp, fun k hk hne => Below.heap_setCell W _ v k (fun e => hne (by rw [e]))⟩
end Go.Proofs.Ytmdoddikaaaamab
