import Derived.Test.YteeodjbionjlmaaChecked
import Derived.WalkKit
import Derived.ProofKit
import Derived.OpenShut
import Derived.ShutString
import Derived.ChangeOld
import Derived.Below
import Derived.Lib.Hide
import Derived.Deep.MidRow
import Derived.Test.YteeodjbionjlmaaSRow
namespace Go.Proofs.Yteeodjbionjlmaa
open Go.ChangeShapes Go.WideShapes Go.ChangeAt Go.RowKit
open Go.ChangeMaps (open_string shut_string)
set_option linter.unusedVariables false
set_option maxRecDepth 100000
theorem grown_tr {w w1 w2 : World} {row : Option Nat} (h1 : w.grownBy w1 row) (h2 : w1.grownBy w2 row) : w.grownBy w2 row :=
  ⟨h2.os.trans h1.os, h2.tape.trans h1.tape, h2.output.trans h1.output, Nat.le_trans h1.size h2.size, fun k hk hne => (h2.block k (Nat.lt_of_lt_of_le hk h1.size) hne).trans (h1.block k hk hne)⟩
/-- cells of an own row set one after another -/
theorem own_setCells {base e size n cap g : Nat} : ∀ (vs : List Value) (o : Nat) (w : World) (pre tail : List Value), w.ownsRow base e size (.slice (some ⟨g, 0, none⟩) n cap) n (pre ++ tail) → pre.length = o → vs.length ≤ tail.length →
    (w.setCells g o vs).ownsRow base e size (.slice (some ⟨g, 0, none⟩) n cap) n (pre ++ (vs ++ tail.drop vs.length)) ∧ w.grownBy (w.setCells g o vs) (some g) := by
  intro vs
  induction vs with
  | nil =>
    intro o w pre tail h hp hv
    exact ⟨by simpa [World.setCells] using h, World.grownBy.refl _ _⟩
  | cons v r ih =>
    intro o w pre tail h hp hv
    cases tail with
    | nil => simp at hv
    | cons x t =>
      have h1 := h.stored o v
      rw [List.set_append_right _ _ (by omega), hp, Nat.sub_self, List.set_cons_zero, ← List.singleton_append, ← List.append_assoc] at h1
      have h2 := ih (o + 1) (w.setCell ⟨g, o, none⟩ v) (pre ++ [v]) t h1.1 (by simp [hp]) (by simpa using hv)
      rw [World.setCells]
      refine ⟨?_, grown_tr h1.2 h2.2⟩
      have := h2.1
      simpa using this
theorem own_there {w : World} {base e size n cap g : Nat} {xs : List Value} (h : w.ownsRow base e size (.slice (some ⟨g, 0, none⟩) n cap) n xs) (o m : Nat) (hm : o + m ≤ n * size) : w.there g o m := fun j hj => by
  refine ⟨?_, h.frozenAt _⟩
  rw [h.cellAt _ (by omega), List.getElem?_eq_getElem (by rw [h.1]; omega)]
  rfl
theorem take_flat {α : Type} {f : α → List Value} {xs : List α} {k : Nat} {z : α} (hz : xs[k]? = some z) : (xs.take (k + 1)).flatMap f = (xs.take k).flatMap f ++ f z := by
  rw [take_some hz, List.flatMap_append]
  simp
theorem own_next {α : Type} {f : α → List Value} {sz : Nat} (hf : ∀ x, (f x).length = sz) {w : World} {base e n cap g k : Nat} {xs : List α} {z : α} {tail : List Value} (hz : xs[k]? = some z) (hk : k < n)
    (h : w.ownsRow base e sz (.slice (some ⟨g, 0, none⟩) n cap) n ((xs.take k).flatMap f ++ tail)) (hkl : k ≤ xs.length) :
    (w.setCells g (k * sz) (f z)).ownsRow base e sz (.slice (some ⟨g, 0, none⟩) n cap) n ((xs.take (k + 1)).flatMap f ++ tail.drop sz) ∧ w.grownBy (w.setCells g (k * sz) (f z)) (some g) := by
  have hp : ((xs.take k).flatMap f).length = k * sz := by rw [flat_len hf, List.length_take]; congr 1; omega
  have hl := h.1
  rw [List.length_append, hp] at hl
  have hs : (k + 1) * sz ≤ n * sz := Nat.mul_le_mul_right _ hk
  rw [Nat.add_mul] at hs
  have := own_setCells (f z) (k * sz) w _ tail h hp (by rw [hf]; omega)
  rw [hf] at this
  rw [take_flat hz]
  rw [← List.append_assoc] at this
  exact this
theorem own_next' {α : Type} {f : α → List Value} {sz : Nat} (hf : ∀ x, (f x).length = sz) (vs : List Value) {w : World} {base e n cap g k : Nat} {xs : List α} {z : α} {tail : List Value} (hz : xs[k]? = some z) (hvs : f z = vs) (hk : k < n)
    (h : w.ownsRow base e sz (.slice (some ⟨g, 0, none⟩) n cap) n ((xs.take k).flatMap f ++ tail)) (hkl : k ≤ xs.length) :
    (w.setCells g (k * sz) vs).ownsRow base e sz (.slice (some ⟨g, 0, none⟩) n cap) n ((xs.take (k + 1)).flatMap f ++ tail.drop sz) ∧ w.grownBy (w.setCells g (k * sz) vs) (some g) := by
  subst hvs; exact own_next hf hz hk h hkl
theorem own_full {α : Type} {f : α → List Value} {sz : Nat} (hf : ∀ x, (f x).length = sz) {w : World} {base e n cap g : Nat} {xs : List α} {tail : List Value} (hn : xs.length = n)
    (h : w.ownsRow base e sz (.slice (some ⟨g, 0, none⟩) n cap) n ((xs.take n).flatMap f ++ tail)) : w.ownsRow base e sz (.slice (some ⟨g, 0, none⟩) n cap) n (xs.flatMap f) := by
  have hl := h.1
  rw [List.take_of_length_le (by omega), List.length_append, flat_len hf, hn] at hl
  have : tail = [] := List.eq_nil_of_length_eq_zero (by omega)
  subst this
  rw [List.take_of_length_le (by omega), List.append_nil] at h
  exact h
end Go.Proofs.Yteeodjbionjlmaa
