import Derived.Test.YteeodjbionjlmaaChecked
import Derived.WalkKit
import Derived.ProofKit
import Derived.OpenShut
import Derived.ShutString
import Derived.ChangeOld
import Derived.Below
import Derived.Lib.Hide
import Derived.Test.YteeodjbionjlmaaZDigestS
import Derived.Test.YteeodjbionjlmaaZDigestI
import Derived.Test.YteeodjbionjlmaaJr
import Derived.Test.YteeodjbionjlmaaZStrs2
import Derived.Test.YteeodjbionjlmaaZWordsI
namespace Go.Proofs.Yteeodjbionjlmaa
open Go.ChangeShapes Go.WideShapes Go.ChangeAt Go.RowKit
open Go.ChangeMaps (open_string shut_string)
set_option linter.unusedVariables false
def dig (s : ByteArray) : ByteArray := strOfNums (digL s)
theorem dig_size (s : ByteArray) : (dig s).size = 32 := by rw [dig, strOfNums_size, digL_len]
def chStep (st : List ByteArray × ByteArray) (p : ByteArray) : List ByteArray × ByteArray := (st.1 ++ [dig (st.2 ++ p)], dig (st.2 ++ p))
def chTo (now : ByteArray) (xs : List ByteArray) (k : Nat) : List ByteArray × ByteArray := (xs.take k).foldl chStep ([], now)
theorem chTo_succ (now : ByteArray) (xs : List ByteArray) (k : Nat) (p : ByteArray) (h : xs[k]? = some p) : chTo now xs (k + 1) = chStep (chTo now xs k) p := by
  have hk : k < xs.length := (List.getElem?_eq_some_iff.1 h).1
  have hp : xs[k] = p := (List.getElem?_eq_some_iff.1 h).2
  simp [chTo, List.take_succ_eq_append_getElem hk, hp]
theorem chTo_len (now : ByteArray) (xs : List ByteArray) (k : Nat) (h : k ≤ xs.length) : (chTo now xs k).1.length = k := by
  induction k with
  | zero => simp [chTo]
  | succ k ih =>
    rw [chTo_succ now xs k xs[k] (List.getElem?_eq_getElem (by omega))]
    simp [chStep, ih (by omega)]
theorem chTo_size (now : ByteArray) (xs : List ByteArray) (hn : now.size = 32) (k : Nat) (h : k ≤ xs.length) : (chTo now xs k).2.size = 32 := by
  cases k with
  | zero => simpa [chTo] using hn
  | succ k =>
    rw [chTo_succ now xs k xs[k] (List.getElem?_eq_getElem (by omega))]
    exact dig_size _
def ChNo (w : World) (e : Ending) (w' : World) : Prop := e = .returned (.tuple #[.slice none 0 0, .bool false]) ∧ Below w.heap.size w w'
/-- the first m parts are short enough, and there is no more, or the next one is too long -/
def ChAt (xs : List ByteArray) (m : Nat) : Prop := m ≤ xs.length ∧ (∀ j p, j < m → xs[j]? = some p → p.size ≤ 3968) ∧ ∀ p, xs[m]? = some p → 3968 < p.size
theorem chAt_ex (xs : List ByteArray) : ∃ m, ChAt xs m := by
  induction xs with
  | nil => exact ⟨0, Nat.le_refl _, fun j p h => by omega, fun p h => by simp at h⟩
  | cons x xs ih =>
    obtain ⟨m, h1, h2, h3⟩ := ih
    by_cases hx : x.size ≤ 3968
    · refine ⟨m + 1, by simpa using h1, ?_, fun p hp => h3 p (by simpa using hp)⟩
      intro j p hj hp
      cases j with
      | zero => simp at hp; subst hp; exact hx
      | succ j => exact h2 j p (by omega) (by simpa using hp)
    · exact ⟨0, Nat.zero_le _, fun j p h => by omega, fun p hp => by simp at hp; subst hp; omega⟩
end Go.Proofs.Yteeodjbionjlmaa
