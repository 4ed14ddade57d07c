import Derived.Test.YtmdoddikaaaamaaChecked
import Derived.WalkKit
import Derived.ProofKit
import Derived.OpenShut
import Derived.ShutString
import Derived.ChangeOld
import Derived.Below
import Derived.Lib.Hide
import Derived.WalkSpells
import Derived.WalkLawsBesides
import Derived.Test.YtmdoddikaaaamaaStrs2
import Derived.Test.YtmdoddikaaaamaaPlain10
import Derived.Test.YtmdoddikaaaamaaIsTextC
import Derived.Test.YtmdoddikaaaamaaShapeS
namespace Go.Proofs.Ytmdoddikaaaamaa
open Go.ChangeShapes Go.WideShapes Go.ChangeAt Go.RowKit
open Go.ChangeMaps (open_string shut_string)
set_option linter.unusedVariables false
theorem strOfNums_snoc (l : List Int) (c : Int) : strOfNums l ++ strOfNums [c] = strOfNums (l ++ [c]) := by
  have : ∀ a b : ByteArray, a.data = b.data → a = b := fun a b h => by cases a; cases b; simp_all
  apply this
  simp [strOfNums]
def wordsL (s : ByteArray) : List ByteArray := (wTo s (s.size + 1)).1.map strOfNums
def wRow (st : WSt) : List Value := (st.1.map strOfNums).map strv
theorem wRow_put (done : List (List Int)) (cur c : List Int) : wRow (done ++ [c], []) = wRow (done, cur) ++ [.string (strOfNums c)] := by simp [wRow, strv]
def WYes (w : World) (zs : List ByteArray) (e : Ending) (w' : World) : Prop :=
  ∃ A m c, e = .returned (.tuple #[.slice A m c, .bool true]) ∧ w'.ownsRow w.heap.size 9 1 (.slice A m c) m (zs.map strv) ∧ Below w.heap.size w w'
theorem textB_size {s : ByteArray} (h : textB s = true) : s.size ≤ 80 := by
  unfold textB at h
  rw [Bool.and_eq_true, decide_eq_true_eq] at h
  exact h.1
theorem textB_at {s : ByteArray} (h : textB s = true) (k : Nat) (hk : k < s.size) : 32 ≤ (s[k].toNat : Int) ∧ (s[k].toNat : Int) ≤ 126 := by
  unfold textB at h
  rw [Bool.and_eq_true, List.all_eq_true] at h
  have := h.2 s[k] (by simp [ByteArray.getElem_eq_getElem_data])
  simp [textC, UInt8.le_iff_toNat_le] at this
  omega
end Go.Proofs.Ytmdoddikaaaamaa
