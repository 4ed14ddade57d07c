import Derived.Test.YtdpclbmcmgknjabDoorChecked
import Derived.WalkKit
import Derived.ProofKit
import Derived.OpenShut
import Derived.ShutString
import Derived.ChangeOld
import Derived.Below
import Derived.Lib.Hide
import Derived.Lib.Join
import Derived.Test.YtdpclbmcmgknjabDoorZIsVal
import Derived.Test.YtdpclbmcmgknjabDoorZDecQ
import Derived.Test.YtdpclbmcmgknjabDoorShelfJ
import Derived.Test.YtdpclbmcmgknjabDoorJr
namespace Go.Proofs.YtdpclbmcmgknjabDoor
open Go.ChangeShapes Go.WideShapes Go.ChangeAt Go.RowKit
open Go.ChangeMaps (open_string shut_string)
set_option linter.unusedVariables false
abbrev strw : ByteArray → Value := Value.string
def ds (n : Int) : ByteArray := strOfNums (decL n)
theorem ds_list (n : Int) : (ds n).data.toList = Lib.itoa n := by rw [ds, decL_str]
theorem ds_size (n : Int) (h0 : -1000000000 ≤ n) (h1 : n ≤ 1000000000) : (ds n).size ≤ 11 := by
  have := itoa_len n h0 h1
  have e : (ds n).size = (Lib.itoa n).length := by rw [← ds_list]; simp
  omega
/-- the text as the model builds it: the first number, and for each further one a comma and the number -/
def ltStep (a : ByteArray) (n : Int) : ByteArray := a ++ (⟨#[44]⟩ ++ ds n)
def ltTo (xs : List Int) (k : Nat) : ByteArray := match xs with
  | [] => ⟨#[]⟩
  | x :: r => (r.take k).foldl ltStep (ds x)
theorem ltTo_succ (x : Int) (r : List Int) (k : Nat) (y : Int) (h : r[k]? = some y) : ltTo (x :: r) (k + 1) = ltStep (ltTo (x :: r) k) y := by
  have hk : k < r.length := (List.getElem?_eq_some_iff.1 h).1
  have hp : r[k] = y := (List.getElem?_eq_some_iff.1 h).2
  simp [ltTo, List.take_succ_eq_append_getElem hk, hp]
def SmallL (xs : List Int) : Prop := ∀ x ∈ xs, -1000000000 ≤ x ∧ x ≤ 1000000000
theorem ltTo_size (x : Int) (r : List Int) (hs : SmallL (x :: r)) (k : Nat) (h : k ≤ r.length) : (ltTo (x :: r) k).size ≤ 12 * k + 11 := by
  induction k with
  | zero =>
    have := hs x (by simp)
    have := ds_size x this.1 this.2
    simpa [ltTo] using this
  | succ k ih =>
    have hy := hs (r[k]'(by omega)) (by simp)
    have h2 := ds_size _ hy.1 hy.2
    have h1 := ih (by omega)
    rw [ltTo_succ x r k r[k] (List.getElem?_eq_getElem (by omega)), ltStep, ByteArray.size_append, ByteArray.size_append]
    have : (⟨#[44]⟩ : ByteArray).size = 1 := rfl
    omega
theorem fold_lt (r : List Int) : ∀ a : ByteArray, (r.foldl ltStep a).data.toList = a.data.toList ++ (r.map fun n => 44 :: Lib.itoa n).flatten := by
  induction r with
  | nil => intro a; simp
  | cons y r ih =>
    intro a
    rw [List.foldl_cons, ih]
    have e : (ltStep a y).data.toList = a.data.toList ++ 44 :: Lib.itoa y := by
      rw [← ds_list, ltStep]
      simp
    rw [e]
    simp
theorem lt_join (x : Int) (r : List Int) : (⟨(Lib.join (((x :: r).map ds).map (·.data.toList)) [44]).toArray⟩ : ByteArray) = ltTo (x :: r) r.length := by
  have ext : ∀ a b : ByteArray, a.data = b.data → a = b := fun a b h => by cases a; cases b; simp_all
  apply ext
  apply Array.ext'
  have h1 : (ltTo (x :: r) r.length).data.toList = Lib.itoa x ++ (r.map fun n => 44 :: Lib.itoa n).flatten := by
    show ((r.take r.length).foldl ltStep (ds x)).data.toList = _
    rw [List.take_length, fold_lt, ds_list]
  have h2 : ((x :: r).map ds).map (·.data.toList) = Lib.itoa x :: r.map Lib.itoa := by
    rw [List.map_map, List.map_cons]
    congr 1
    · exact ds_list x
    · exact List.map_congr_left fun n _ => ds_list n
  rw [h1, h2, Lib.join_cons, Lib.joinTail, List.map_map]
  rfl
end Go.Proofs.YtdpclbmcmgknjabDoor
