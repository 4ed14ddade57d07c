import Derived.Test.YtdpclbmcmgknjaaChecked
import Derived.WalkKit
import Derived.ProofKit
import Derived.OpenShut
import Derived.ShutString
import Derived.ChangeOld
import Derived.Below
import Derived.Lib.Hide
import Derived.Test.YtdpclbmcmgknjaaMsgR
namespace Go.Proofs.Ytdpclbmcmgknjaa
open Go.ChangeShapes Go.WideShapes Go.ChangeAt Go.RowKit
open Go.ChangeMaps (open_string shut_string)
set_option linter.unusedVariables false
set_option maxRecDepth 100000
def mcost (m : Mg) : Int := 24 + (m.text.size : Int) + 2 * (m.likes.length : Int)
def sumC (ms : List Mg) : Int := (ms.map mcost).sum
def logC (ms : List Mg) : Int := 10 + sumC ms
theorem takeM {ms : List Mg} {k : Nat} {z : Mg} (h : ms[k]? = some z) : ms.take (k + 1) = ms.take k ++ [z] := by rw [List.take_add_one, h]; rfl
theorem sumC_step {ms : List Mg} {k : Nat} {z : Mg} (h : ms[k]? = some z) : sumC (ms.take (k + 1)) = sumC (ms.take k) + mcost z := by
  rw [takeM h]; simp [sumC]
theorem mcost_bd {ms : List Mg} {z : Mg} (hf : fitL ms) (h : z ∈ ms) : 0 ≤ mcost z ∧ mcost z ≤ 4000000 := by
  have := hf.2 z h
  unfold mcost; omega
theorem sumC_bd {ms : List Mg} (hf : fitL ms) : ∀ k : Nat, 0 ≤ sumC (ms.take k) ∧ sumC (ms.take k) ≤ 4000000 * (k : Int) := by
  intro k
  induction k with
  | zero => simp [sumC]
  | succ k ih =>
    cases h : ms[k]? with
    | none =>
      have hl : ms.length ≤ k := List.getElem?_eq_none_iff.1 h
      rw [List.take_of_length_le (by omega)]
      rw [List.take_of_length_le hl] at ih
      omega
    | some z =>
      rw [sumC_step h]
      have := mcost_bd hf (List.mem_of_getElem? h)
      omega
end Go.Proofs.Ytdpclbmcmgknjaa
