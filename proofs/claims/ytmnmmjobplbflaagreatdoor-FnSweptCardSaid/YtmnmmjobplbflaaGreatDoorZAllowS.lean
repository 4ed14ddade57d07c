import Derived.Test.YtmnmmjobplbflaaGreatDoorChecked
import Derived.WalkKit
import Derived.ProofKit
import Derived.OpenShut
import Derived.ShutString
import Derived.ChangeOld
import Derived.Below
import Derived.Lib.Hide
import Derived.Deep.QuietTactic
import Derived.BigQuiet
import Derived.BigGuardPart
import Derived.Test.YtmnmmjobplbflaaGreatDoorJh
import Derived.Test.YtmnmmjobplbflaaGreatDoorZMayC
import Derived.Test.YtmnmmjobplbflaaGreatDoorZIsRoomC
namespace Go.Proofs.YtmnmmjobplbflaaGreatDoor
open Go.ChangeShapes Go.WideShapes Go.ChangeAt Go.RowKit
open Go.ChangeMaps (open_string shut_string)
set_option linter.unusedVariables false
set_option maxRecDepth 100000
theorem find_at {ms : List Mb} {K : Nat} {t : Int} (hK : (mids ms)[K]? = some t) (hf : NotIn (mids ms) t K) : ∃ m, ms[K]? = some m ∧ findM ms t = some m ∧ m.id = t := by
  simp only [mids, List.getElem?_map, Option.map_eq_some_iff] at hK
  obtain ⟨m, hm, hid⟩ := hK
  refine ⟨m, hm, ?_, hid⟩
  obtain ⟨hlt, he⟩ := List.getElem?_eq_some_iff.1 hm
  unfold findM
  rw [List.find?_eq_some_iff_getElem]
  refine ⟨by simpa using hid, K, hlt, he, fun j hj => ?_⟩
  have := hf j (ms[j].id) hj (by simp [mids, List.getElem?_eq_getElem (show j < ms.length by omega)])
  simpa using this
theorem allow_none {ms : List Mb} {t a at_ : Int} (h : findM ms t = none) : allowB ms t a at_ = false := by simp [allowB, h]
theorem allow_some {ms : List Mb} {t a at_ : Int} {m : Mb} (h : findM ms t = some m) (ht : tickB at_ = true) : allowB ms t a at_ = (mayB m.role a && (decide (m.quiet ≤ at_) || decide (a = 0))) := by simp [allowB, h, ht]
end Go.Proofs.YtmnmmjobplbflaaGreatDoor
