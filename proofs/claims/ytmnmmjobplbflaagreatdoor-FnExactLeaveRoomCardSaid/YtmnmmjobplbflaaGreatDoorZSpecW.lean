import Derived.Test.YtmnmmjobplbflaaGreatDoorChecked
import Derived.WalkKit
import Derived.ProofKit
import Derived.OpenShut
import Derived.ShutString
import Derived.ChangeOld
import Derived.Below
import Derived.Lib.Hide
import Derived.Test.YtmnmmjobplbflaaGreatDoorZSpecA
import Derived.Test.YtmnmmjobplbflaaGreatDoorZHushP
namespace Go.Proofs.YtmnmmjobplbflaaGreatDoor
open Go.ChangeShapes Go.WideShapes Go.ChangeAt Go.RowKit
open Go.ChangeMaps (open_string shut_string)
set_option linter.unusedVariables false
set_option maxRecDepth 100000
theorem OutAt.stored {w : World} {Q e1 e2 e3 g1 d1 : Nat} {o : Bool} {v2 v3 : Value} {l1 l2 l3 : Nat} {ms : List Mb} {vs : List Iv} {bs : List Bn} (h : OutAt w Q e1 e2 e3 o (.slice (some ⟨g1, 0, none⟩) l1 d1) v2 v3 l1 l2 l3 ms vs bs) {k i : Nat} {z z' : Mb} {u : Value} (hz : ms[k]? = some z) (hi : i < 4) (hu : mbC z' = (mbC z).set i u) :
    OutAt (w.setCell ⟨g1, k * 4 + i, none⟩ u) Q e1 e2 e3 o (.slice (some ⟨g1, 0, none⟩) l1 d1) v2 v3 l1 l2 l3 (ms.set k z') vs bs := by
  have st := h.2.1.stored (k * 4 + i) u
  rw [flat_set mbC_len ms k z z' i u hz hi hu] at st
  have nq : some Q ≠ some g1 := blk_apart h.1 h.2.1 (by decide)
  exact ⟨h.1.far (p := ⟨g1, k * 4 + i, none⟩) (fun e => nq (by rw [e])) u, st.1, h.2.2.1.kept st.2 (own_types2 h.2.2.1 h.2.1 (by decide)), h.2.2.2.kept st.2 (own_types2 h.2.2.2 h.2.1 (by decide))⟩
end Go.Proofs.YtmnmmjobplbflaaGreatDoor
