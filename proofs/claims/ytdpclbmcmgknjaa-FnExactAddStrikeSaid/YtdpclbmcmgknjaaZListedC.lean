import Derived.Test.YtdpclbmcmgknjaaChecked
import Derived.WalkKit
import Derived.ProofKit
import Derived.OpenShut
import Derived.ShutString
import Derived.ChangeOld
import Derived.Below
import Derived.Lib.Hide
import Derived.Deep.Onto
import Derived.Lib.SmallJoins
import Derived.Test.YtdpclbmcmgknjaaZSoundC
namespace Go.Proofs.Ytdpclbmcmgknjaa
open Go.ChangeShapes Go.WideShapes Go.ChangeAt Go.RowKit
open Go.ChangeMaps (open_string shut_string)
set_option linter.unusedVariables false
set_option maxRecDepth 100000
theorem all_at {α : Type} {f : α → Bool} {xs : List α} {k : Nat} (h : ∀ z ∈ xs.take k, f z = true) (hk : xs.length ≤ k) : xs.all f = true := by
  rw [List.take_of_length_le hk] at h
  exact List.all_eq_true.2 h
theorem all_bad {α : Type} {f : α → Bool} {xs : List α} {k : Nat} {z : α} (hz : xs[k]? = some z) (h : f z = false) : xs.all f = false := by
  rw [← Bool.not_eq_true]; intro H
  have := List.all_eq_true.1 H z (List.mem_of_getElem? hz)
  rw [h] at this; cases this
theorem all_succ {α : Type} {f : α → Bool} {xs : List α} {k : Nat} {z : α} (h : ∀ z ∈ xs.take k, f z = true) (hz : xs[k]? = some z) (hf : f z = true) : ∀ z ∈ xs.take (k + 1), f z = true := by
  intro u hu
  rw [take_some hz, List.mem_append] at hu
  rcases hu with hu | hu
  · exact h u hu
  · simp at hu; subst hu; exact hf
theorem cell_new1 (w : World) (t : TypeId) (v : Value) : ∀ (j : Nat) (u : Value), [v][j]? = some u → (w.alloc (.cells #[v] t)).cell? ((⟨w.heap.size, 0, none⟩ : Addr).add j) = some u := by
  intro j u hu
  have hj : j = 0 := by have := (List.getElem?_eq_some_iff.1 hu).1; simp at this; omega
  subst hj
  simp at hu; subst hu
  have := (Blk.new w t #[v]).cell 0
  first | exact this | simpa [Addr.add] using this
theorem mids_take {xs : List Mb} {k : Nat} {z : Mb} (hz : xs[k]? = some z) : (mids (xs.take (k + 1))).map i64v = (mids (xs.take k)).map i64v ++ [.int .i64 z.id] := by
  simp [mids, take_some hz]
theorem iids_take {xs : List Iv} {k : Nat} {z : Iv} (hz : xs[k]? = some z) : (iids (xs.take (k + 1))).map i64v = (iids (xs.take k)).map i64v ++ [.int .i64 z.id] := by
  simp [iids, take_some hz]
theorem bids_take {xs : List Bn} {k : Nat} {z : Bn} (hz : xs[k]? = some z) : (bids (xs.take (k + 1))).map i64v = (bids (xs.take k)).map i64v ++ [.int .i64 z.id] := by
  simp [bids, take_some hz]
end Go.Proofs.Ytdpclbmcmgknjaa
