import Derived.Test.YtgomffcdoglbfaaChecked
import Derived.WalkKit
import Derived.ProofKit
import Derived.OpenShut
import Derived.ShutString
import Derived.ChangeOld
import Derived.Below
import Derived.Lib.Hide
import Derived.Lib.SmallJoins
import Derived.ChangeArms
import Derived.Test.YtgomffcdoglbfaaZPresT
import Derived.Test.YtgomffcdoglbfaaZRoomA
namespace Go.Proofs.Ytgomffcdoglbfaa
open Go.ChangeShapes Go.WideShapes Go.ChangeAt Go.RowKit
open Go.ChangeMaps (open_string shut_string)
set_option linter.unusedVariables false
open Go.Joins Go.Deep
set_option maxRecDepth 100000
set_option maxHeartbeats 800000 in
theorem open_presence {H : Type} {enc : TypeId × Value → H} {w : World} {base : Nat} {spare : Nat → Bool} {held : Bool} {r : Reach} {b0 : Nat} {v : Value} {d : DataW H} {p : List MemPlace} (hv : Value.okWide Try.prog w r b0 25 v) (h : DataW.Trod enc Try.prog w base spare held 25 v d p) :
    ∃ (A1 : Option Addr) (n1 c1 : Nat) (A2 : Option Addr) (n2 c2 : Nat) (A3 : Option Addr) (n3 c3 : Nat) (hs ts ks : List Bn), v = .agg #[.slice A1 n1 c1, .slice A2 n2 c2, .slice A3 n3 c3] ∧
      PresAt w w.heap.size A1 n1 A2 n2 A3 n3 hs ts ks ∧ (n1 ≤ maxLen ∧ n2 ≤ maxLen ∧ n3 ≤ maxLen) := by
  obtain ⟨v1, v2, v3, y1, y2, y3, n, rfl, _, _, t1, t2, t3⟩ := open_agg3 Try.underlying25 (by kernel_rfl) (by kernel_rfl) hv h
  have b1 := slice_small Try.underlying22 t1
  have b2 := slice_small Try.underlying22 t2
  have b3 := slice_small Try.underlying23 t3
  obtain ⟨A1, n1, c1, hs, rfl, h1⟩ := open_bns Try.underlying22 Try.underlying122 (by kernel_rfl) (by kernel_rfl) Try.underlying2 Try.underlying2 t1
  obtain ⟨A2, n2, c2, ts, rfl, h2⟩ := open_bns Try.underlying22 Try.underlying122 (by kernel_rfl) (by kernel_rfl) Try.underlying2 Try.underlying2 t2
  obtain ⟨A3, n3, c3, ks, rfl, h3⟩ := open_bns Try.underlying23 Try.underlying124 (by kernel_rfl) (by kernel_rfl) Try.underlying2 Try.underlying2 t3
  exact ⟨A1, n1, c1, A2, n2, c2, A3, n3, c3, hs, ts, ks, rfl, ⟨h1, h2, h3⟩, b1 _ _ _ rfl, b2 _ _ _ rfl, b3 _ _ _ rfl⟩
end Go.Proofs.Ytgomffcdoglbfaa
