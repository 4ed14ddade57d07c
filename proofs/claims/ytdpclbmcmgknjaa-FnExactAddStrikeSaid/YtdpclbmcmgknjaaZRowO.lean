import Derived.Test.YtdpclbmcmgknjaaChecked
import Derived.WalkKit
import Derived.ProofKit
import Derived.OpenShut
import Derived.ShutString
import Derived.ChangeOld
import Derived.Below
import Derived.Lib.Hide
import Derived.Test.YtdpclbmcmgknjaaZStrA
import Derived.Test.YtdpclbmcmgknjaaZCloneC
import Derived.Test.YtdpclbmcmgknjaaZMkT
import Derived.Test.YtdpclbmcmgknjaaZEqT
import Derived.Test.YtdpclbmcmgknjaaZMoveS
namespace Go.Proofs.Ytdpclbmcmgknjaa
open Go.ChangeShapes Go.WideShapes Go.ChangeAt Go.RowKit
open Go.ChangeMaps (open_string shut_string)
set_option linter.unusedVariables false
set_option maxRecDepth 100000
def StrOut (r : Bool) (zs : List Iv) (w : World) (e : Ending) (w' : World) : Prop := ∃ A n c, e = .returned (.tuple #[.slice A n c, .bool r]) ∧ w'.ownsRow w.heap.size 50 3 (.slice A n c) n (zs.flatMap ivC) ∧ Below w.heap.size w w'
theorem strout_no {w w' : World} (hb : Below w.heap.size w w') : StrOut false [] w (.returned (.tuple #[.slice none 0 0, .bool false])) w' := ⟨none, 0, 0, rfl, World.ownsRow_nil _ _ _ _, hb⟩
def NumOut (r : Bool) (zs : List Int) (w : World) (e : Ending) (w' : World) : Prop := ∃ A n c, e = .returned (.tuple #[.slice A n c, .bool r]) ∧ w'.ownsRow w.heap.size 2 1 (.slice A n c) n (zs.map i64v) ∧ Below w.heap.size w w'
theorem numout_no {w w' : World} (hb : Below w.heap.size w w') : NumOut false [] w (.returned (.tuple #[.slice none 0 0, .bool false])) w' := ⟨none, 0, 0, rfl, World.ownsRow_nil _ _ _ _, hb⟩
theorem eqInt64S_below (A A' : Option Addr) (n c n' c' : Nat) (xs : List Int) (w : World) (h : Row i64v w w.heap.size A n xs) (h' : Row i64v w w.heap.size A' n' xs) (hn : n ≤ 1048576) :
    Calls Try.prog 36 #[.slice A n c, .slice A' n' c'] w fun e w' => e = .returned (.bool true) ∧ Below w.heap.size w w' := by
  obtain rfl : n' = n := by rw [← h.1, ← h'.1]
  refine (eqInt64S_same _ _ _ _ _ _ _ _ _ h h' (by omega)).mono ?_
  rintro e w' ⟨rfl, hq⟩
  exact ⟨rfl, drew_below hq⟩
end Go.Proofs.Ytdpclbmcmgknjaa
