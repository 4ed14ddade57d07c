import Derived.Test.YtmdoddikaaaamaaChecked
import Derived.WalkKit
import Derived.ProofKit
import Derived.OpenShut
import Derived.ShutString
import Derived.ChangeOld
import Derived.Below
import Derived.Lib.Hide
import Derived.Test.YtmdoddikaaaamaaZPtsP
namespace Go.Proofs.Ytmdoddikaaaamaa
open Go.ChangeShapes Go.WideShapes Go.ChangeAt Go.RowKit
open Go.ChangeMaps (open_string shut_string)
set_option linter.unusedVariables false
set_option maxRecDepth 100000
def ptsOk (mem at_ fade : Int) (xs : List Iv) : Bool := strikesB xs && (idB mem && (tickB at_ && spanB fade))
def ptsR (mem at_ fade : Int) (xs : List Iv) : Int := if ptsOk mem at_ fade xs = true then ptsL mem at_ fade xs else 0
theorem ptsOk_no {mem at_ fade : Int} {xs : List Iv} (h : ptsOk mem at_ fade xs = false) : ptsR mem at_ fade xs = 0 := by unfold ptsR; rw [h]; rfl
theorem ptsOk_yes {mem at_ fade : Int} {xs : List Iv} (h : ptsOk mem at_ fade xs = true) : ptsR mem at_ fade xs = ptsL mem at_ fade xs := by unfold ptsR; rw [h]; rfl
theorem ptsOk_off {mem at_ fade : Int} {xs : List Iv} (h : (strikesB xs && (tickB at_ && spanB fade)) = false) : ptsOk mem at_ fade xs = false := by
  unfold ptsOk
  cases h1 : strikesB xs <;> cases h2 : tickB at_ <;> cases h3 : spanB fade <;> simp_all
theorem ptsOk_out {mem at_ fade : Int} {xs : List Iv} (h : idB mem = false) : ptsOk mem at_ fade xs = false := by unfold ptsOk; rw [h]; simp
theorem ptsOk_on {mem at_ fade : Int} {xs : List Iv} (h : (strikesB xs && (tickB at_ && spanB fade)) = true) (hm : idB mem = true) : ptsOk mem at_ fade xs = true := by
  unfold ptsOk
  cases h1 : strikesB xs <;> cases h2 : tickB at_ <;> cases h3 : spanB fade <;> simp_all
theorem pts_ret {mem at_ fade : Int} {xs : List Iv} {r : Int} {b : Bool} (hb : ptsOk mem at_ fade xs = b) (hr : ptsR mem at_ fade xs = r) :
    (Ending.returned (.tuple #[.int .i64 r, .bool b])) = Ending.returned (.tuple #[.int .i64 (ptsR mem at_ fade xs), .bool (ptsOk mem at_ fade xs)]) := by rw [hb, hr]
end Go.Proofs.Ytmdoddikaaaamaa
