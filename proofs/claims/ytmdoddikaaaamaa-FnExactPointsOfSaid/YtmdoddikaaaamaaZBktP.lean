import Derived.Test.YtmdoddikaaaamaaChecked
import Derived.WalkKit
import Derived.ProofKit
import Derived.OpenShut
import Derived.ShutString
import Derived.ChangeOld
import Derived.Below
import Derived.Lib.Hide
import Derived.Test.YtmdoddikaaaamaaJp
namespace Go.Proofs.Ytmdoddikaaaamaa
open Go.ChangeShapes Go.WideShapes Go.ChangeAt Go.RowKit
open Go.ChangeMaps (open_string shut_string)
set_option linter.unusedVariables false
set_option maxRecDepth 100000
structure Bk where
  sz : Int
  ev : Int
  lf : Int
  tm : Int
def spanB (n : Int) : Bool := decide (1 ≤ n) && decide (n ≤ 1000000)
def bktB (b : Bk) : Bool := decide (1 ≤ b.sz) && decide (b.sz ≤ 1000) && spanB b.ev && decide (0 ≤ b.lf) && decide (b.lf ≤ b.sz) && tickB b.tm
structure BkOk (b : Bk) : Prop where
  s1 : 1 ≤ b.sz
  s2 : b.sz ≤ 1000
  e1 : 1 ≤ b.ev
  e2 : b.ev ≤ 1000000
  l1 : 0 ≤ b.lf
  l2 : b.lf ≤ b.sz
  t1 : 0 ≤ b.tm
  t2 : b.tm ≤ 1000000
theorem bktB_ok {b : Bk} (h : bktB b = true) : BkOk b := by
  simp [bktB, spanB, tickB] at h
  obtain ⟨⟨⟨⟨⟨h1, h2⟩, h3, h4⟩, h5⟩, h6⟩, h7, h8⟩ := h
  exact ⟨h1, h2, h3, h4, h5, h6, h7, h8⟩
theorem bktB_of {b : Bk} (h : BkOk b) : bktB b = true := by
  simp [bktB, spanB, tickB, h.s1, h.s2, h.e1, h.e2, h.l1, h.l2, h.t1, h.t2]
def bk0 : Bk := ⟨0, 0, 0, 0⟩
/-- how many drops there are at a tick -/
def leftB (b : Bk) (at_ : Int) : Int := min b.sz (b.lf + (at_ - b.tm) / b.ev)
def atB (b : Bk) (at_ : Int) : Bool := decide (b.tm ≤ at_) && decide (at_ ≤ 1000000)
def askB (b : Bk) (count : Int) : Bool := decide (1 ≤ count) && decide (count ≤ b.sz)
/-- the bucket behind a take -/
def takeB (b : Bk) (count at_ : Int) : Bk := if leftB b at_ < count then b else ⟨b.sz, b.ev, leftB b at_ - count, if leftB b at_ = b.sz then at_ else b.tm + (at_ - b.tm) / b.ev * b.ev⟩
def didB (b : Bk) (count at_ : Int) : Bool := decide (count ≤ leftB b at_)
def readyB (b : Bk) (count : Int) : Int := b.tm + (count - b.lf) * b.ev
end Go.Proofs.Ytmdoddikaaaamaa
