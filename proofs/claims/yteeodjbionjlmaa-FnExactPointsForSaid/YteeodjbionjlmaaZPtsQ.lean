import Derived.Test.YteeodjbionjlmaaZMsgP
namespace Go.Proofs.Yteeodjbionjlmaa
set_option linter.unusedVariables false
/-- the points of a message with so many hits -/
def pntsR (m : Mg) (hits : Nat) (t : Int) : Int := if hits = 0 then 0 else max 0 (10 * (hits : Int) + 5 * (m.likes.length : Int) - (t - m.tick).tdiv 100)
end Go.Proofs.Yteeodjbionjlmaa
