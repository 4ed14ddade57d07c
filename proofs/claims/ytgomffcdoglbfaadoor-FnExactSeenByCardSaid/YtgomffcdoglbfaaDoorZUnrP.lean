import Derived.Test.YtgomffcdoglbfaaDoorZSeenP
import Derived.Test.YtgomffcdoglbfaaDoorZPresQ
namespace Go.Proofs.YtgomffcdoglbfaaDoor
set_option linter.unusedVariables false
/-- what a member has not read -/
def unrB (mk t : Int) (m : Mg) : Bool := decide (mk < m.num) && !m.gone && !decide (m.sdr = t)
theorem pick_len_le (p : Mg → Bool) (ms : List Mg) : (pickL p ms).length ≤ ms.length := by unfold pickL; rw [List.length_map]; exact List.length_filter_le _ _
end Go.Proofs.YtgomffcdoglbfaaDoor
