import Derived.Test.YtgomffcdoglbfaaDoorZMsgP
namespace Go.Proofs.YtgomffcdoglbfaaDoor
set_option linter.unusedVariables false
/-- who sees a message -/
def seesB (t s : Int) (m : Mg) : Bool := decide (s ≤ m.num) && (!m.gone || decide (m.sdr = t))
def seenL (t s : Int) (ms : List Mg) : List Int := (ms.filter (seesB t s)).map Mg.num
section
variable {t s : Int} {ms : List Mg} {k : Nat} {z : Mg}
theorem seen_yes (hz : ms[k]? = some z) (h : seesB t s z = true) : seenL t s (ms.take (k + 1)) = seenL t s (ms.take k) ++ [z.num] := by
  unfold seenL
  rw [take_get hz]
  simp [h]
theorem seen_no (hz : ms[k]? = some z) (h : seesB t s z = false) : seenL t s (ms.take (k + 1)) = seenL t s (ms.take k) := by
  unfold seenL
  rw [take_get hz]
  simp [h]
theorem seen_le : (seenL t s (ms.take k)).length ≤ k := by
  unfold seenL
  rw [List.length_map]
  exact Nat.le_trans (List.length_filter_le _ _) (List.length_take_le _ _)
theorem seen_len (hz : ms[k]? = some z) (h : seesB t s z = true) : (seenL t s (ms.take (k + 1))).length = (seenL t s (ms.take k)).length + 1 := by
  rw [seen_yes hz h]; simp
end
/-- the numbers of the messages that are meant -/
def pickL (p : Mg → Bool) (ms : List Mg) : List Int := (ms.filter p).map Mg.num
section
variable {p : Mg → Bool} {ms : List Mg} {k : Nat} {z : Mg}
theorem pick_yes (hz : ms[k]? = some z) (h : p z = true) : pickL p (ms.take (k + 1)) = pickL p (ms.take k) ++ [z.num] := by
  unfold pickL
  rw [take_get hz]
  simp [h]
theorem pick_no (hz : ms[k]? = some z) (h : p z = false) : pickL p (ms.take (k + 1)) = pickL p (ms.take k) := by
  unfold pickL
  rw [take_get hz]
  simp [h]
theorem pick_le : (pickL p (ms.take k)).length ≤ k := by
  unfold pickL
  rw [List.length_map]
  exact Nat.le_trans (List.length_filter_le _ _) (List.length_take_le _ _)
theorem pick_len (hz : ms[k]? = some z) (h : p z = true) : (pickL p (ms.take (k + 1))).length = (pickL p (ms.take k)).length + 1 := by
  rw [pick_yes hz h]; simp
end
end Go.Proofs.YtgomffcdoglbfaaDoor
