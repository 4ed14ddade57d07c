import Derived.Test.YtbamhnbmddopgaaDoorChecked
import Derived.WalkKit
import Derived.ProofKit
import Derived.OpenShut
import Derived.ShutString
import Derived.ChangeOld
import Derived.Below
import Derived.Lib.Hide
import Derived.Test.YtbamhnbmddopgaaDoorRDecS
namespace Go.Proofs.YtbamhnbmddopgaaDoor
open Go.ChangeShapes Go.WideShapes Go.ChangeAt Go.RowKit
open Go.ChangeMaps (open_string shut_string)
set_option linter.unusedVariables false
theorem l01Value_yes (n : Int) (s : ByteArray) (h0 : -1000000000 ≤ n) (h1 : n ≤ 1000000000) (hs : strOfNums (decL n) = s) (w : World) :
    Calls Tryd.prog 42 #[.string s] w fun e w' => RdYes w n e w' := by
  have hl : s.data.toList = Lib.itoa n := by rw [← hs, decL_str]
  have hlen := itoa_len n h0 h1
  have hsz : s.size = (Lib.itoa n).length := by rw [← hl]; simp
  have hm : svL s.data.toList = n := by rw [hl]; exact svL_itoa n
  have hv := l01Value_go s w (by omega) (by omega)
  rw [hm] at hv
  exact hv.mono fun e w' hr => hr.1 ⟨⟨h0, h1⟩, hs⟩
theorem l01Value_no (s : ByteArray) (hs : s.size ≤ maxLen) (hno : ∀ n : Int, -1000000000 ≤ n → n ≤ 1000000000 → strOfNums (decL n) ≠ s) (w : World) :
    Calls Tryd.prog 42 #[.string s] w fun e w' => RdNo w e w' := by
  by_cases h : 1 ≤ s.size ∧ s.size ≤ 11
  · exact (l01Value_go s w h.1 h.2).mono fun e w' hr => hr.2 fun ⟨⟨h0, h1⟩, he⟩ => hno _ h0 h1 he
  · unfold maxLen at hs
    rcases (show s.size < 1 ∨ 11 < s.size by omega) with h1 | h1
    all_goals
      clear h
      go_enter Tryd.func42, Tryd.ntmps42
      go_wp2
      go_ret2
      exact ⟨rfl, Below.refl _ _⟩
end Go.Proofs.YtbamhnbmddopgaaDoor
