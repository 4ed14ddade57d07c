import Derived.Test.YtdpclbmcmgknjaaChecked
import Derived.WalkKit
import Derived.ProofKit
import Derived.OpenShut
import Derived.ShutString
import Derived.ChangeOld
import Derived.Below
import Derived.Lib.Hide
import Derived.Deep.QuietTactic
import Derived.BigQuiet
import Derived.Test.YtdpclbmcmgknjaaZFindC
import Derived.Test.YtdpclbmcmgknjaaZMayC
import Derived.Test.YtdpclbmcmgknjaaZIsMembersC
namespace Go.Proofs.Ytdpclbmcmgknjaa
open Go.ChangeShapes Go.WideShapes Go.ChangeAt Go.RowKit
open Go.ChangeMaps (open_string shut_string)
set_option linter.unusedVariables false
set_option maxRecDepth 100000
theorem ret_eq {v v' : Value} (h : v = v') : Ending.returned v = .returned v' := by rw [h]
theorem l02Id_b (n : Int) (b : Bool) (w : World) (h : idB n = b) : Calls Try.prog 166 #[.int .i64 n] w fun e w' => e = .returned (.bool b) ∧ w = w' := by
  by_cases hh : 1 ≤ n ∧ n ≤ 1000
  · obtain rfl : b = true := by rw [← h]; simpa [idB] using hh
    clear h
    go_enter Try.func166, Try.ntmps166
    go_wp2_with (go_at_call 80; refine (l00In_yes _ _ _ _ hh).mono ?_; rintro e w' ⟨rfl, rfl⟩)
    go_ret
    exact ⟨rfl, rfl⟩
  · obtain rfl : b = false := by rw [← h]; simpa [idB] using hh
    clear h
    go_enter Try.func166, Try.ntmps166
    go_wp2_with (go_at_call 80; refine (l00In_no _ _ _ _ hh).mono ?_; rintro e w' ⟨rfl, rfl⟩)
    go_ret
    exact ⟨rfl, rfl⟩
theorem l02Tick_b (n : Int) (b : Bool) (w : World) (h : tickB n = b) : Calls Try.prog 76 #[.int .i64 n] w fun e w' => e = .returned (.bool b) ∧ w = w' := by
  by_cases hh : 0 ≤ n ∧ n ≤ 1000000
  · obtain rfl : b = true := by rw [← h]; simpa [tickB] using hh
    clear h
    go_enter Try.func76, Try.ntmps76
    go_wp2_with (go_at_call 80; refine (l00In_yes _ _ _ _ hh).mono ?_; rintro e w' ⟨rfl, rfl⟩)
    go_ret
    exact ⟨rfl, rfl⟩
  · obtain rfl : b = false := by rw [← h]; simpa [tickB] using hh
    clear h
    go_enter Try.func76, Try.ntmps76
    go_wp2_with (go_at_call 80; refine (l00In_no _ _ _ _ hh).mono ?_; rintro e w' ⟨rfl, rfl⟩)
    go_ret
    exact ⟨rfl, rfl⟩
end Go.Proofs.Ytdpclbmcmgknjaa
