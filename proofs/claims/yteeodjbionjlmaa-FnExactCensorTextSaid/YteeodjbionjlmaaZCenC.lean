import Derived.Test.YteeodjbionjlmaaChecked
import Derived.WalkKit
import Derived.ProofKit
import Derived.OpenShut
import Derived.ShutString
import Derived.ChangeOld
import Derived.Below
import Derived.Lib.Hide
import Derived.Shelf.Abstract
import Derived.Lib.ConvBytes
import Derived.Shelf.Strings.Repeat
import Derived.Test.YteeodjbionjlmaaJyi
import Derived.Test.YteeodjbionjlmaaZChgI
import Derived.Test.YteeodjbionjlmaaZMrkI
namespace Go.Proofs.Yteeodjbionjlmaa
open Go.ChangeShapes Go.WideShapes Go.ChangeAt Go.RowKit
open Go.ChangeMaps (open_string shut_string)
set_option linter.unusedVariables false
set_option maxRecDepth 100000
theorem strOf_nums (b : ByteArray) : strOfNums (nums b) = b := by
  unfold strOfNums nums
  cases b with
  | mk d =>
    congr 1
    apply Array.ext'
    simp only [List.map_map]
    rw [show ((fun n : Int => UInt8.ofNat n.toNat) ∘ fun c : UInt8 => (c.toNat : Int)) = id from by funext c; simp]
    simp
theorem repeat_stars (n : Nat) : (⟨(Lib.repeatL (⟨#[42]⟩ : ByteArray).data.toList n).toArray⟩ : ByteArray) = stars n := by
  unfold stars
  congr 2
  induction n with
  | zero => rfl
  | succ n ih => show [42] ++ Lib.repeatL _ n = _; rw [ih]; rfl
set_option maxHeartbeats 1600000 in
theorem cenF_call (r : ByteArray) (w : World) (h1 : 1 ≤ r.size) (h2 : r.size ≤ 80) :
    Calls Try.prog 73 #[.string r] w fun e w' => e = .returned (.string (cenF r)) ∧ Below w.heap.size w w' := by
  have HRS := Lib.hid (repeat_stars (r.size - 1))
  have hcast : (r.size : Int) - 1 = ((r.size - 1 : Nat) : Int) := by omega
  have hsum : (r.extract 0 1).size + (stars (r.size - 1)).size ≤ 9223372036854775807 := by rw [stars_size, ByteArray.size_extract]; omega
  have hsz1 : (r.extract 0 1).size = 1 := by rw [ByteArray.size_extract]; omega
  have hsz2 := stars_size (r.size - 1)
  have hlim : 1 + (r.size - 1) ≤ 9223372036854775807 := by omega
  have hwrap : IntKind.i64.wrap ((r.size - 1 : Nat) : Int) = ((r.size - 1 : Nat) : Int) := IntWalk.i64_in _ (by omega)
  have hone : (1 : Int) ≤ (r.size : Int) := by omega
  go_enter Try.func73, Try.ntmps73
  go_wp2
  go_region_with (go_at_call 74; refine (Try.strings_Repeat ⟨#[42]⟩ (r.size - 1) _ (by omega) (by show 1 * (r.size - 1) ≤ _; omega)).mono ?_; rw [HRS.out]; rintro e w3 ⟨rfl, hb3⟩)
  all_goals
    go_wp2
    go_ret
    exact ⟨rfl, by first | exact hb3 | exact ((Below.refl _ w).drew).trans hb3⟩
end Go.Proofs.Yteeodjbionjlmaa
