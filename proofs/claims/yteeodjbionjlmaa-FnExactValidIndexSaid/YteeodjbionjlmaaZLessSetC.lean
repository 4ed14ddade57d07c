import Derived.Test.YteeodjbionjlmaaChecked
import Derived.WalkKit
import Derived.ProofKit
import Derived.OpenShut
import Derived.ShutString
import Derived.ChangeOld
import Derived.Below
import Derived.Lib.Hide
import Derived.Test.YteeodjbionjlmaaZIsMembersC
import Derived.Test.YteeodjbionjlmaaJa
namespace Go.Proofs.Yteeodjbionjlmaa
open Go.ChangeShapes Go.WideShapes Go.ChangeAt Go.RowKit
open Go.ChangeMaps (open_string shut_string)
set_option linter.unusedVariables false
theorem ret_found {a : Int} {b b' : Bool} (h : b = b') : Ending.returned (.tuple #[.int .i64 a, .bool b]) = .returned (.tuple #[.int .i64 a, .bool b']) := by rw [h]
theorem own_shape {w : World} {base e size m : Nat} {v : Value} {xs : List Value} (h : w.ownsRow base e size v m xs) : ∃ A k c, v = .slice A k c ∧ k = m := by
  rcases h.2 with ⟨rfl, hn⟩ | ⟨g, cap, cur, rfl, _⟩
  · exact ⟨none, 0, 0, rfl, hn.symm⟩
  · exact ⟨_, _, _, rfl, rfl⟩
theorem isNaN_cmp (x : Int) (w : World) :
    Calls Try.prog 168 #[.int .i64 x] w fun e w' => e = .returned (.bool false) ∧ w = w' := by
  go_enter Try.func168, Try.ntmps168
  go_wp2
  go_ret
  exact ⟨ret_bool (by simp), rfl⟩
theorem cmpLess_yes (x y : Int) (w : World) (h : x < y) :
    Calls Try.prog 144 #[.int .i64 x, .int .i64 y] w fun e w' => e = .returned (.bool true) ∧ w = w' := by
  go_enter Try.func144, Try.ntmps144
  go_wp2_with (go_at_call 168; refine (isNaN_cmp _ _).mono ?_; rintro e w' ⟨rfl, rfl⟩)
  go_ret
  exact ⟨rfl, rfl⟩
theorem cmpLess_no (x y : Int) (w : World) (h : ¬ x < y) :
    Calls Try.prog 144 #[.int .i64 x, .int .i64 y] w fun e w' => e = .returned (.bool false) ∧ w = w' := by
  have h' : y ≤ x := by omega
  clear h
  go_enter Try.func144, Try.ntmps144
  go_wp2_with (go_at_call 168; refine (isNaN_cmp _ _).mono ?_; rintro e w' ⟨rfl, rfl⟩)
  go_ret
  exact ⟨ret_bool (by simp; omega), rfl⟩
set_option maxHeartbeats 400000 in
theorem l00Has_any (A : Option Addr) (n c B : Nat) (xs : List Int) (t : Int) (w : World) (h : Row i64v w B A n xs) (hn : n ≤ 1073741824) :
    Calls Try.prog 166 #[.slice A n c, .int .i64 t] w fun e w' => e = .returned (.bool (decide (t ∈ xs))) ∧ w = w' := by
  have HL := Lib.hid h.1
  go_enter Try.func166, Try.ntmps166
  go_wp2
  go_loop [5] (fun i => ∃ k : Nat, k ≤ n ∧ i = .int .i64 k ∧ NotIn xs t k) (fun i => n - (intOf i).toNat)
  case atStart => exact ⟨0, by omega, rfl, NotIn.zero _ _⟩
  case round =>
    obtain ⟨k, hk, rfl, hni⟩ := hrel
    have HN := Lib.hid hni
    clear hni
    by_cases hlt : k < n
    · obtain ⟨b, off, x, rfl, _, hx, hc⟩ := h.ati hlt
      have HX := Lib.hid hx
      clear hx h
      by_cases he : x = t
      · subst he
        have HF := Lib.hid (Cut.found HX.out)
        have hee : (x == x) = true := by simp
        go_wp2
        go_ret
        exact ⟨ret_bool HF.out.symm, rfl⟩
      · have hee : (x == t) = false := by simp [he]
        have HE := Lib.hid he
        clear he
        go_wp2
        go_round
        case rel => exact ⟨k + 1, by omega, by go_num, HN.out.succ HX.out HE.out⟩
        case measure => simp [intOf]; omega
    · have HF := Lib.hid (HN.out.all (by have := HL.out; omega))
      go_wp2
      go_ret
      exact ⟨ret_bool HF.out.symm, rfl⟩

def setsB (xs ys : List Int) : Prop := memB xs = true ∧ memB ys = true
theorem l01Members_any (A : Option Addr) (n c B : Nat) (xs : List Int) (b : Bool) (w : World) (h : Row i64v w B A n xs) (hn : n ≤ 1073741824) (hb : memB xs = b) :
    Calls Try.prog 112 #[.slice A n c] w fun e w' => e = .returned (.bool b) ∧ ∃ q, w' = w.drewN q := by
  subst hb
  go_enter Try.func112, Try.ntmps112
  go_wp2_with (go_at_call 141; refine (l00Rises_any _ _ _ _ _ _ _ _ h hn).mono ?_; rintro e w' ⟨rfl, q, rfl⟩)
  go_ret
  exact ⟨rfl, q, rfl⟩
theorem impl_IsMembers_b (A : Option Addr) (n c B : Nat) (xs : List Int) (b : Bool) (w : World) (h : Row i64v w B A n xs) (hn : n ≤ 1073741824) (hb : memB xs = b) :
    Calls Try.prog 114 #[.slice A n c] w fun e w' => e = .returned (.bool b) ∧ w = w' := by
  subst hb
  exact impl_IsMembers_any A n c B xs w h hn
/-- what a function of two sets hands back that are sets: a row of the call's own -/
def TwoYes (w : World) (zs : List Int) (e : Ending) (w' : World) : Prop :=
  ∃ A m c, e = .returned (.tuple #[.slice A m c, .bool true]) ∧ w'.ownsRow w.heap.size 2 1 (.slice A m c) m (zs.map i64v) ∧ Below w.heap.size w w'
def TwoNo (w : World) (e : Ending) (w' : World) : Prop := e = .returned (.tuple #[.slice none 0 0, .bool false]) ∧ Below w.heap.size w w'
end Go.Proofs.Yteeodjbionjlmaa
