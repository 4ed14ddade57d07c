import Derived.Test.YteeodjbionjlmaaChecked
import Derived.WalkKit
import Derived.ProofKit
import Derived.OpenShut
import Derived.ShutString
import Derived.ChangeOld
import Derived.Below
import Derived.Lib.Hide
import Derived.Test.YteeodjbionjlmaaZIdxN
import Derived.Test.YteeodjbionjlmaaZIdxT
import Derived.Test.YteeodjbionjlmaaZQryI
namespace Go.Proofs.Yteeodjbionjlmaa
open Go.ChangeShapes Go.WideShapes Go.ChangeAt Go.RowKit
open Go.ChangeMaps (open_string shut_string)
set_option linter.unusedVariables false
set_option maxRecDepth 100000
/-- an entry as the chapter has it -/
def entB (e : En) : Bool := qwB e.word && (decide (1 ≤ e.nums.length) && numsB e.nums)
set_option maxHeartbeats 1600000 in
theorem isEntry_b (a : En) (la : Option Addr) (ln lc : Nat) (v : Bool) (w : World) (h : Row i64v w w.heap.size la ln a.nums) (hn : ln ≤ 1048576) (hs : a.word.size ≤ 1048576) (hv : entB a = v) :
    Calls Try.prog 91 #[.agg #[.string a.word, .slice la ln lc]] w fun e w' => e = .returned (.bool v) ∧ Below w.heap.size w w' := by
  have HV := Lib.hid hv
  have HL := Lib.hid h.1
  have hs' : a.word.size ≤ maxLen := by unfold maxLen; omega
  clear hv
  obtain ⟨q, hq⟩ : ∃ q, qwB a.word = q := ⟨_, rfl⟩
  obtain ⟨u, hu⟩ : ∃ u, rowG 40 numB nmF a.nums = u := ⟨_, rfl⟩
  have HQ := Lib.hid hq
  have HU := Lib.hid hu
  clear hq hu
  go_enter Try.func91, Try.ntmps91
  go_wp2_with fail
  obtain ⟨k0, hb0⟩ := one_box w 100 #[.string a.word, .slice la ln lc]
  generalize w.alloc (.cells #[.string a.word, .slice la ln lc] 100) = W at *
  have h := h.to hb0
  go_at_call 99; refine (impl_isWord_b _ _ _ hs' HQ.out).mono ?_; rintro e w2 ⟨rfl, hb2⟩
  have l0 := (k0.below hb2 k0.lt).cell 0
  have l1 := (k0.below hb2 k0.lt).cell 1
  have h := h.to hb2
  have hb := hb0.trans (hb2.mono hb0.size)
  clear hb0 hb2 k0
  cases q with
  | false =>
    go_wp2
    go_ret
    exact ⟨ret_bool (by rw [← HV.out, entB, HQ.out]; rfl), hb⟩
  | true =>
    by_cases h1 : 1 ≤ ln
    · have e1 : decide ((1 : Int) ≤ (ln : Int)) = true := decide_eq_true (by omega)
      go_wp2_with (go_at_call 143; refine (isRowN_any la ln lc 40 a.nums _ h hn (by omega)).mono ?_; rw [HU.out]; rintro e w3 ⟨rfl, hb3⟩)
      go_ret
      exact ⟨ret_bool (by rw [← HV.out, entB, HQ.out, numsB, HU.out, HL.out]; simp [h1]), hb.trans (hb3.mono hb.size)⟩
    · have e1 : decide ((1 : Int) ≤ (ln : Int)) = false := decide_eq_false (by omega)
      go_wp2
      go_ret
      exact ⟨ret_bool (by rw [← HV.out, entB, HQ.out, HL.out]; simp [h1]), hb⟩
end Go.Proofs.Yteeodjbionjlmaa
