import Derived.Test.YteeodjbionjlmaaChecked
import Derived.WalkKit
import Derived.ProofKit
import Derived.OpenShut
import Derived.ShutString
import Derived.ChangeOld
import Derived.Below
import Derived.Lib.Hide
import Derived.Test.YteeodjbionjlmaaZChnP
import Derived.Test.YteeodjbionjlmaaZLessSetC
import Derived.Test.YteeodjbionjlmaaZMsgV
namespace Go.Proofs.Yteeodjbionjlmaa
open Go.ChangeShapes Go.WideShapes Go.ChangeAt Go.RowKit
open Go.ChangeMaps (open_string shut_string)
set_option linter.unusedVariables false
set_option maxRecDepth 100000
def nmF (y z : Int) : Bool := decide (y < z)
def numsB (xs : List Int) : Bool := rowG 40 numB nmF xs
theorem isNum_c (n : Int) (r : Bool) (w : World) (h : numB n = r) : Calls Try.prog 136 #[.int .i64 n] w fun e w' => e = .returned (.bool r) ∧ Below w.heap.size w w' :=
  (isNumber_b n r w h).mono fun e w' ⟨he, hw⟩ => ⟨he, by subst hw; exact Below.refl _ _⟩
theorem lessN_b (y z : Int) (r : Bool) (w : World) (h : nmF y z = r) : Calls Try.prog 144 #[.int .i64 y, .int .i64 z] w fun e w' => e = .returned (.bool r) ∧ Below w.heap.size w w' := by
  by_cases hl : y < z
  · have : r = true := by rw [← h]; exact decide_eq_true hl
    subst this
    exact (cmpLess_yes y z w hl).mono fun e w' ⟨he, hw⟩ => ⟨he, by subst hw; exact Below.refl _ _⟩
  · have : r = false := by rw [← h]; exact decide_eq_false hl
    subst this
    exact (cmpLess_no y z w hl).mono fun e w' ⟨he, hw⟩ => ⟨he, by subst hw; exact Below.refl _ _⟩
set_option maxHeartbeats 6400000 in
theorem isRowN_any (A : Option Addr) (n c m : Nat) (xs : List Int) (w : World) (h : Row i64v w w.heap.size A n xs) (hn : n ≤ 1048576) (hm : m ≤ 1000) :
    Calls Try.prog 143 #[.slice A n c, .int .i64 m, .func (.func 136) #[] #[], .func (.func 144) #[] #[]] w fun e w' => e = .returned (.bool (rowG m numB nmF xs)) ∧ Below w.heap.size w w' := by
  have HL := Lib.hid h.1
  by_cases hl : m < n
  · have HF := Lib.hid (rowG_long (m := m) (ok := numB) (fol := nmF) (xs := xs) (by rw [HL.out]; exact hl))
    have x1 : decide ((m : Int) < (n : Int)) = true := decide_eq_true (by omega)
    go_enter Try.func143, Try.ntmps143
    go_wp2
    go_ret
    exact ⟨ret_bool HF.out.symm, Below.refl _ _⟩
  have x1 : decide ((m : Int) < (n : Int)) = false := decide_eq_false (by omega)
  have HM := Lib.hid (show n ≤ m by omega)
  go_enter Try.func143, Try.ntmps143
  go_wp2
  clear hl x1
  go_loopw [17] (fun i wr => ∃ k : Nat, k ≤ n ∧ i = .int .i64 k ∧ Hid (chG numB nmF none (xs.take k) = true) ∧ Below w.heap.size w wr) (fun i _ => n - (intOf i).toNat)
  case atStart => exact ⟨0, by omega, rfl, Lib.hid rfl, Below.refl _ _⟩
  case round =>
    obtain ⟨k, hk, rfl, HCH, hbel⟩ := hrel
    have hbs := hbel.size
    by_cases hlt : k < n
    · obtain ⟨b, off, z, rfl, hb, hz, c0⟩ := h.at_ hlt
      have HZ := Lib.hid hz; clear hz
      have hlt' : decide ((k : Int) < (n : Int)) = true := decide_eq_true (by omega)
      have d0 := (hbel.cell (p := ⟨b, off + k, none⟩) hb).trans c0
      clear c0
      have HH := Lib.hid h; clear h
      cases t0 : numB z with
      | false =>
        have HF := Lib.hid (rowG_chain (m := m) (chG_no (fol := nmF) HZ.out (lnkG_no t0)))
        go_wp2_with fail
        go_at_call 136; refine (isNum_c _ _ _ t0).mono ?_; rintro e w2 ⟨rfl, hb2⟩
        have hb2 := hbel.trans (hb2.mono hbs)
        clear hbel
        go_wp2
        go_ret
        exact ⟨ret_bool HF.out.symm, hb2⟩
      | true =>
        go_wp2_with fail
        go_at_call 136; refine (isNum_c _ _ _ t0).mono ?_; rintro e w2 ⟨rfl, hb2⟩
        have hb2 := hbel.trans (hb2.mono hbs)
        clear hbel
        have hbs2 := hb2.size
        clear d0
        by_cases hk0 : 0 < k
        · obtain ⟨j, rfl⟩ : ∃ j, k = j + 1 := ⟨k - 1, by omega⟩
          obtain ⟨b2, off2, y, e2, hb3, hy, c0⟩ := HH.out.at_ (k := j) (by omega)
          simp only [Option.some.injEq, Addr.mk.injEq, and_true] at e2
          obtain ⟨rfl, rfl⟩ := e2
          have d0 := (hb2.cell (p := ⟨b, off + j, none⟩) hb3).trans c0
          have HY := Lib.hid (lastG_step hy); clear hy c0
          have hd1 : decide ((0 : Int) < ((j + 1 : Nat) : Int)) = true := decide_eq_true (by omega)
          have hj0 : (0 : Int) ≤ (j : Int) := by omega
          have hj1 : (j : Int) < (n : Int) := by omega
          have hj2 : IntKind.i64.wrap (j : Int) = (j : Int) := IntWalk.i64_in _ (by omega)
          cases t1 : nmF y z with
          | false =>
            have HF := Lib.hid (rowG_chain (m := m) (chG_no (fol := nmF) HZ.out (by rw [HY.out, lnkG_some t0]; exact t1)))
            go_wp2_with fail
            go_at_call 144; refine (lessN_b _ _ _ _ t1).mono ?_; rintro e w3 ⟨rfl, hb4⟩
            have hb4 := hb2.trans (hb4.mono hbs2)
            clear hb2
            go_wp2
            go_ret
            exact ⟨ret_bool HF.out.symm, hb4⟩
          | true =>
            have HST := Lib.hid (show chG numB nmF none (xs.take (j + 1 + 1)) = true by rw [chG_step HZ.out, HCH.out, HY.out, lnkG_some t0, t1]; rfl)
            go_wp2_with fail
            go_at_call 144; refine (lessN_b _ _ _ _ t1).mono ?_; rintro e w3 ⟨rfl, hb4⟩
            have hb4 := hb2.trans (hb4.mono hbs2)
            clear hb2
            go_wp2
            go_roundw
            case rel => exact ⟨j + 1 + 1, by omega, by go_num, HST, hb4⟩
            case measure => simp [intOf]; omega
        · have hd0 : decide ((0 : Int) < (k : Int)) = false := decide_eq_false (by omega)
          have HST := Lib.hid (show chG numB nmF none (xs.take (k + 1)) = true by rw [chG_step HZ.out, HCH.out, show k = 0 by omega, Bool.true_and]; exact lnkG_none t0)
          have hd0' : decide (0 < k) = false := decide_eq_false (by omega)
          clear hk0
          go_wp2
          go_roundw
          case rel => exact ⟨k + 1, by omega, by go_num, HST, hb2⟩
          case measure => simp [intOf]; omega
    · have hlt' : decide ((k : Int) < (n : Int)) = false := decide_eq_false (by omega)
      have HE := Lib.hid (show rowG m numB nmF xs = true from rowG_yes (by have := HL.out; have := HM.out; omega) (chG_full HCH.out (by have := HL.out; omega)))
      go_wp2
      go_ret
      exact ⟨ret_bool HE.out.symm, hbel⟩
end Go.Proofs.Yteeodjbionjlmaa
