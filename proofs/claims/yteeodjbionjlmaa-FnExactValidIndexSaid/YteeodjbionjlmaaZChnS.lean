import Derived.Test.YteeodjbionjlmaaChecked
import Derived.WalkKit
import Derived.ProofKit
import Derived.OpenShut
import Derived.ShutString
import Derived.ChangeOld
import Derived.Below
import Derived.Lib.Hide
import Derived.Laws.Cover1
import Derived.Test.YteeodjbionjlmaaZChnP
import Derived.Test.YteeodjbionjlmaaZIsNameC
import Derived.Test.YteeodjbionjlmaaZStrs1
namespace Go.Proofs.Yteeodjbionjlmaa
open Go.ChangeShapes Go.WideShapes Go.ChangeAt Go.RowKit
open Go.ChangeMaps (open_string shut_string)
set_option linter.unusedVariables false
set_option maxRecDepth 100000
def wdF (y z : ByteArray) : Bool := Op.bytesLess y.toList z.toList
def wordsB (xs : List ByteArray) : Bool := rowG 64 nameB wdF xs
theorem impl_IsName_b (s : ByteArray) (r : Bool) (w : World) (hs : s.size ≤ maxLen) (h : nameB s = r) : Calls Try.prog 123 #[.string s] w fun e w' => e = .returned (.bool r) ∧ Below w.heap.size w w' := by
  subst h; exact impl_IsName_any s w hs
theorem spec_IsName_b (s : ByteArray) (r : Bool) (w : World) (hs : s.size ≤ maxLen) (h : nameB s = r) : Calls Try.prog 121 #[.string s] w fun e w' => e = .returned (.bool r) ∧ w = w' := by
  subst h; exact spec_IsName_any s w hs
theorem followW_b (y z : ByteArray) (r : Bool) (w : World) (h : wdF y z = r) : Calls Try.prog 124 #[.string y, .string z] w fun e w' => e = .returned (.bool r) ∧ Below w.heap.size w w' := by
  have h' : Op.bytesLess y.toList z.toList = r := h
  have E := Lib.hid h'
  clear h h'
  go_enter Try.func124, Try.ntmps124
  go_wp2
  go_ret
  exact ⟨ret_bool E.out, by repeat (first | exact Below.refl _ _ | refine Below.setCell ?_ (by simp) _ | refine Below.alloc ?_ (by first | (simp; omega) | simp) _)⟩
set_option maxHeartbeats 6400000 in
theorem isRowS_any (A : Option Addr) (n c m : Nat) (xs : List ByteArray) (w : World) (h : Row strv w w.heap.size A n xs) (hn : n ≤ 1048576) (hm : m ≤ 1000) (hsz : ∀ s ∈ xs, s.size ≤ maxLen) :
    Calls Try.prog 122 #[.slice A n c, .int .i64 m, .func (.func 123) #[] #[], .func (.func 124) #[] #[]] w fun e w' => e = .returned (.bool (rowG m nameB wdF xs)) ∧ Below w.heap.size w w' := by
  have HL := Lib.hid h.1
  by_cases hl : m < n
  · have HF := Lib.hid (rowG_long (m := m) (ok := nameB) (fol := wdF) (xs := xs) (by rw [HL.out]; exact hl))
    have x1 : decide ((m : Int) < (n : Int)) = true := decide_eq_true (by omega)
    go_enter Try.func122, Try.ntmps122
    go_wp2
    go_ret
    exact ⟨ret_bool HF.out.symm, Below.refl _ _⟩
  have x1 : decide ((m : Int) < (n : Int)) = false := decide_eq_false (by omega)
  have HM := Lib.hid (show n ≤ m by omega)
  go_enter Try.func122, Try.ntmps122
  go_wp2
  clear hl x1
  go_loopw [17] (fun i wr => ∃ k : Nat, k ≤ n ∧ i = .int .i64 k ∧ Hid (chG nameB wdF none (xs.take k) = true) ∧ Below w.heap.size w wr) (fun i _ => n - (intOf i).toNat)
  case atStart => exact ⟨0, by omega, rfl, Lib.hid rfl, Below.refl _ _⟩
  case round =>
    obtain ⟨k, hk, rfl, HCH, hbel⟩ := hrel
    have hbs := hbel.size
    by_cases hlt : k < n
    · obtain ⟨b, off, z, rfl, hb, hz, c0⟩ := h.at_ hlt
      have HZ := Lib.hid hz; clear hz
      have hlt' : decide ((k : Int) < (n : Int)) = true := decide_eq_true (by omega)
      have hs := hsz z (List.mem_of_getElem? HZ.out)
      have d0 := (hbel.cell (p := ⟨b, off + k, none⟩) hb).trans c0
      clear c0
      have HH := Lib.hid h; clear h
      cases t0 : nameB z with
      | false =>
        have HF := Lib.hid (rowG_chain (m := m) (chG_no (fol := wdF) HZ.out (lnkG_no t0)))
        go_wp2_with fail
        go_at_call 123; refine (impl_IsName_b _ _ _ hs t0).mono ?_; rintro e w2 ⟨rfl, hb2⟩
        have hb2 := hbel.trans (hb2.mono hbs)
        clear hbel
        go_wp2
        go_ret
        exact ⟨ret_bool HF.out.symm, hb2⟩
      | true =>
        go_wp2_with fail
        go_at_call 123; refine (impl_IsName_b _ _ _ hs t0).mono ?_; rintro e w2 ⟨rfl, hb2⟩
        have hb2 := hbel.trans (hb2.mono hbs)
        clear hbel
        have hbs2 := hb2.size
        clear d0
        by_cases hk0 : 0 < k
        · obtain ⟨j, rfl⟩ : ∃ j, k = j + 1 := ⟨k - 1, by omega⟩
          obtain ⟨b2, off2, y, e2, hb3, hy, c0⟩ := HH.out.at_ (k := j) (by omega)
          simp only [Option.some.injEq, Addr.mk.injEq, and_true] at e2
          obtain ⟨rfl, rfl⟩ := e2
          have d0 := (hb2.cell (p := ⟨b, off + j, none⟩) hb3).trans c0
          have HY := Lib.hid (lastG_step hy); clear hy c0
          have hd1 : decide ((0 : Int) < ((j + 1 : Nat) : Int)) = true := decide_eq_true (by omega)
          have hj0 : (0 : Int) ≤ (j : Int) := by omega
          have hj1 : (j : Int) < (n : Int) := by omega
          have hj2 : IntKind.i64.wrap (j : Int) = (j : Int) := IntWalk.i64_in _ (by omega)
          cases t1 : wdF y z with
          | false =>
            have HF := Lib.hid (rowG_chain (m := m) (chG_no (fol := wdF) HZ.out (by rw [HY.out, lnkG_some t0]; exact t1)))
            go_wp2_with fail
            go_at_call 124; refine (followW_b _ _ _ _ t1).mono ?_; rintro e w3 ⟨rfl, hb4⟩
            have hb4 := hb2.trans (hb4.mono hbs2)
            clear hb2
            go_wp2
            go_ret
            exact ⟨ret_bool HF.out.symm, hb4⟩
          | true =>
            have HST := Lib.hid (show chG nameB wdF none (xs.take (j + 1 + 1)) = true by rw [chG_step HZ.out, HCH.out, HY.out, lnkG_some t0, t1]; rfl)
            go_wp2_with fail
            go_at_call 124; refine (followW_b _ _ _ _ t1).mono ?_; rintro e w3 ⟨rfl, hb4⟩
            have hb4 := hb2.trans (hb4.mono hbs2)
            clear hb2
            go_wp2
            go_roundw
            case rel => exact ⟨j + 1 + 1, by omega, by go_num, HST, hb4⟩
            case measure => simp [intOf]; omega
        · have hd0 : decide ((0 : Int) < (k : Int)) = false := decide_eq_false (by omega)
          have HST := Lib.hid (show chG nameB wdF none (xs.take (k + 1)) = true by rw [chG_step HZ.out, HCH.out, show k = 0 by omega, Bool.true_and]; exact lnkG_none t0)
          have hd0' : decide (0 < k) = false := decide_eq_false (by omega)
          clear hk0
          go_wp2
          go_roundw
          case rel => exact ⟨k + 1, by omega, by go_num, HST, hb2⟩
          case measure => simp [intOf]; omega
    · have hlt' : decide ((k : Int) < (n : Int)) = false := decide_eq_false (by omega)
      have HE := Lib.hid (show rowG m nameB wdF xs = true from rowG_yes (by have := HL.out; have := HM.out; omega) (chG_full HCH.out (by have := HL.out; omega)))
      go_wp2
      go_ret
      exact ⟨ret_bool HE.out.symm, hbel⟩
end Go.Proofs.Yteeodjbionjlmaa
