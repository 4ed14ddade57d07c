import Derived.Test.YteeodjbionjlmaaChecked
import Derived.WalkKit
import Derived.ProofKit
import Derived.OpenShut
import Derived.ShutString
import Derived.ChangeOld
import Derived.Below
import Derived.Lib.Hide
import Derived.Laws.Cover1
import Derived.Deep.QuietTactic
import Derived.BigQuiet
import Derived.Test.YteeodjbionjlmaaZChnS
import Derived.Test.YteeodjbionjlmaaZCalmQ
namespace Go.Proofs.Yteeodjbionjlmaa
open Go.ChangeShapes Go.WideShapes Go.ChangeAt Go.RowKit
open Go.ChangeMaps (open_string shut_string)
set_option linter.unusedVariables false
set_option maxRecDepth 100000
set_option maxHeartbeats 12800000 in
theorem l06Words_any (A : Option Addr) (n c : Nat) (xs : List ByteArray) (w : World) (h : Row strv w w.heap.size A n xs) (hn : n ≤ 1048576) (hsz : ∀ s ∈ xs, s.size ≤ maxLen) :
    Calls Try.prog 66 #[.slice A n c] w fun e w' => e = .returned (.bool (rowG 64 nameB wdF xs)) ∧ Below w.heap.size w w' := by
  have HL := Lib.hid h.1
  by_cases hl : 64 < n
  · have HF := Lib.hid (rowG_long (m := 64) (ok := nameB) (fol := wdF) (xs := xs) (by rw [HL.out]; exact hl))
    have x1 : decide ((64 : Int) < (n : Int)) = true := decide_eq_true (by omega)
    go_enter Try.func66, Try.ntmps66
    go_wp2
    go_ret
    exact ⟨ret_bool HF.out.symm, Below.refl _ _⟩
  have x1 : decide ((64 : Int) < (n : Int)) = false := decide_eq_false (by omega)
  have HM := Lib.hid (show n ≤ 64 by omega)
  go_enter Try.func66, Try.ntmps66
  go_wp2
  clear hl x1
  go_loopw [3] (fun i wr => ∃ k : Nat, k ≤ n ∧ i = .int .i64 k ∧ Hid (chG nameB wdF none (xs.take k) = true) ∧ Below w.heap.size w wr) (fun i _ => n - (intOf i).toNat)
  case atStart => exact ⟨0, by omega, rfl, Lib.hid rfl, Below.refl _ _⟩
  case round =>
    obtain ⟨k, hk, rfl, HCH, hbel⟩ := hrel
    have hbs := hbel.size
    by_cases hlt : k < n
    · obtain ⟨b, off, z, rfl, hb, hz, c0⟩ := h.at_ hlt
      have HZ := Lib.hid hz
      have hlt' : decide ((k : Int) < (n : Int)) = true := decide_eq_true (by omega)
      have hs := hsz z (List.mem_of_getElem? hz)
      clear hz
      have HH := Lib.hid h; clear h
      have hi0 : (0 : Int) ≤ (k : Int) := by omega
      have hi1 : (k : Int) < (n : Int) := by omega
      have g0 : ∀ s : Gr wr, s.u.cell? ⟨b, off + k, none⟩ = some (.string z) := fun s => (s.hb.cell (p := ⟨b, off + k, none⟩) (Nat.lt_of_lt_of_le hb hbs)).trans ((hbel.cell (p := ⟨b, off + k, none⟩) hb).trans c0)
      clear c0
      cases t0 : nameB z with
      | false =>
        have HF := Lib.hid (rowG_chain (m := 64) (chG_no (fol := wdF) HZ.out (lnkG_no t0)))
        go_wp2
        refine wp_region_calm (w0 := wr) (by kernel_rfl) (by kernel_rfl) (Below.refl _ _).drew ?_
        repeat (go_big_quiet_step (((go_at_call 121; exact calm_same (spec_IsName_b _ _ _ hs t0)))))
        refine wpQuiet_nil ?_
        intro _ hw'
        obtain ⟨s7, hw''⟩ := hw'
        subst hw''
        have hb7 := hbel.trans (s7.hb.mono hbs)
        go_wp2
        go_ret
        exact ⟨ret_bool HF.out.symm, hb7⟩
      | true =>
        by_cases hk0 : 0 < k
        · obtain ⟨j, rfl⟩ : ∃ j, k = j + 1 := ⟨k - 1, by omega⟩
          obtain ⟨b2, off2, y, e2, hb3, hy, c0⟩ := HH.out.at_ (k := j) (by omega)
          simp only [Option.some.injEq, Addr.mk.injEq, and_true] at e2
          obtain ⟨rfl, rfl⟩ := e2
          have y0 : ∀ s : Gr wr, s.u.cell? ⟨b, off + j, none⟩ = some (.string y) := fun s => (s.hb.cell (p := ⟨b, off + j, none⟩) (Nat.lt_of_lt_of_le hb hbs)).trans ((hbel.cell (p := ⟨b, off + j, none⟩) hb3).trans c0)
          have HY := Lib.hid (lastG_step hy); clear hy c0
          have hd1 : decide ((0 : Int) < ((j + 1 : Nat) : Int)) = true := decide_eq_true (by omega)
          have hd2 : decide (0 < j + 1) = true := decide_eq_true (by omega)
          have hj0 : (0 : Int) ≤ (j : Int) := by omega
          have hj1 : (j : Int) < (n : Int) := by omega
          have hj2 : IntKind.i64.wrap (j : Int) = (j : Int) := IntWalk.i64_in _ (by omega)
          cases t1 : wdF y z with
          | false =>
            have HF := Lib.hid (rowG_chain (m := 64) (chG_no (fol := wdF) HZ.out (by rw [HY.out, lnkG_some t0]; exact t1)))
            have t2 : Op.bytesLess y.toList z.toList = false := by exact t1
            clear t1
            go_wp2
            refine wp_region_calm (w0 := wr) (by kernel_rfl) (by kernel_rfl) (Below.refl _ _).drew ?_
            repeat (go_big_quiet_step (((go_at_call 121; exact calm_same (spec_IsName_b _ _ _ hs t0)))))
            refine wpQuiet_nil ?_
            intro _ hw'
            obtain ⟨s7, hw''⟩ := hw'
            subst hw''
            have hb7 := hbel.trans (s7.hb.mono hbs)
            go_wp2
            go_ret
            exact ⟨ret_bool HF.out.symm, hb7⟩
          | true =>
            have HST := Lib.hid (show chG nameB wdF none (xs.take (j + 1 + 1)) = true by rw [chG_step HZ.out, HCH.out, HY.out, lnkG_some t0, t1]; rfl)
            have t2 : Op.bytesLess y.toList z.toList = true := by exact t1
            clear t1
            go_wp2
            refine wp_region_calm (w0 := wr) (by kernel_rfl) (by kernel_rfl) (Below.refl _ _).drew ?_
            repeat (go_big_quiet_step (((go_at_call 121; exact calm_same (spec_IsName_b _ _ _ hs t0)))))
            refine wpQuiet_nil ?_
            intro _ hw'
            obtain ⟨s7, hw''⟩ := hw'
            subst hw''
            have hb7 := hbel.trans (s7.hb.mono hbs)
            go_wp2
            go_roundw
            case rel => exact ⟨j + 1 + 1, by omega, by go_num, HST, hb7⟩
            case measure => simp [intOf]; omega
        · have hd0 : decide ((0 : Int) < (k : Int)) = false := decide_eq_false (by omega)
          have HST := Lib.hid (show chG nameB wdF none (xs.take (k + 1)) = true by rw [chG_step HZ.out, HCH.out, show k = 0 by omega, Bool.true_and]; exact lnkG_none t0)
          have hd0' : decide (0 < k) = false := decide_eq_false (by omega)
          clear hk0
          go_wp2
          refine wp_region_calm (w0 := wr) (by kernel_rfl) (by kernel_rfl) (Below.refl _ _).drew ?_
          repeat (go_big_quiet_step (((go_at_call 121; exact calm_same (spec_IsName_b _ _ _ hs t0)))))
          refine wpQuiet_nil ?_
          intro _ hw'
          obtain ⟨s7, hw''⟩ := hw'
          subst hw''
          have hb7 := hbel.trans (s7.hb.mono hbs)
          go_wp2
          go_roundw
          case rel => exact ⟨k + 1, by omega, by go_num, HST, hb7⟩
          case measure => simp [intOf]; omega
    · have hlt' : decide ((k : Int) < (n : Int)) = false := decide_eq_false (by omega)
      have HE := Lib.hid (show rowG 64 nameB wdF xs = true from rowG_yes (by have := HL.out; have := HM.out; omega) (chG_full HCH.out (by have := HL.out; omega)))
      go_wp2
      go_ret
      exact ⟨ret_bool HE.out.symm, hbel⟩
theorem impl_AreBadWords_any (A : Option Addr) (n c : Nat) (xs : List ByteArray) (w : World) (h : Row strv w w.heap.size A n xs) (hn : n ≤ 1048576) (hsz : ∀ s ∈ xs, s.size ≤ maxLen) :
    Calls Try.prog 69 #[.slice A n c] w fun e w' => e = .returned (.bool (wordsB xs)) ∧ Below w.heap.size w w' := by
  go_enter Try.func69, Try.ntmps69
  go_wp2_with (go_at_call 122; refine (isRowS_any A n c 64 xs _ h hn (by decide) hsz).mono ?_; rintro e w' ⟨rfl, hb⟩)
  go_ret
  exact ⟨rfl, hb⟩
end Go.Proofs.Yteeodjbionjlmaa
