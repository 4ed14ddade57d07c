import Derived.Test.YteeodjbionjlmaaChecked
import Derived.WalkKit
import Derived.ProofKit
import Derived.OpenShut
import Derived.ShutString
import Derived.ChangeOld
import Derived.Below
import Derived.Lib.Hide
import Derived.Deep.QuietTactic
import Derived.BigQuiet
import Derived.Laws.Cover1
import Derived.Test.YteeodjbionjlmaaZIdxE
import Derived.Test.YteeodjbionjlmaaZCalmQ
namespace Go.Proofs.Yteeodjbionjlmaa
open Go.ChangeShapes Go.WideShapes Go.ChangeAt Go.RowKit
open Go.ChangeMaps (open_string shut_string)
set_option linter.unusedVariables false
set_option maxRecDepth 100000
def okR (r : Re) : Bool := entB r.m
def foR (y z : Re) : Bool := Op.bytesLess y.m.word.toList z.m.word.toList
theorem followE_b (y z : Re) (r : Bool) (w : World) (h : foR y z = r) : Calls Try.prog 92 #[.agg #[.string y.m.word, .slice y.la y.ln y.lc], .agg #[.string z.m.word, .slice z.la z.ln z.lc]] w fun e w' => e = .returned (.bool r) ∧ Below w.heap.size w w' := by
  have h' : Op.bytesLess y.m.word.toList z.m.word.toList = r := h
  have E := Lib.hid h'
  clear h h'
  go_enter Try.func92, Try.ntmps92
  go_wp2
  go_ret
  exact ⟨ret_bool E.out, by repeat (first | exact Below.refl _ _ | refine Below.setCell ?_ (by simp) _ | refine Below.alloc ?_ (by first | (simp; omega) | simp) _)⟩
set_option maxHeartbeats 12800000 in
theorem isRowE_any (A : Option Addr) (n c m : Nat) (xs : List Re) (w : World) (h : IdxAt w w.heap.size A n xs) (hf : fitE (ens xs)) (hn : n ≤ 1048576) (hm : m ≤ 1048576) :
    Calls Try.prog 90 #[.slice A n c, .int .i64 m, .func (.func 91) #[] #[], .func (.func 92) #[] #[]] w fun e w' => e = .returned (.bool (rowG m okR foR xs)) ∧ Below w.heap.size w w' := by
  have HL := Lib.hid h.len
  have HF0 := Lib.hid hf
  clear hf
  by_cases hl : m < n
  · have HF := Lib.hid (rowG_long (m := m) (ok := okR) (fol := foR) (xs := xs) (by rw [HL.out]; exact hl))
    have x1 : decide ((m : Int) < (n : Int)) = true := decide_eq_true (by omega)
    go_enter Try.func90, Try.ntmps90
    go_wp2
    go_ret
    exact ⟨ret_bool HF.out.symm, Below.refl _ _⟩
  have x1 : decide ((m : Int) < (n : Int)) = false := decide_eq_false (by omega)
  have HM := Lib.hid (show n ≤ m by omega)
  go_enter Try.func90, Try.ntmps90
  go_wp2
  clear hl x1
  go_loopw [17] (fun i wr => ∃ k : Nat, k ≤ n ∧ i = .int .i64 k ∧ Hid (chG okR foR none (xs.take k) = true) ∧ Below w.heap.size w wr) (fun i _ => n - (intOf i).toNat)
  case atStart => exact ⟨0, by omega, rfl, Lib.hid rfl, Below.refl _ _⟩
  case round =>
    obtain ⟨k, hk, rfl, HCH, hbel⟩ := hrel
    have hbs := hbel.size
    by_cases hlt : k < n
    · obtain ⟨b, off, z, rfl, hb, hz, hrz, c0, c1⟩ := h.atr hlt
      have HFZ := Lib.hid (fitE_ln h.2 HF0.out (List.mem_of_getElem? hz))
      have HZ := Lib.hid hz; clear hz
      have hlt' : decide ((k : Int) < (n : Int)) = true := decide_eq_true (by omega)
      have d0 := (hbel.cell (p := ⟨b, off + k * 2, none⟩) hb).trans c0
      have d1 := (hbel.cell (p := ⟨b, off + k * 2 + 1, none⟩) hb).trans c1
      have HH := Lib.hid h; clear h
      have hi0 : (0 : Int) ≤ (k : Int) := by omega
      have hi1 : (k : Int) < (n : Int) := by omega
      go_wp2_with fail
      obtain ⟨kb, hba⟩ := one_box wr 100 #[.string z.m.word, .slice z.la z.ln z.lc]
      have hal := kb.lt
      have hbw := hbel.trans (hba.mono hbs)
      generalize wr.alloc (.cells #[.string z.m.word, .slice z.la z.ln z.lc] 100) = Wb at *
      have hbws := hbw.size
      have g0 : ∀ s : Gr Wb, s.u.cell? ⟨b, off + k * 2, none⟩ = some (.string z.m.word) := fun s => (s.hb.cell (p := ⟨b, off + k * 2, none⟩) (Nat.lt_of_lt_of_le hb hbws)).trans ((hbw.cell (p := ⟨b, off + k * 2, none⟩) hb).trans c0)
      have g1 : ∀ s : Gr Wb, s.u.cell? ⟨b, off + k * 2 + 1, none⟩ = some (.slice z.la z.ln z.lc) := fun s => (s.hb.cell (p := ⟨b, off + k * 2 + 1, none⟩) (Nat.lt_of_lt_of_le hb hbws)).trans ((hbw.cell (p := ⟨b, off + k * 2 + 1, none⟩) hb).trans c1)
      have x0 : ∀ s : Gr Wb, s.u.cell? ⟨wr.heap.size, 0, none⟩ = some (.string z.m.word) := fun s => (s.hb.cell (p := ⟨wr.heap.size, 0, none⟩) hal).trans (kb.cell 0)
      have x1 : ∀ s : Gr Wb, s.u.cell? ⟨wr.heap.size, 1, none⟩ = some (.slice z.la z.ln z.lc) := fun s => (s.hb.cell (p := ⟨wr.heap.size, 1, none⟩) hal).trans (kb.cell 1)
      have HRR := fun s : Gr Wb => (hrz.below (hbw.trans (s.hb.mono hbws))).more (hbw.trans (s.hb.mono hbws)).size
      clear c0 c1 d0 d1 hrz
      have HKB := Lib.hid kb; clear kb
      cases t0 : okR z with
      | false =>
        have HF := Lib.hid (rowG_chain (m := m) (chG_no (fol := foR) HZ.out (lnkG_no t0)))
        refine wp_region_calm (w0 := Wb) (by kernel_rfl) (by kernel_rfl) (Below.refl _ _).drew ?_
        repeat (go_big_quiet_step ((first | (go_at_call 91; exact calm_of (isEntry_b z.m z.la z.ln z.lc _ _ (HRR _) HFZ.out.1 HFZ.out.2 t0)))))
        refine wpQuiet_nil ?_
        intro _ hw'
        obtain ⟨s7, hw''⟩ := hw'
        subst hw''
        have hb7 := hbw.trans (s7.hb.mono hbws)
        go_wp2
        go_ret
        exact ⟨ret_bool HF.out.symm, hb7⟩
      | true =>
        by_cases hk0 : 0 < k
        · obtain ⟨j, rfl⟩ : ∃ j, k = j + 1 := ⟨k - 1, by omega⟩
          obtain ⟨b2, off2, y, e2, hb3, hy, hry, c0, c1⟩ := HH.out.atr (k := j) (by omega)
          simp only [Option.some.injEq, Addr.mk.injEq, and_true] at e2
          obtain ⟨rfl, rfl⟩ := e2
          have y0 : ∀ s : Gr Wb, s.u.cell? ⟨b, off + j * 2, none⟩ = some (.string y.m.word) := fun s => (s.hb.cell (p := ⟨b, off + j * 2, none⟩) (Nat.lt_of_lt_of_le hb hbws)).trans ((hbw.cell (p := ⟨b, off + j * 2, none⟩) hb3).trans c0)
          have y1 : ∀ s : Gr Wb, s.u.cell? ⟨b, off + j * 2 + 1, none⟩ = some (.slice y.la y.ln y.lc) := fun s => (s.hb.cell (p := ⟨b, off + j * 2 + 1, none⟩) (Nat.lt_of_lt_of_le hb hbws)).trans ((hbw.cell (p := ⟨b, off + j * 2 + 1, none⟩) hb3).trans c1)
          have HY := Lib.hid (lastG_step hy); clear hy hry c0 c1
          have hd1 : decide ((0 : Int) < ((j + 1 : Nat) : Int)) = true := decide_eq_true (by omega)
          have hj0 : (0 : Int) ≤ (j : Int) := by omega
          have hj1 : (j : Int) < (n : Int) := by omega
          have hj2 : IntKind.i64.wrap (j : Int) = (j : Int) := IntWalk.i64_in _ (by omega)
          cases t1 : foR y z with
          | false =>
            have HF := Lib.hid (rowG_chain (m := m) (chG_no (fol := foR) HZ.out (by rw [HY.out, lnkG_some t0]; exact t1)))
            refine wp_region_calm (w0 := Wb) (by kernel_rfl) (by kernel_rfl) (Below.refl _ _).drew ?_
            repeat (go_big_quiet_step ((first | (go_at_call 91; exact calm_of (isEntry_b z.m z.la z.ln z.lc _ _ (HRR _) HFZ.out.1 HFZ.out.2 t0)) | (go_at_call 92; exact calm_of (followE_b y z _ _ t1)))))
            refine wpQuiet_nil ?_
            intro _ hw'
            obtain ⟨s7, hw''⟩ := hw'
            subst hw''
            have hb7 := hbw.trans (s7.hb.mono hbws)
            go_wp2
            go_ret
            exact ⟨ret_bool HF.out.symm, hb7⟩
          | true =>
            have HST := Lib.hid (show chG okR foR none (xs.take (j + 1 + 1)) = true by rw [chG_step HZ.out, HCH.out, HY.out, lnkG_some t0, t1]; rfl)
            refine wp_region_calm (w0 := Wb) (by kernel_rfl) (by kernel_rfl) (Below.refl _ _).drew ?_
            repeat (go_big_quiet_step ((first | (go_at_call 91; exact calm_of (isEntry_b z.m z.la z.ln z.lc _ _ (HRR _) HFZ.out.1 HFZ.out.2 t0)) | (go_at_call 92; exact calm_of (followE_b y z _ _ t1)))))
            refine wpQuiet_nil ?_
            intro _ hw'
            obtain ⟨s7, hw''⟩ := hw'
            subst hw''
            have hb7 := hbw.trans (s7.hb.mono hbws)
            go_wp2
            go_roundw
            case rel => exact ⟨j + 1 + 1, by omega, by go_num, HST, hb7⟩
            case measure => simp [intOf]; omega
        · have hd0 : decide ((0 : Int) < (k : Int)) = false := decide_eq_false (by omega)
          have HST := Lib.hid (show chG okR foR none (xs.take (k + 1)) = true by rw [chG_step HZ.out, HCH.out, show k = 0 by omega, Bool.true_and]; exact lnkG_none t0)
          have hd0' : decide (0 < k) = false := decide_eq_false (by omega)
          clear hk0
          refine wp_region_calm (w0 := Wb) (by kernel_rfl) (by kernel_rfl) (Below.refl _ _).drew ?_
          repeat (go_big_quiet_step ((first | (go_at_call 91; exact calm_of (isEntry_b z.m z.la z.ln z.lc _ _ (HRR _) HFZ.out.1 HFZ.out.2 t0)))))
          refine wpQuiet_nil ?_
          intro _ hw'
          obtain ⟨s7, hw''⟩ := hw'
          subst hw''
          have hb7 := hbw.trans (s7.hb.mono hbws)
          go_wp2
          go_roundw
          case rel => exact ⟨k + 1, by omega, by go_num, HST, hb7⟩
          case measure => simp [intOf]; omega
    · have hlt' : decide ((k : Int) < (n : Int)) = false := decide_eq_false (by omega)
      have HE := Lib.hid (show rowG m okR foR xs = true from rowG_yes (by have := HL.out; have := HM.out; omega) (chG_full HCH.out (by have := HL.out; omega)))
      go_wp2
      go_ret
      exact ⟨ret_bool HE.out.symm, hbel⟩
end Go.Proofs.Yteeodjbionjlmaa
