import Derived.Test.YteeodjbionjlmaaChecked
import Derived.WalkKit
import Derived.ProofKit
import Derived.OpenShut
import Derived.ShutString
import Derived.ChangeOld
import Derived.Below
import Derived.Lib.Hide
import Derived.Deep.QuietTactic
import Derived.BigQuiet
import Derived.Laws.Cover1
import Derived.Test.YteeodjbionjlmaaZIdxI
import Derived.Test.YteeodjbionjlmaaZQryS
namespace Go.Proofs.Yteeodjbionjlmaa
open Go.ChangeShapes Go.WideShapes Go.ChangeAt Go.RowKit
open Go.ChangeMaps (open_string shut_string)
set_option linter.unusedVariables false
set_option maxRecDepth 100000
theorem rises_chC : ∀ (r : List Int) (x : Int), risesB (x :: r) 1 1000000000 = (numB x && chG numB nmF (some x) r) := by
  intro r
  induction r with
  | nil => intro x; simp [risesB, chG, numB]
  | cons y r ih =>
    intro x
    show (decide (1 ≤ x ∧ x ≤ 1000000000) && decide (x < y) && risesB (y :: r) 1 1000000000) = (numB x && (lnkG numB nmF (some x) y && chG numB nmF (some y) r))
    rw [ih y]
    show (numB x && decide (x < y) && (numB y && chG numB nmF (some y) r)) = (numB x && ((numB y && decide (x < y)) && chG numB nmF (some y) r))
    cases numB x <;> cases numB y <;> cases decide (x < y) <;> simp
theorem rises_ch (xs : List Int) : chG numB nmF none xs = risesB xs 1 1000000000 := by
  cases xs with
  | nil => rfl
  | cons x r =>
    rw [rises_chC]
    show (lnkG numB nmF none x && chG numB nmF (some x) r) = _
    simp [lnkG]
set_option maxHeartbeats 12800000 in
theorem l08Is_any (G : Nat) (A : Option Addr) (n c : Nat) (rs : List Re) (w : World) (p0 : w.cell? ⟨G, 0, none⟩ = some (.slice A n c)) (hG : G < w.heap.size) (h : IdxAt w w.heap.size A n rs) (hf : fitE (ens rs)) :
    Calls Try.prog 88 #[.pointer (some ⟨G, 0, none⟩)] w fun e w' => e = .returned (.bool (idxB rs)) ∧ Below w.heap.size w w' := by
  have hn := fitE_n h hf
  have HL := Lib.hid h.len
  have HF0 := Lib.hid hf
  clear hf
  go_enter Try.func88, Try.ntmps88
  go_wp2
  go_loopw [3] (fun i wr => ∃ k : Nat, k ≤ n ∧ i = .int .i64 k ∧ Hid (chG okR foR none (rs.take k) = true) ∧ Below w.heap.size w wr) (fun i _ => n - (intOf i).toNat)
  case atStart => exact ⟨0, by omega, rfl, Lib.hid rfl, Below.refl _ _⟩
  case round =>
    obtain ⟨k, hk, rfl, HCH, hbel⟩ := hrel
    have hbs := hbel.size
    have pr := (hbel.cell (p := ⟨G, 0, none⟩) hG).trans p0
    by_cases hlt : k < n
    · obtain ⟨b, off, z, rfl, hb, hz, hrz, c0, c1⟩ := h.atr hlt
      have hlt' : decide ((k : Int) < (n : Int)) = true := decide_eq_true (by omega)
      have HFZ := Lib.hid (fitE_ln h.2 HF0.out (List.mem_of_getElem? hz))
      have hs : z.m.word.size ≤ maxLen := by have := HFZ.out.2; unfold maxLen; omega
      have hzn := HFZ.out.1
      have HLN := Lib.hid (show z.m.nums.length = z.ln from hrz.1)
      have HZ := Lib.hid hz; clear hz
      have HH := Lib.hid h; clear h
      have hi0 : (0 : Int) ≤ (k : Int) := by omega
      have hi1 : (k : Int) < (n : Int) := by omega
      have g0 : ∀ s : Gr wr, s.u.cell? ⟨b, off + k * 2, none⟩ = some (.string z.m.word) := fun s => (s.hb.cell (p := ⟨b, off + k * 2, none⟩) (Nat.lt_of_lt_of_le hb hbs)).trans ((hbel.cell (p := ⟨b, off + k * 2, none⟩) hb).trans c0)
      have g1 : ∀ s : Gr wr, s.u.cell? ⟨b, off + k * 2 + 1, none⟩ = some (.slice z.la z.ln z.lc) := fun s => (s.hb.cell (p := ⟨b, off + k * 2 + 1, none⟩) (Nat.lt_of_lt_of_le hb hbs)).trans ((hbel.cell (p := ⟨b, off + k * 2 + 1, none⟩) hb).trans c1)
      have gp : ∀ s : Gr wr, s.u.cell? ⟨G, 0, none⟩ = some (.slice (some ⟨b, off, none⟩) n c) := fun s => (s.hb.cell (p := ⟨G, 0, none⟩) (Nat.lt_of_lt_of_le hG hbs)).trans pr
      have HRR := fun s : Gr wr => (hrz.below (hbel.trans (s.hb.mono hbs))).more (hbel.trans (s.hb.mono hbs)).size
      clear c0 c1 hrz
      cases t0 : qwB z.m.word with
      | false =>
        have HF := Lib.hid (show idxB rs = false from chG_no (fol := foR) HZ.out (lnkG_no (by simp only [okR, entB, t0]; rfl)))
        go_wp2
        refine wp_region_calm (w0 := wr) (by kernel_rfl) (by kernel_rfl) (Below.refl _ _).drew ?_
        repeat (go_big_quiet_step ((go_at_call 98; exact calm_of (l08Word_b _ _ _ hs t0))))
        refine wpQuiet_nil ?_
        intro _ hw'
        obtain ⟨s7, hw''⟩ := hw'
        subst hw''
        have hb7 := hbel.trans (s7.hb.mono hbs)
        go_wp2
        go_ret
        exact ⟨ret_bool HF.out.symm, hb7⟩
      | true =>
        by_cases hk0 : 0 < k
        · obtain ⟨j, rfl⟩ : ∃ j, k = j + 1 := ⟨k - 1, by omega⟩
          obtain ⟨b2, off2, y, e2, hb3, hy, hry, c0, c1⟩ := HH.out.atr (k := j) (by omega)
          simp only [Option.some.injEq, Addr.mk.injEq, and_true] at e2
          obtain ⟨rfl, rfl⟩ := e2
          have y0 : ∀ s : Gr wr, s.u.cell? ⟨b, off + j * 2, none⟩ = some (.string y.m.word) := fun s => (s.hb.cell (p := ⟨b, off + j * 2, none⟩) (Nat.lt_of_lt_of_le hb hbs)).trans ((hbel.cell (p := ⟨b, off + j * 2, none⟩) hb3).trans c0)
          have HY := Lib.hid (lastG_step hy); clear hy hry c0 c1
          have hd1 : decide ((0 : Int) < ((j + 1 : Nat) : Int)) = true := decide_eq_true (by omega)
          have hd2 : decide (0 < j + 1) = true := decide_eq_true (by omega)
          have hj0 : (0 : Int) ≤ (j : Int) := by omega
          have hj1 : (j : Int) < (n : Int) := by omega
          have hj2 : IntKind.i64.wrap (j : Int) = (j : Int) := IntWalk.i64_in _ (by omega)
          cases t1 : foR y z with
          | false =>
            have HF := Lib.hid (show idxB rs = false from chG_no (fol := foR) HZ.out (by rw [HY.out]; simp [lnkG, t1]))
            have t2 : Op.bytesLess y.m.word.toList z.m.word.toList = false := by exact t1
            clear t1
            go_wp2
            refine wp_region_calm (w0 := wr) (by kernel_rfl) (by kernel_rfl) (Below.refl _ _).drew ?_
            repeat (go_big_quiet_step ((go_at_call 98; exact calm_of (l08Word_b _ _ _ hs t0))))
            refine wpQuiet_nil ?_
            intro _ hw'
            obtain ⟨s7, hw''⟩ := hw'
            subst hw''
            have hb7 := hbel.trans (s7.hb.mono hbs)
            go_wp2
            go_ret
            exact ⟨ret_bool HF.out.symm, hb7⟩
          | true =>
            have HST := Lib.hid (show okR z = true → chG okR foR none (rs.take (j + 1 + 1)) = true from fun ho => by rw [chG_step HZ.out, HCH.out, HY.out, lnkG_some ho, t1]; rfl)
            have t2 : Op.bytesLess y.m.word.toList z.m.word.toList = true := by exact t1
            clear t1
            go_wp2
            refine wp_region_calm (w0 := wr) (by kernel_rfl) (by kernel_rfl) (Below.refl _ _).drew ?_
            repeat (go_big_quiet_step ((go_at_call 98; exact calm_of (l08Word_b _ _ _ hs t0))))
            refine wpQuiet_nil ?_
            intro _ hw'
            obtain ⟨s7, hw''⟩ := hw'
            subst hw''
            have hb7 := hbel.trans (s7.hb.mono hbs)
            clear y0
            try simp only [hj2]
            clear hj2 hd1 hd2
            have e1 := g1 s7
            have hr7 := HRR s7
            clear g0 g1 gp HRR
            by_cases l1 : z.ln < 1
            · have q1 : decide ((z.ln : Int) < 1) = true := decide_eq_true (by omega)
              have HF := Lib.hid (show idxB rs = false from chG_no (fol := foR) HZ.out (lnkG_no (by simp only [okR, entB, HLN.out, show decide (1 ≤ z.ln) = false from decide_eq_false (by omega)]; simp)))
              go_wp2
              go_ret
              exact ⟨ret_bool HF.out.symm, hb7⟩
            have q1 : decide ((z.ln : Int) < 1) = false := decide_eq_false (by omega)
            by_cases l2 : 40 < z.ln
            · have q2 : decide ((40 : Int) < (z.ln : Int)) = true := decide_eq_true (by omega)
              have HF := Lib.hid (show idxB rs = false from chG_no (fol := foR) HZ.out (lnkG_no (by simp only [okR, entB, numsB, rowG, HLN.out, show decide (z.ln ≤ 40) = false from decide_eq_false (by omega)]; simp)))
              go_wp2
              go_ret
              exact ⟨ret_bool HF.out.symm, hb7⟩
            have q2 : decide ((40 : Int) < (z.ln : Int)) = false := decide_eq_false (by omega)
            have HOK := Lib.hid (show okR z = risesB z.m.nums 1 1000000000 by simp only [okR, entB, numsB, rowG, HLN.out, t0, show decide (z.ln ≤ 40) = true from decide_eq_true (by omega), show decide (1 ≤ z.ln) = true from decide_eq_true (by omega), rises_ch]; simp)
            obtain ⟨u, hu⟩ : ∃ u, risesB z.m.nums 1 1000000000 = u := ⟨_, rfl⟩
            have HU := Lib.hid hu
            clear hu
            cases u with
            | false =>
              have HF := Lib.hid (show idxB rs = false from chG_no (fol := foR) HZ.out (lnkG_no (by rw [HOK.out, HU.out])))
              go_wp2_with (go_at_call 141; refine (l00Rises_any _ _ _ _ _ _ _ _ hr7 (by omega)).mono ?_; rw [HU.out]; rintro e w8 ⟨rfl, q, rfl⟩)
              have hb8 := hb7.trans (Below.mono (drew_below ⟨q, rfl⟩) hb7.size)
              go_ret
              exact ⟨ret_bool HF.out.symm, hb8⟩
            | true =>
              have HST2 := HST.out (by rw [HOK.out, HU.out])
              have HST3 := Lib.hid HST2
              clear HST2
              go_wp2_with (go_at_call 141; refine (l00Rises_any _ _ _ _ _ _ _ _ hr7 (by omega)).mono ?_; rw [HU.out]; rintro e w8 ⟨rfl, q, rfl⟩)
              have hb8 := hb7.trans (Below.mono (drew_below ⟨q, rfl⟩) hb7.size)
              go_roundw
              case rel => exact ⟨j + 1 + 1, by omega, by go_num, HST3, hb8⟩
              case measure => simp [intOf]; omega
        · have hd0 : decide ((0 : Int) < (k : Int)) = false := decide_eq_false (by omega)
          have HST := Lib.hid (show okR z = true → chG okR foR none (rs.take (k + 1)) = true from fun ho => by rw [chG_step HZ.out, HCH.out, show k = 0 by omega, Bool.true_and]; exact lnkG_none ho)
          have hd0' : decide (0 < k) = false := decide_eq_false (by omega)
          clear hk0
          go_wp2
          refine wp_region_calm (w0 := wr) (by kernel_rfl) (by kernel_rfl) (Below.refl _ _).drew ?_
          repeat (go_big_quiet_step ((go_at_call 98; exact calm_of (l08Word_b _ _ _ hs t0))))
          refine wpQuiet_nil ?_
          intro _ hw'
          obtain ⟨s7, hw''⟩ := hw'
          subst hw''
          have hb7 := hbel.trans (s7.hb.mono hbs)
          have e1 := g1 s7
          have hr7 := HRR s7
          clear g0 g1 gp HRR
          by_cases l1 : z.ln < 1
          · have q1 : decide ((z.ln : Int) < 1) = true := decide_eq_true (by omega)
            have HF := Lib.hid (show idxB rs = false from chG_no (fol := foR) HZ.out (lnkG_no (by simp only [okR, entB, HLN.out, show decide (1 ≤ z.ln) = false from decide_eq_false (by omega)]; simp)))
            go_wp2
            go_ret
            exact ⟨ret_bool HF.out.symm, hb7⟩
          have q1 : decide ((z.ln : Int) < 1) = false := decide_eq_false (by omega)
          by_cases l2 : 40 < z.ln
          · have q2 : decide ((40 : Int) < (z.ln : Int)) = true := decide_eq_true (by omega)
            have HF := Lib.hid (show idxB rs = false from chG_no (fol := foR) HZ.out (lnkG_no (by simp only [okR, entB, numsB, rowG, HLN.out, show decide (z.ln ≤ 40) = false from decide_eq_false (by omega)]; simp)))
            go_wp2
            go_ret
            exact ⟨ret_bool HF.out.symm, hb7⟩
          have q2 : decide ((40 : Int) < (z.ln : Int)) = false := decide_eq_false (by omega)
          have HOK := Lib.hid (show okR z = risesB z.m.nums 1 1000000000 by simp only [okR, entB, numsB, rowG, HLN.out, t0, show decide (z.ln ≤ 40) = true from decide_eq_true (by omega), show decide (1 ≤ z.ln) = true from decide_eq_true (by omega), rises_ch]; simp)
          obtain ⟨u, hu⟩ : ∃ u, risesB z.m.nums 1 1000000000 = u := ⟨_, rfl⟩
          have HU := Lib.hid hu
          clear hu
          cases u with
          | false =>
            have HF := Lib.hid (show idxB rs = false from chG_no (fol := foR) HZ.out (lnkG_no (by rw [HOK.out, HU.out])))
            go_wp2_with (go_at_call 141; refine (l00Rises_any _ _ _ _ _ _ _ _ hr7 (by omega)).mono ?_; rw [HU.out]; rintro e w8 ⟨rfl, q, rfl⟩)
            have hb8 := hb7.trans (Below.mono (drew_below ⟨q, rfl⟩) hb7.size)
            go_ret
            exact ⟨ret_bool HF.out.symm, hb8⟩
          | true =>
            have HST2 := HST.out (by rw [HOK.out, HU.out])
            have HST3 := Lib.hid HST2
            clear HST2
            go_wp2_with (go_at_call 141; refine (l00Rises_any _ _ _ _ _ _ _ _ hr7 (by omega)).mono ?_; rw [HU.out]; rintro e w8 ⟨rfl, q, rfl⟩)
            have hb8 := hb7.trans (Below.mono (drew_below ⟨q, rfl⟩) hb7.size)
            go_roundw
            case rel => exact ⟨k + 1, by omega, by go_num, HST3, hb8⟩
            case measure => simp [intOf]; omega
    · have hlt' : decide ((k : Int) < (n : Int)) = false := decide_eq_false (by omega)
      have HE := Lib.hid (show idxB rs = true from chG_full HCH.out (by have := HL.out; omega))
      go_wp2
      go_ret
      exact ⟨ret_bool HE.out.symm, hbel⟩
theorem spec_ValidIndex_any (A : Option Addr) (n c : Nat) (rs : List Re) (w : World) (h : IdxAt w w.heap.size A n rs) (hf : fitE (ens rs)) :
    Calls Try.prog 38 #[.agg #[.slice A n c]] w fun e w' => e = .returned (.bool (idxB rs)) ∧ Below w.heap.size w w' := by
  go_enter Try.func38, Try.ntmps38
  go_wp2_with fail
  obtain ⟨k0, hb0⟩ := one_box w 52 #[.slice A n c]
  generalize w.alloc (.cells #[.slice A n c] 52) = W at *
  go_at_call 88; refine (l08Is_any w.heap.size A n c rs _ (k0.cell 0) k0.lt (h.to hb0) hf).mono ?_; rintro e w2 ⟨rfl, hb2⟩
  have hb := hb0.trans (hb2.mono hb0.size)
  clear hb0 hb2 k0
  go_wp2
  go_ret
  exact ⟨rfl, hb⟩
end Go.Proofs.Yteeodjbionjlmaa
