import Derived.Test.YtdpclbmcmgknjaaChecked
import Derived.WalkKit
import Derived.ProofKit
import Derived.OpenShut
import Derived.ShutString
import Derived.ChangeOld
import Derived.Below
import Derived.Lib.Hide
import Derived.Laws.Cover1
import Derived.Deep.QuietTactic
import Derived.BigQuiet
import Derived.Test.YtdpclbmcmgknjaaZStrS
import Derived.Test.YtdpclbmcmgknjaaZStrI
import Derived.Test.YtdpclbmcmgknjaaZChnT
namespace Go.Proofs.Ytdpclbmcmgknjaa
open Go.ChangeShapes Go.WideShapes Go.ChangeAt Go.RowKit
open Go.ChangeMaps (open_string shut_string)
set_option linter.unusedVariables false
set_option maxRecDepth 100000
set_option maxHeartbeats 12800000 in
theorem l06Strikes_wide (A : Option Addr) (n c : Nat) (xs : List Iv) (w : World) (h : SRow 3 ivC w w.heap.size A n xs) (hn : n ≤ 2000000) :
    Calls Try.prog 72 #[.slice A n c] w fun e w' => e = .returned (.bool (rowG 64 skB skF xs)) ∧ Below w.heap.size w w' := by
  have HL := Lib.hid h.1
  by_cases hl : 64 < n
  · have HF := Lib.hid (rowG_long (m := 64) (ok := skB) (fol := skF) (xs := xs) (by rw [HL.out]; exact hl))
    have x1 : decide ((64 : Int) < (n : Int)) = true := decide_eq_true (by omega)
    go_enter Try.func72, Try.ntmps72
    go_wp2
    go_ret
    exact ⟨ret_bool HF.out.symm, Below.refl _ _⟩
  have x1 : decide ((64 : Int) < (n : Int)) = false := decide_eq_false (by omega)
  have HM := Lib.hid (show n ≤ 64 by omega)
  go_enter Try.func72, Try.ntmps72
  go_wp2
  clear hl x1
  go_loopw [3] (fun i wr => ∃ k : Nat, k ≤ n ∧ i = .int .i64 k ∧ Hid (chG skB skF none (xs.take k) = true) ∧ Below w.heap.size w wr) (fun i _ => n - (intOf i).toNat)
  case atStart => exact ⟨0, by omega, rfl, Lib.hid rfl, Below.refl _ _⟩
  case round =>
    obtain ⟨k, hk, rfl, HCH, hbel⟩ := hrel
    have hbs := hbel.size
    by_cases hlt : k < n
    · obtain ⟨b, off, z, rfl, hb, hz, c0, c1, c2⟩ := h.ativ hlt
      have HZ := Lib.hid hz
      have hlt' : decide ((k : Int) < (n : Int)) = true := decide_eq_true (by omega)
      clear hz
      have HH := Lib.hid h; clear h
      have hi0 : (0 : Int) ≤ (k : Int) := by omega
      have hi1 : (k : Int) < (n : Int) := by omega
      have g0 : ∀ s : Gr wr, s.u.cell? ⟨b, off + k * 3, none⟩ = some (.int .i64 z.id) := fun s => (s.hb.cell (p := ⟨b, off + k * 3, none⟩) (Nat.lt_of_lt_of_le hb hbs)).trans ((hbel.cell (p := ⟨b, off + k * 3, none⟩) hb).trans c0)
      have g1 : ∀ s : Gr wr, s.u.cell? ⟨b, off + k * 3 + 1, none⟩ = some (.int .i64 z.byy) := fun s => (s.hb.cell (p := ⟨b, off + k * 3 + 1, none⟩) (Nat.lt_of_lt_of_le hb hbs)).trans ((hbel.cell (p := ⟨b, off + k * 3 + 1, none⟩) hb).trans c1)
      have g2 : ∀ s : Gr wr, s.u.cell? ⟨b, off + k * 3 + 2, none⟩ = some (.int .i64 z.til) := fun s => (s.hb.cell (p := ⟨b, off + k * 3 + 2, none⟩) (Nat.lt_of_lt_of_le hb hbs)).trans ((hbel.cell (p := ⟨b, off + k * 3 + 2, none⟩) hb).trans c2)
      clear c0 c1 c2
      cases t0 : skB z with
      | false =>
        have HF := Lib.hid (rowG_chain (m := 64) (chG_no (fol := skF) HZ.out (lnkG_no t0)))
        go_wp2
        refine wp_region_calm (w0 := wr) (by kernel_rfl) (by kernel_rfl) (Below.refl _ _).drew ?_
        repeat (go_big_quiet_step (((go_at_call 129; exact calm_of (l06Strike_b _ _ _ t0)))))
        refine wpQuiet_nil ?_
        intro _ hw'
        obtain ⟨s7, hw''⟩ := hw'
        subst hw''
        have hb7 := hbel.trans (s7.hb.mono hbs)
        go_wp2
        go_ret
        exact ⟨ret_bool HF.out.symm, hb7⟩
      | true =>
        by_cases hk0 : 0 < k
        · obtain ⟨j, rfl⟩ : ∃ j, k = j + 1 := ⟨k - 1, by omega⟩
          obtain ⟨b2, off2, y, e2, hb3, hy, c0, c1, c2⟩ := HH.out.ativ (k := j) (by omega)
          simp only [Option.some.injEq, Addr.mk.injEq, and_true] at e2
          obtain ⟨rfl, rfl⟩ := e2
          have y0 : ∀ s : Gr wr, s.u.cell? ⟨b, off + j * 3, none⟩ = some (.int .i64 y.id) := fun s => (s.hb.cell (p := ⟨b, off + j * 3, none⟩) (Nat.lt_of_lt_of_le hb hbs)).trans ((hbel.cell (p := ⟨b, off + j * 3, none⟩) hb3).trans c0)
          have y1 : ∀ s : Gr wr, s.u.cell? ⟨b, off + j * 3 + 1, none⟩ = some (.int .i64 y.byy) := fun s => (s.hb.cell (p := ⟨b, off + j * 3 + 1, none⟩) (Nat.lt_of_lt_of_le hb hbs)).trans ((hbel.cell (p := ⟨b, off + j * 3 + 1, none⟩) hb3).trans c1)
          have y2 : ∀ s : Gr wr, s.u.cell? ⟨b, off + j * 3 + 2, none⟩ = some (.int .i64 y.til) := fun s => (s.hb.cell (p := ⟨b, off + j * 3 + 2, none⟩) (Nat.lt_of_lt_of_le hb hbs)).trans ((hbel.cell (p := ⟨b, off + j * 3 + 2, none⟩) hb3).trans c2)
          have HY := Lib.hid (lastG_step hy); clear hy c0 c1 c2
          have hd1 : decide ((0 : Int) < ((j + 1 : Nat) : Int)) = true := decide_eq_true (by omega)
          have hd2 : decide (0 < j + 1) = true := decide_eq_true (by omega)
          have hj0 : (0 : Int) ≤ (j : Int) := by omega
          have hj1 : (j : Int) < (n : Int) := by omega
          have hj2 : IntKind.i64.wrap (j : Int) = (j : Int) := IntWalk.i64_in _ (by omega)
          cases t1 : skF y z with
          | false =>
            have HF := Lib.hid (rowG_chain (m := 64) (chG_no (fol := skF) HZ.out (by rw [HY.out, lnkG_some t0]; exact t1)))
            have t2 : decide (z.til < y.til) = true := by have h9 : decide (y.til ≤ z.til) = _ := t1; simp at h9; simp; omega
            clear t1
            go_wp2
            refine wp_region_calm (w0 := wr) (by kernel_rfl) (by kernel_rfl) (Below.refl _ _).drew ?_
            repeat (go_big_quiet_step (((go_at_call 129; exact calm_of (l06Strike_b _ _ _ t0)))))
            refine wpQuiet_nil ?_
            intro _ hw'
            obtain ⟨s7, hw''⟩ := hw'
            subst hw''
            have hb7 := hbel.trans (s7.hb.mono hbs)
            go_wp2
            go_ret
            exact ⟨ret_bool HF.out.symm, hb7⟩
          | true =>
            have HST := Lib.hid (show chG skB skF none (xs.take (j + 1 + 1)) = true by rw [chG_step HZ.out, HCH.out, HY.out, lnkG_some t0, t1]; rfl)
            have t2 : decide (z.til < y.til) = false := by have h9 : decide (y.til ≤ z.til) = _ := t1; simp at h9; simp; omega
            clear t1
            go_wp2
            refine wp_region_calm (w0 := wr) (by kernel_rfl) (by kernel_rfl) (Below.refl _ _).drew ?_
            repeat (go_big_quiet_step (((go_at_call 129; exact calm_of (l06Strike_b _ _ _ t0)))))
            refine wpQuiet_nil ?_
            intro _ hw'
            obtain ⟨s7, hw''⟩ := hw'
            subst hw''
            have hb7 := hbel.trans (s7.hb.mono hbs)
            go_wp2
            go_roundw
            case rel => exact ⟨j + 1 + 1, by omega, by go_num, HST, hb7⟩
            case measure => simp [intOf]; omega
        · have hd0 : decide ((0 : Int) < (k : Int)) = false := decide_eq_false (by omega)
          have HST := Lib.hid (show chG skB skF none (xs.take (k + 1)) = true by rw [chG_step HZ.out, HCH.out, show k = 0 by omega, Bool.true_and]; exact lnkG_none t0)
          have hd0' : decide (0 < k) = false := decide_eq_false (by omega)
          clear hk0
          go_wp2
          refine wp_region_calm (w0 := wr) (by kernel_rfl) (by kernel_rfl) (Below.refl _ _).drew ?_
          repeat (go_big_quiet_step (((go_at_call 129; exact calm_of (l06Strike_b _ _ _ t0)))))
          refine wpQuiet_nil ?_
          intro _ hw'
          obtain ⟨s7, hw''⟩ := hw'
          subst hw''
          have hb7 := hbel.trans (s7.hb.mono hbs)
          go_wp2
          go_roundw
          case rel => exact ⟨k + 1, by omega, by go_num, HST, hb7⟩
          case measure => simp [intOf]; omega
    · have hlt' : decide ((k : Int) < (n : Int)) = false := decide_eq_false (by omega)
      have HE := Lib.hid (show rowG 64 skB skF xs = true from rowG_yes (by have := HL.out; have := HM.out; omega) (chG_full HCH.out (by have := HL.out; omega)))
      go_wp2
      go_ret
      exact ⟨ret_bool HE.out.symm, hbel⟩
set_option maxHeartbeats 12800000 in
theorem isRowT_wide (A : Option Addr) (n c m : Nat) (xs : List Iv) (w : World) (h : SRow 3 ivC w w.heap.size A n xs) (hn : n ≤ 2000000) (hm : m ≤ 1000) :
    Calls Try.prog 131 #[.slice A n c, .int .i64 m, .func (.func 132) #[] #[], .func (.func 133) #[] #[]] w fun e w' => e = .returned (.bool (rowG m skB skF xs)) ∧ Below w.heap.size w w' := by
  have HL := Lib.hid h.1
  by_cases hl : m < n
  · have HF := Lib.hid (rowG_long (m := m) (ok := skB) (fol := skF) (xs := xs) (by rw [HL.out]; exact hl))
    have x1 : decide ((m : Int) < (n : Int)) = true := decide_eq_true (by omega)
    go_enter Try.func131, Try.ntmps131
    go_wp2
    go_ret
    exact ⟨ret_bool HF.out.symm, Below.refl _ _⟩
  have x1 : decide ((m : Int) < (n : Int)) = false := decide_eq_false (by omega)
  have HM := Lib.hid (show n ≤ m by omega)
  go_enter Try.func131, Try.ntmps131
  go_wp2
  clear hl x1
  go_loopw [17] (fun i wr => ∃ k : Nat, k ≤ n ∧ i = .int .i64 k ∧ Hid (chG skB skF none (xs.take k) = true) ∧ Below w.heap.size w wr) (fun i _ => n - (intOf i).toNat)
  case atStart => exact ⟨0, by omega, rfl, Lib.hid rfl, Below.refl _ _⟩
  case round =>
    obtain ⟨k, hk, rfl, HCH, hbel⟩ := hrel
    have hbs := hbel.size
    by_cases hlt : k < n
    · obtain ⟨b, off, z, rfl, hb, hz, c0, c1, c2⟩ := h.ativ hlt
      have HZ := Lib.hid hz; clear hz
      have hlt' : decide ((k : Int) < (n : Int)) = true := decide_eq_true (by omega)
      have d0 := (hbel.cell (p := ⟨b, off + k * 3, none⟩) hb).trans c0
      have d1 := (hbel.cell (p := ⟨b, off + k * 3 + 1, none⟩) hb).trans c1
      have d2 := (hbel.cell (p := ⟨b, off + k * 3 + 2, none⟩) hb).trans c2
      have HH := Lib.hid h; clear h
      have hi0 : (0 : Int) ≤ (k : Int) := by omega
      have hi1 : (k : Int) < (n : Int) := by omega
      go_wp2_with fail
      obtain ⟨kb, hba⟩ := one_box wr 50 #[.int .i64 z.id, .int .i64 z.byy, .int .i64 z.til]
      have hal := kb.lt
      have hbw := hbel.trans (hba.mono hbs)
      generalize wr.alloc (.cells #[.int .i64 z.id, .int .i64 z.byy, .int .i64 z.til] 50) = Wb at *
      have hbws := hbw.size
      have g0 : ∀ s : Gr Wb, s.u.cell? ⟨b, off + k * 3, none⟩ = some (.int .i64 z.id) := fun s => (s.hb.cell (p := ⟨b, off + k * 3, none⟩) (Nat.lt_of_lt_of_le hb hbws)).trans ((hbw.cell (p := ⟨b, off + k * 3, none⟩) hb).trans c0)
      have g1 : ∀ s : Gr Wb, s.u.cell? ⟨b, off + k * 3 + 1, none⟩ = some (.int .i64 z.byy) := fun s => (s.hb.cell (p := ⟨b, off + k * 3 + 1, none⟩) (Nat.lt_of_lt_of_le hb hbws)).trans ((hbw.cell (p := ⟨b, off + k * 3 + 1, none⟩) hb).trans c1)
      have g2 : ∀ s : Gr Wb, s.u.cell? ⟨b, off + k * 3 + 2, none⟩ = some (.int .i64 z.til) := fun s => (s.hb.cell (p := ⟨b, off + k * 3 + 2, none⟩) (Nat.lt_of_lt_of_le hb hbws)).trans ((hbw.cell (p := ⟨b, off + k * 3 + 2, none⟩) hb).trans c2)
      have x0 : ∀ s : Gr Wb, s.u.cell? ⟨wr.heap.size, 0, none⟩ = some (.int .i64 z.id) := fun s => (s.hb.cell (p := ⟨wr.heap.size, 0, none⟩) hal).trans (kb.cell 0)
      have x1 : ∀ s : Gr Wb, s.u.cell? ⟨wr.heap.size, 1, none⟩ = some (.int .i64 z.byy) := fun s => (s.hb.cell (p := ⟨wr.heap.size, 1, none⟩) hal).trans (kb.cell 1)
      have x2 : ∀ s : Gr Wb, s.u.cell? ⟨wr.heap.size, 2, none⟩ = some (.int .i64 z.til) := fun s => (s.hb.cell (p := ⟨wr.heap.size, 2, none⟩) hal).trans (kb.cell 2)
      clear c0 c1 c2 d0 d1 d2
      have HKB := Lib.hid kb; clear kb
      cases t0 : skB z with
      | false =>
        have HF := Lib.hid (rowG_chain (m := m) (chG_no (fol := skF) HZ.out (lnkG_no t0)))
        refine wp_region_calm (w0 := Wb) (by kernel_rfl) (by kernel_rfl) (Below.refl _ _).drew ?_
        repeat (go_big_quiet_step ((first | (go_at_call 132; exact calm_of (isStrike_b _ _ _ t0)))))
        refine wpQuiet_nil ?_
        intro _ hw'
        obtain ⟨s7, hw''⟩ := hw'
        subst hw''
        have hb7 := hbw.trans (s7.hb.mono hbws)
        go_wp2
        go_ret
        exact ⟨ret_bool HF.out.symm, hb7⟩
      | true =>
        by_cases hk0 : 0 < k
        · obtain ⟨j, rfl⟩ : ∃ j, k = j + 1 := ⟨k - 1, by omega⟩
          obtain ⟨b2, off2, y, e2, hb3, hy, c0, c1, c2⟩ := HH.out.ativ (k := j) (by omega)
          simp only [Option.some.injEq, Addr.mk.injEq, and_true] at e2
          obtain ⟨rfl, rfl⟩ := e2
          have y0 : ∀ s : Gr Wb, s.u.cell? ⟨b, off + j * 3, none⟩ = some (.int .i64 y.id) := fun s => (s.hb.cell (p := ⟨b, off + j * 3, none⟩) (Nat.lt_of_lt_of_le hb hbws)).trans ((hbw.cell (p := ⟨b, off + j * 3, none⟩) hb3).trans c0)
          have y1 : ∀ s : Gr Wb, s.u.cell? ⟨b, off + j * 3 + 1, none⟩ = some (.int .i64 y.byy) := fun s => (s.hb.cell (p := ⟨b, off + j * 3 + 1, none⟩) (Nat.lt_of_lt_of_le hb hbws)).trans ((hbw.cell (p := ⟨b, off + j * 3 + 1, none⟩) hb3).trans c1)
          have y2 : ∀ s : Gr Wb, s.u.cell? ⟨b, off + j * 3 + 2, none⟩ = some (.int .i64 y.til) := fun s => (s.hb.cell (p := ⟨b, off + j * 3 + 2, none⟩) (Nat.lt_of_lt_of_le hb hbws)).trans ((hbw.cell (p := ⟨b, off + j * 3 + 2, none⟩) hb3).trans c2)
          have HY := Lib.hid (lastG_step hy); clear hy c0 c1 c2
          have hd1 : decide ((0 : Int) < ((j + 1 : Nat) : Int)) = true := decide_eq_true (by omega)
          have hj0 : (0 : Int) ≤ (j : Int) := by omega
          have hj1 : (j : Int) < (n : Int) := by omega
          have hj2 : IntKind.i64.wrap (j : Int) = (j : Int) := IntWalk.i64_in _ (by omega)
          cases t1 : skF y z with
          | false =>
            have HF := Lib.hid (rowG_chain (m := m) (chG_no (fol := skF) HZ.out (by rw [HY.out, lnkG_some t0]; exact t1)))
            refine wp_region_calm (w0 := Wb) (by kernel_rfl) (by kernel_rfl) (Below.refl _ _).drew ?_
            repeat (go_big_quiet_step ((first | (go_at_call 132; exact calm_of (isStrike_b _ _ _ t0)) | (go_at_call 133; exact calm_of (follow_b _ _ _ _ t1)))))
            refine wpQuiet_nil ?_
            intro _ hw'
            obtain ⟨s7, hw''⟩ := hw'
            subst hw''
            have hb7 := hbw.trans (s7.hb.mono hbws)
            go_wp2
            go_ret
            exact ⟨ret_bool HF.out.symm, hb7⟩
          | true =>
            have HST := Lib.hid (show chG skB skF none (xs.take (j + 1 + 1)) = true by rw [chG_step HZ.out, HCH.out, HY.out, lnkG_some t0, t1]; rfl)
            refine wp_region_calm (w0 := Wb) (by kernel_rfl) (by kernel_rfl) (Below.refl _ _).drew ?_
            repeat (go_big_quiet_step ((first | (go_at_call 132; exact calm_of (isStrike_b _ _ _ t0)) | (go_at_call 133; exact calm_of (follow_b _ _ _ _ t1)))))
            refine wpQuiet_nil ?_
            intro _ hw'
            obtain ⟨s7, hw''⟩ := hw'
            subst hw''
            have hb7 := hbw.trans (s7.hb.mono hbws)
            go_wp2
            go_roundw
            case rel => exact ⟨j + 1 + 1, by omega, by go_num, HST, hb7⟩
            case measure => simp [intOf]; omega
        · have hd0 : decide ((0 : Int) < (k : Int)) = false := decide_eq_false (by omega)
          have HST := Lib.hid (show chG skB skF none (xs.take (k + 1)) = true by rw [chG_step HZ.out, HCH.out, show k = 0 by omega, Bool.true_and]; exact lnkG_none t0)
          have hd0' : decide (0 < k) = false := decide_eq_false (by omega)
          clear hk0
          refine wp_region_calm (w0 := Wb) (by kernel_rfl) (by kernel_rfl) (Below.refl _ _).drew ?_
          repeat (go_big_quiet_step ((first | (go_at_call 132; exact calm_of (isStrike_b _ _ _ t0)))))
          refine wpQuiet_nil ?_
          intro _ hw'
          obtain ⟨s7, hw''⟩ := hw'
          subst hw''
          have hb7 := hbw.trans (s7.hb.mono hbws)
          go_wp2
          go_roundw
          case rel => exact ⟨k + 1, by omega, by go_num, HST, hb7⟩
          case measure => simp [intOf]; omega
    · have hlt' : decide ((k : Int) < (n : Int)) = false := decide_eq_false (by omega)
      have HE := Lib.hid (show rowG m skB skF xs = true from rowG_yes (by have := HL.out; have := HM.out; omega) (chG_full HCH.out (by have := HL.out; omega)))
      go_wp2
      go_ret
      exact ⟨ret_bool HE.out.symm, hbel⟩
theorem impl_AreStrikes_wide (A : Option Addr) (n c : Nat) (xs : List Iv) (w : World) (h : SRow 3 ivC w w.heap.size A n xs) (hn : n ≤ 2000000) :
    Calls Try.prog 74 #[.slice A n c] w fun e w' => e = .returned (.bool (strikesB xs)) ∧ Below w.heap.size w w' := by
  go_enter Try.func74, Try.ntmps74
  go_wp2_with (go_at_call 131; refine (isRowT_wide A n c 64 xs _ h hn (by decide)).mono ?_; rintro e w' ⟨rfl, hb⟩)
  go_ret
  exact ⟨rfl, hb⟩
end Go.Proofs.Ytdpclbmcmgknjaa
