import Derived.Test.YtmnmmjobplbflaaChecked
import Derived.WalkKit
import Derived.ProofKit
import Derived.OpenShut
import Derived.ShutString
import Derived.ChangeOld
import Derived.Below
import Derived.Lib.Hide
import Derived.Laws.Cover1
import Derived.Deep.QuietTactic
import Derived.BigQuiet
import Derived.Deep.RegionHeld3
import Derived.Test.YtmnmmjobplbflaaZPostV
import Derived.Test.YtmnmmjobplbflaaZCalmQ
namespace Go.Proofs.Ytmnmmjobplbflaa
open Go.ChangeShapes Go.WideShapes Go.ChangeAt Go.RowKit
open Go.ChangeMaps (open_string shut_string)
set_option linter.unusedVariables false
set_option maxRecDepth 100000
theorem fits_no1 {lim : Int} {b : Bx} (h : tokB b.tok = false) : fitsB lim b = false := by simp [fitsB, h]
theorem fits_no2 {lim : Int} {b : Bx} (h : idB b.mem = false) : fitsB lim b = false := by simp [fitsB, h]
theorem fits_no3 {lim : Int} {b : Bx} (h : misB b.mis = false) : fitsB lim b = false := by simp [fitsB, h]
theorem fits_no4 {lim : Int} {b : Bx} (h : parsB b.held = false) : fitsB lim b = false := by simp [fitsB, h]
theorem fits_no5 {lim : Int} {b : Bx} (h : ¬ ((b.held.length : Int) ≤ lim)) : fitsB lim b = false := by simp [fitsB, h]
theorem linkX_no {lim : Int} {p : Option Bx} {b : Bx} (h : fitsB lim b = false) : linkX lim p b = false := by unfold linkX; rw [h]; rfl
set_option maxHeartbeats 12800000 in
theorem l04Is_any (G : Nat) (x : Int) (A : Option Addr) (n c : Nat) (rs : List Rb) (w : World) (p0 : w.cell? ⟨G, 0, none⟩ = some (.int .i64 x)) (p1 : w.cell? ⟨G, 1, none⟩ = some (.slice A n c)) (h : PostAt w w.heap.size A n rs) (hf : fitP (bxs rs)) :
    Calls Try.prog 37 #[.pointer (some ⟨G, 0, none⟩)] w fun e w' => e = .returned (.bool (postB x (bxs rs))) ∧ Below w.heap.size w w' := by
  have hn := fitP_n h hf
  have HF0 := Lib.hid hf
  have HL := Lib.hid (show (bxs rs).length = n by rw [bxs_len, h.len])
  have hG : G < w.heap.size := World.block_lt_of_cell? w _ p0
  clear hf
  cases tn : limB x with
  | false =>
    have tn' : decide (1 ≤ x ∧ x ≤ 64) = false := tn
    have HF := Lib.hid (postB_lim (bs := bxs rs) tn)
    go_enter Try.func37, Try.ntmps37
    go_wp2_with (go_at_call 45; refine (l00In_b x 1 64 _ _ tn').mono ?_; rintro e w' ⟨rfl, rfl⟩)
    go_ret
    exact ⟨ret_bool HF.out.symm, Below.refl _ _⟩
  | true =>
    have tn' : decide (1 ≤ x ∧ x ≤ 64) = true := tn
    have HN := Lib.hid tn
    by_cases hl : 32 < n
    · have HF := Lib.hid (postB_long (lim := x) (bs := bxs rs) (by have := HL.out; omega))
      have x1 : decide ((32 : Int) < (n : Int)) = true := decide_eq_true (by omega)
      go_enter Try.func37, Try.ntmps37
      go_wp2_with (go_at_call 45; refine (l00In_b x 1 64 _ _ tn').mono ?_; rintro e w' ⟨rfl, rfl⟩)
      go_ret
      exact ⟨ret_bool HF.out.symm, Below.refl _ _⟩
    have x1 : decide ((32 : Int) < (n : Int)) = false := decide_eq_false (by omega)
    have hl' : n ≤ 32 := by omega
    go_enter Try.func37, Try.ntmps37
    go_wp2_with (go_at_call 45; refine (l00In_b x 1 64 _ _ tn').mono ?_; rintro e w' ⟨rfl, rfl⟩)
    clear tn hl tn'
    have P0 := Lib.hid p0
    have P1 := Lib.hid p1
    clear p0 p1
    go_loopw [3] (fun i wr => ∃ k : Nat, k ≤ n ∧ i = .int .i64 k ∧ Hid (chainX x none ((bxs rs).take k) = true) ∧ Below w.heap.size w wr) (fun i _ => n - (intOf i).toNat)
    case atStart => exact ⟨0, by omega, rfl, Lib.hid rfl, Below.refl _ _⟩
    case round =>
      obtain ⟨k, hk, rfl, HCH, hbel⟩ := hrel
      have p0 := (hbel.cell (p := ⟨G, 0, none⟩) hG).trans P0.out
      have p1 := (hbel.cell (p := ⟨G, 1, none⟩) hG).trans P1.out
      by_cases hlt : k < n
      · have hlt' : decide ((k : Int) < (n : Int)) = true := decide_eq_true (by omega)
        obtain ⟨b, off, r, rfl, hb, hz, hr, c0, c1, c2, c3⟩ := h.atr hlt
        obtain ⟨hf1, hf2⟩ := fitP_ln h.2 HF0.out (List.mem_of_getElem? hz)
        have HZ := Lib.hid (bxs_at hz)
        have HHH := Lib.hid h
        have HLN := Lib.hid (show r.b.held.length = r.ln from hr.1)
        have g0 : ∀ s : Gr w, s.u.cell? ⟨b, off + k * 4, none⟩ = some (.string r.b.tok) := fun s => (s.hb.cell (p := ⟨b, off + k * 4, none⟩) hb).trans c0
        have g1 : ∀ s : Gr w, s.u.cell? ⟨b, off + k * 4 + 1, none⟩ = some (.int .i64 r.b.mem) := fun s => (s.hb.cell (p := ⟨b, off + k * 4 + 1, none⟩) hb).trans c1
        have g2 : ∀ s : Gr w, s.u.cell? ⟨b, off + k * 4 + 2, none⟩ = some (.int .i64 r.b.mis) := fun s => (s.hb.cell (p := ⟨b, off + k * 4 + 2, none⟩) hb).trans c2
        have g3 : ∀ s : Gr w, s.u.cell? ⟨b, off + k * 4 + 3, none⟩ = some (.slice r.la r.ln r.lc) := fun s => (s.hb.cell (p := ⟨b, off + k * 4 + 3, none⟩) hb).trans c3
        have g4 : ∀ s : Gr w, s.u.cell? ⟨G, 0, none⟩ = some (.int .i64 x) := fun s => (s.hb.cell (p := ⟨G, 0, none⟩) hG).trans P0.out
        have HSR := Lib.hid (show ∀ s : Gr w, SRow 2 bnC s.u w.heap.size r.la r.ln r.b.held from fun s => hr.below s.hb)
        have HSZ := Lib.hid (show ∀ s : Gr w, w.heap.size ≤ s.u.heap.size from fun s => s.hb.size)
        have hi0 : (0 : Int) ≤ (k : Int) := by omega
        have hi1 : (k : Int) < (n : Int) := by omega
        clear hr hz h c0 c1 c2 c3
        cases t0 : tokB r.b.tok with
        | false =>
          have y0 : ((r.b.tok.size : Int) != 16) = true := by rw [nat_bne16]; simpa [tokB] using t0
          have HF := Lib.hid (postB_chain (lim := x) (chainX_no HZ.out (linkX_no (fits_no1 t0))))
          go_wp2
          refine wp_region_calm (w0 := w) (by kernel_rfl) (by kernel_rfl) hbel.drew ?_
          repeat (go_big_quiet_step ((fail)))
          refine wpQuiet_nil ?_
          intro _ hw'
          obtain ⟨s7, hw''⟩ := hw'
          subst hw''
          have hb7 := s7.hb
          go_wp2
          go_ret
          exact ⟨ret_bool HF.out.symm, hb7⟩
        | true =>
          have y0 : ((r.b.tok.size : Int) != 16) = false := by rw [nat_bne16]; simpa [tokB] using t0
          cases t1 : idB r.b.mem with
          | false =>
            have HF := Lib.hid (postB_chain (lim := x) (chainX_no HZ.out (linkX_no (fits_no2 t1))))
            go_wp2
            refine wp_region_calm (w0 := w) (by kernel_rfl) (by kernel_rfl) hbel.drew ?_
            repeat (go_big_quiet_step ((first | (go_at_call 48; exact calm_same (l02Id_b _ _ _ t1)))))
            refine wpQuiet_nil ?_
            intro _ hw'
            obtain ⟨s7, hw''⟩ := hw'
            subst hw''
            have hb7 := s7.hb
            go_wp2
            go_ret
            exact ⟨ret_bool HF.out.symm, hb7⟩
          | true =>
            cases t2 : misB r.b.mis with
            | false =>
              have t2' : decide (0 ≤ r.b.mis ∧ r.b.mis ≤ 1000000000) = false := t2
              have HF := Lib.hid (postB_chain (lim := x) (chainX_no HZ.out (linkX_no (fits_no3 t2))))
              go_wp2
              refine wp_region_calm (w0 := w) (by kernel_rfl) (by kernel_rfl) hbel.drew ?_
              repeat (go_big_quiet_step ((first | (go_at_call 48; exact calm_same (l02Id_b _ _ _ t1)) | (go_at_call 45; exact calm_same (l00In_b r.b.mis 0 1000000000 _ _ t2')))))
              refine wpQuiet_nil ?_
              intro _ hw'
              obtain ⟨s7, hw''⟩ := hw'
              subst hw''
              have hb7 := s7.hb
              go_wp2
              go_ret
              exact ⟨ret_bool HF.out.symm, hb7⟩
            | true =>
              have t2' : decide (0 ≤ r.b.mis ∧ r.b.mis ≤ 1000000000) = true := t2
              cases t3 : parsB r.b.held with
              | false =>
                have HF := Lib.hid (postB_chain (lim := x) (chainX_no HZ.out (linkX_no (fits_no4 t3))))
                go_wp2
                refine wp_region_calm (w0 := w) (by kernel_rfl) (by kernel_rfl) hbel.drew ?_
                repeat (go_big_quiet_step ((first | (go_at_call 48; exact calm_same (l02Id_b _ _ _ t1)) | (go_at_call 45; exact calm_same (l00In_b r.b.mis 0 1000000000 _ _ t2')) | (go_at_call 51; exact calm_of (l04Parcels_b _ _ _ _ _ _ _ (HSR.out _) (HSZ.out _) hf1 t3)))))
                refine wpQuiet_nil ?_
                intro _ hw'
                obtain ⟨s7, hw''⟩ := hw'
                subst hw''
                have hb7 := s7.hb
                go_wp2
                go_ret
                exact ⟨ret_bool HF.out.symm, hb7⟩
              | true =>
                by_cases hx : (r.ln : Int) ≤ x
                rotate_left
                · have y1 : decide (x < (r.ln : Int)) = true := decide_eq_true (by omega)
                  have HF := Lib.hid (postB_chain (lim := x) (chainX_no HZ.out (linkX_no (fits_no5 (by rw [HLN.out]; exact hx)))))
                  go_wp2
                  refine wp_region_calm (w0 := w) (by kernel_rfl) (by kernel_rfl) hbel.drew ?_
                  repeat (go_big_quiet_step ((first | (go_at_call 48; exact calm_same (l02Id_b _ _ _ t1)) | (go_at_call 45; exact calm_same (l00In_b r.b.mis 0 1000000000 _ _ t2')) | (go_at_call 51; exact calm_of (l04Parcels_b _ _ _ _ _ _ _ (HSR.out _) (HSZ.out _) hf1 t3)))))
                  refine wpQuiet_nil ?_
                  intro _ hw'
                  obtain ⟨s7, hw''⟩ := hw'
                  subst hw''
                  have hb7 := s7.hb
                  go_wp2
                  go_ret
                  exact ⟨ret_bool HF.out.symm, hb7⟩
                have y1 : decide (x < (r.ln : Int)) = false := decide_eq_false (by omega)
                have HFI := Lib.hid (show fitsB x r.b = true by simp [fitsB, t0, t1, t2, t3, HLN.out, hx])
                go_wp2
                refine wp_region_calm (w0 := w) (by kernel_rfl) (by kernel_rfl) hbel.drew ?_
                repeat (go_big_quiet_step ((first | (go_at_call 48; exact calm_same (l02Id_b _ _ _ t1)) | (go_at_call 45; exact calm_same (l00In_b r.b.mis 0 1000000000 _ _ t2')) | (go_at_call 51; exact calm_of (l04Parcels_b _ _ _ _ _ _ _ (HSR.out _) (HSZ.out _) hf1 t3)))))
                refine wpQuiet_nil ?_
                intro _ hw'
                obtain ⟨s7, hw''⟩ := hw'
                subst hw''
                have hb7 := s7.hb
                go_wp2
                have p0 := (hb7.cell (p := ⟨G, 0, none⟩) hG).trans P0.out
                have p1 := (hb7.cell (p := ⟨G, 1, none⟩) hG).trans P1.out
                have c0 := g0 s7
                clear t0 t1 t2 t3 t2' y0 y1 hx g0 g1 g2 g3 g4
                by_cases hk0 : 0 < k
                · obtain ⟨j, rfl⟩ : ∃ j, k = j + 1 := ⟨k - 1, by omega⟩
                  obtain ⟨b2, off2, p, e2, hb2, hy, _, d0, _⟩ := HHH.out.atr (k := j) (by omega)
                  simp only [Option.some.injEq, Addr.mk.injEq, and_true] at e2
                  obtain ⟨rfl, rfl⟩ := e2
                  have d0 := (hb7.cell (p := ⟨b, off + j * 4, none⟩) hb2).trans d0
                  have HY := Lib.hid (bxs_at hy)
                  have HLK := Lib.hid (lastX_step HY.out)
                  clear hy
                  have hd1 : decide ((0 : Int) < ((j + 1 : Nat) : Int)) = true := decide_eq_true (by omega)
                  have hd2 : decide (0 < j + 1) = true := decide_eq_true (by omega)
                  have hj0 : (0 : Int) ≤ (j : Int) := by omega
                  have hj1 : (j : Int) < (n : Int) := by omega
                  have hj2 : IntKind.i64.wrap (j : Int) = (j : Int) := IntWalk.i64_in _ (by omega)
                  cases ho : Op.bytesLess p.b.tok.toList r.b.tok.toList with
                  | false =>
                    have HF := Lib.hid (postB_chain (lim := x) (chainX_no HZ.out (by rw [HLK.out, linkX_some, ordB, ho]; simp)))
                    go_wp2
                    go_quiet (fail)
                    go_wp2
                    go_ret
                    exact ⟨ret_bool HF.out.symm, hb7.trans (Below.mono (drew_below ⟨_, rfl⟩) hb7.size)⟩
                  | true =>
                    have HST := Lib.hid (show chainX x none ((bxs rs).take (j + 1 + 1)) = true by rw [chainX_step HZ.out, HCH.out, HLK.out, linkX_some, HFI.out, ordB, ho]; rfl)
                    go_wp2
                    go_quiet (fail)
                    go_wp2
                    go_roundw
                    case rel => exact ⟨j + 1 + 1, by omega, by go_num, HST, hb7.trans (Below.mono (drew_below ⟨_, rfl⟩) hb7.size)⟩
                    case measure => simp [intOf]; omega
                · have hd0 : decide ((0 : Int) < (k : Int)) = false := decide_eq_false (by omega)
                  have hd0' : decide (0 < k) = false := decide_eq_false (by omega)
                  have HST := Lib.hid (show chainX x none ((bxs rs).take (k + 1)) = true by rw [chainX_step HZ.out, HCH.out, show k = 0 by omega]; simpa [lastX, linkX] using HFI.out)
                  clear hk0
                  go_wp2
                  go_quiet (fail)
                  go_wp2
                  go_roundw
                  case rel => exact ⟨k + 1, by omega, by go_num, HST, hb7.trans (Below.mono (drew_below ⟨_, rfl⟩) hb7.size)⟩
                  case measure => simp [intOf]; omega
      · have hlt' : decide ((k : Int) < (n : Int)) = false := decide_eq_false (by omega)
        have HE := Lib.hid (show postB x (bxs rs) = true from postB_yes HN.out (by have := HL.out; omega) (okX_full HCH.out (by have := HL.out; omega)))
        go_wp2
        go_ret
        exact ⟨ret_bool HE.out.symm, hbel⟩
theorem spec_ValidPost_any (x : Int) (A : Option Addr) (n c : Nat) (rs : List Rb) (w : World) (h : PostAt w w.heap.size A n rs) (hf : fitP (bxs rs)) :
    Calls Try.prog 10 #[.agg #[.int .i64 x, .slice A n c]] w fun e w' => e = .returned (.bool (postB x (bxs rs))) ∧ Below w.heap.size w w' := by
  go_enter Try.func10, Try.ntmps10
  go_wp2_with fail
  obtain ⟨k0, hb0⟩ := one_box w 29 #[.int .i64 x, .slice A n c]
  generalize w.alloc (.cells #[.int .i64 x, .slice A n c] 29) = W at *
  go_at_call 37; refine (l04Is_any w.heap.size x A n c rs _ (k0.cell 0) (k0.cell 1) (h.to hb0) hf).mono ?_; rintro e w2 ⟨rfl, hb1⟩
  go_wp2
  go_ret
  exact ⟨rfl, hb0.trans (hb1.mono hb0.size)⟩
end Go.Proofs.Ytmnmmjobplbflaa
