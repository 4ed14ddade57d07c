import Derived.Test.YtkidgfnbllnbcaaChecked
import Derived.WalkKit
import Derived.ProofKit
import Derived.OpenShut
import Derived.ShutString
import Derived.ChangeOld
import Derived.Below
import Derived.Lib.Hide
import Derived.RegionTactic
import Derived.BigRegion
import Derived.Test.YtkidgfnbllnbcaaSameB
import Derived.Test.YtkidgfnbllnbcaaRoomO
namespace Go.Proofs.Ytkidgfnbllnbcaa
open Go.ChangeShapes Go.WideShapes Go.ChangeAt Go.RowKit
open Go.ChangeMaps (open_string shut_string)
set_option linter.unusedVariables false
set_option maxRecDepth 100000
theorem below_drewN {w w' : World} (h : Below w.heap.size w w') (q : Nat) : Below w.heap.size w (w'.drewN q) := h.trans (Below.mono (drew_below ⟨q, rfl⟩) h.size)
def sameRB (o o' : Bool) (ms ms' : List Mb) (vs vs' : List Iv) (bs bs' : List Bn) : Bool := (o == o') && (decide (ms = ms') && (decide (vs = vs') && decide (bs = bs')))
set_option maxHeartbeats 3200000 in
theorem impl_SameRoom_any (o : Bool) (A1 A2 A3 : Option Addr) (n1 c1 n2 c2 n3 c3 : Nat) (ms : List Mb) (vs : List Iv) (bs : List Bn) (o' : Bool) (A1' A2' A3' : Option Addr) (n1' c1' n2' c2' n3' c3' : Nat) (ms' : List Mb) (vs' : List Iv) (bs' : List Bn) (w : World)
    (h : RoomAt w w.heap.size A1 n1 A2 n2 A3 n3 ms vs bs) (h' : RoomAt w w.heap.size A1' n1' A2' n2' A3' n3' ms' vs' bs') (hn : n1 + n2 + n3 ≤ 1048576) (hn' : n1' + n2' + n3' ≤ 1048576) :
    Calls Try.prog 14 #[.agg #[.bool o, .slice A1 n1 c1, .slice A2 n2 c2, .slice A3 n3 c3], .agg #[.bool o', .slice A1' n1' c1', .slice A2' n2' c2', .slice A3' n3' c3']] w fun e w' => e = .returned (.bool (sameRB o o' ms ms' vs vs' bs bs')) ∧ Below w.heap.size w w' := by
  obtain ⟨r, hr⟩ : ∃ r, sameRB o o' ms ms' vs vs' bs bs' = r := ⟨_, rfl⟩
  have HR := Lib.hid hr
  rw [hr]
  clear hr
  obtain ⟨k0, k1, hb0⟩ := two_boxes w 33 33 #[.bool o, .slice A1 n1 c1, .slice A2 n2 c2, .slice A3 n3 c3] #[.bool o', .slice A1' n1' c1', .slice A2' n2' c2', .slice A3' n3' c3']
  have h := h.to hb0
  have h' := h'.to hb0
  have l0 := k0.cell 0; have l1 := k0.cell 1; have l2 := k0.cell 2; have l3 := k0.cell 3
  have m0 := k1.cell 0; have m1 := k1.cell 1; have m2 := k1.cell 2; have m3 := k1.cell 3
  cases eo : o == o' with
  | false =>
    have HF := Lib.hid (show r = false by rw [← HR.out]; simp [sameRB, eo])
    go_enter Try.func14, Try.ntmps14
    go_wp2
    all_goals exact bodyPost_ret (v := .bool false) (by simp [results, Try.results14, go_sem]) rfl (And.intro (by rw [HF.out]) hb0)
  | true =>
    cases eM : decide (ms = ms') with
    | false =>
      have HF := Lib.hid (show r = false by rw [← HR.out]; simp [sameRB, eo, eM])
      go_enter Try.func14, Try.ntmps14
      go_wp2_with (first | (go_at_call 46; refine (equalM_any _ _ _ _ _ _ _ _ _ _ _ h.1 h'.1 (by omega) (by omega)).mono ?_; rw [eM]; rintro e w' ⟨rfl, qM, rfl⟩))
      all_goals exact bodyPost_ret (v := .bool false) (by simp [results, Try.results14, go_sem]) rfl (And.intro (by rw [HF.out]) (below_drewN hb0 qM))
    | true =>
      cases eI : decide (vs = vs') with
      | false =>
        have HF := Lib.hid (show r = false by rw [← HR.out]; simp [sameRB, eo, eM, eI])
        go_enter Try.func14, Try.ntmps14
        go_wp2_with (first | (go_at_call 46; refine (equalM_any _ _ _ _ _ _ _ _ _ _ _ h.1 h'.1 (by omega) (by omega)).mono ?_; rw [eM]; rintro e w' ⟨rfl, qM, rfl⟩) | (go_at_call 47; refine (equalI_any _ _ _ _ _ _ _ _ _ _ _ (h.2.1.drewN qM) (h'.2.1.drewN qM) (by omega) (by omega)).mono ?_; rw [eI]; rintro e w' ⟨rfl, qI, rfl⟩))
        all_goals exact bodyPost_ret (v := .bool false) (by simp [results, Try.results14, go_sem]) rfl (And.intro (by rw [HF.out]) (by first | exact below_drewN (below_drewN hb0 qM) qI | (have := below_drewN (below_drewN hb0 qM) qI; simpa only [World.drewN_drewN] using this)))
      | true =>
        cases eB : decide (bs = bs') with
        | false =>
          have HF := Lib.hid (show r = false by rw [← HR.out]; simp [sameRB, eo, eM, eI, eB])
          go_enter Try.func14, Try.ntmps14
          go_wp2_with (first | (go_at_call 46; refine (equalM_any _ _ _ _ _ _ _ _ _ _ _ h.1 h'.1 (by omega) (by omega)).mono ?_; rw [eM]; rintro e w' ⟨rfl, qM, rfl⟩) | (go_at_call 47; refine (equalI_any _ _ _ _ _ _ _ _ _ _ _ (h.2.1.drewN qM) (h'.2.1.drewN qM) (by omega) (by omega)).mono ?_; rw [eI]; rintro e w' ⟨rfl, qI, rfl⟩) | (go_at_call 48; refine (equalB_any _ _ _ _ _ _ _ _ _ _ _ (h.2.2.drewN (qM + qI)) (h'.2.2.drewN (qM + qI)) (by omega) (by omega)).mono ?_; rw [eB]; rintro e w' ⟨rfl, qB, rfl⟩))
          all_goals exact bodyPost_ret (v := .bool false) (by simp [results, Try.results14, go_sem]) rfl (And.intro (by rw [HF.out]) (by first | exact below_drewN (below_drewN (below_drewN hb0 qM) qI) qB | (have := below_drewN (below_drewN (below_drewN hb0 qM) qI) qB; simpa only [World.drewN_drewN] using this)))
        | true =>
          have HF := Lib.hid (show r = true by rw [← HR.out]; simp [sameRB, eo, eM, eI, eB])
          go_enter Try.func14, Try.ntmps14
          go_wp2_with (first | (go_at_call 46; refine (equalM_any _ _ _ _ _ _ _ _ _ _ _ h.1 h'.1 (by omega) (by omega)).mono ?_; rw [eM]; rintro e w' ⟨rfl, qM, rfl⟩) | (go_at_call 47; refine (equalI_any _ _ _ _ _ _ _ _ _ _ _ (h.2.1.drewN qM) (h'.2.1.drewN qM) (by omega) (by omega)).mono ?_; rw [eI]; rintro e w' ⟨rfl, qI, rfl⟩) | (go_at_call 48; refine (equalB_any _ _ _ _ _ _ _ _ _ _ _ (h.2.2.drewN (qM + qI)) (h'.2.2.drewN (qM + qI)) (by omega) (by omega)).mono ?_; rw [eB]; rintro e w' ⟨rfl, qB, rfl⟩))
          all_goals exact bodyPost_ret (v := .bool true) (by simp [results, Try.results14, go_sem]) rfl (And.intro (by rw [HF.out]) (by first | exact below_drewN (below_drewN (below_drewN hb0 qM) qI) qB | (have := below_drewN (below_drewN (below_drewN hb0 qM) qI) qB; simpa only [World.drewN_drewN] using this)))
set_option maxHeartbeats 3200000 in
theorem spec_SameRoom_any (o : Bool) (A1 A2 A3 : Option Addr) (n1 c1 n2 c2 n3 c3 : Nat) (ms : List Mb) (vs : List Iv) (bs : List Bn) (o' : Bool) (A1' A2' A3' : Option Addr) (n1' c1' n2' c2' n3' c3' : Nat) (ms' : List Mb) (vs' : List Iv) (bs' : List Bn) (w : World)
    (h : RoomAt w w.heap.size A1 n1 A2 n2 A3 n3 ms vs bs) (h' : RoomAt w w.heap.size A1' n1' A2' n2' A3' n3' ms' vs' bs') (hn : n1 + n2 + n3 ≤ 1048576) (hn' : n1' + n2' + n3' ≤ 1048576) :
    Calls Try.prog 13 #[.agg #[.bool o, .slice A1 n1 c1, .slice A2 n2 c2, .slice A3 n3 c3], .agg #[.bool o', .slice A1' n1' c1', .slice A2' n2' c2', .slice A3' n3' c3']] w fun e w' => e = .returned (.bool (sameRB o o' ms ms' vs vs' bs bs')) ∧ Below w.heap.size w w' := by
  obtain ⟨r, hr⟩ : ∃ r, sameRB o o' ms ms' vs vs' bs bs' = r := ⟨_, rfl⟩
  have HR := Lib.hid hr
  rw [hr]
  clear hr
  have hgM : Try.prog.eqGuardType Try.prog.depth 58 = false := by kernel_rfl
  have hgI : Try.prog.eqGuardType Try.prog.depth 61 = false := by kernel_rfl
  have hgB : Try.prog.eqGuardType Try.prog.depth 64 = false := by kernel_rfl
  have HL1 := Lib.hid h.1.1; have HL2 := Lib.hid h.2.1.1; have HL3 := Lib.hid h.2.2.1
  have HL1' := Lib.hid h'.1.1; have HL2' := Lib.hid h'.2.1.1; have HL3' := Lib.hid h'.2.2.1
  obtain ⟨k0, k1, hb0⟩ := two_boxes w 33 33 #[.bool o, .slice A1 n1 c1, .slice A2 n2 c2, .slice A3 n3 c3] #[.bool o', .slice A1' n1' c1', .slice A2' n2' c2', .slice A3' n3' c3']
  have h := h.to hb0
  have h' := h'.to hb0
  cases eo : o == o' with
  | false =>
    have HF := Lib.hid (show r = false by rw [← HR.out]; simp [sameRB, eo])
    go_enter Try.func13, Try.ntmps13
    go_wp2
    all_goals exact bodyPost_ret (v := .bool false) (by simp [results, Try.results13, go_sem]) rfl (And.intro (by rw [HF.out]) hb0)
  | true =>
    by_cases hd1 : n1 = n1'
    case neg =>
      have HF := Lib.hid (show r = false by rw [← HR.out]; have hx : ¬ ms = ms' := (by rintro rfl; exact hd1 (HL1.out.symm.trans HL1'.out)); simp [sameRB, hx])
      have hd1' : ((n1 : Int) == (n1' : Int)) = false := by simp; omega
      clear hd1
      go_enter Try.func13, Try.ntmps13
      go_wp2
      all_goals exact bodyPost_ret (v := .bool false) (by simp [results, Try.results13, go_sem]) rfl (And.intro (by rw [HF.out]) hb0)
    subst hd1
    by_cases hd2 : n2 = n2'
    case neg =>
      have HF := Lib.hid (show r = false by rw [← HR.out]; have hx : ¬ vs = vs' := (by rintro rfl; exact hd2 (HL2.out.symm.trans HL2'.out)); simp [sameRB, hx])
      have hd2' : ((n2 : Int) == (n2' : Int)) = false := by simp; omega
      clear hd2
      go_enter Try.func13, Try.ntmps13
      go_wp2
      all_goals exact bodyPost_ret (v := .bool false) (by simp [results, Try.results13, go_sem]) rfl (And.intro (by rw [HF.out]) hb0)
    subst hd2
    by_cases hd3 : n3 = n3'
    case neg =>
      have HF := Lib.hid (show r = false by rw [← HR.out]; have hx : ¬ bs = bs' := (by rintro rfl; exact hd3 (HL3.out.symm.trans HL3'.out)); simp [sameRB, hx])
      have hd3' : ((n3 : Int) == (n3' : Int)) = false := by simp; omega
      clear hd3
      go_enter Try.func13, Try.ntmps13
      go_wp2
      all_goals exact bodyPost_ret (v := .bool false) (by simp [results, Try.results13, go_sem]) rfl (And.intro (by rw [HF.out]) hb0)
    subst hd3
    go_enter Try.func13, Try.ntmps13
    go_wp2
    generalize ((w.alloc (.cells #[.bool o, .slice A1 n1 c1, .slice A2 n2 c2, .slice A3 n3 c3] 33)).alloc (.cells #[.bool o', .slice A1' n1 c1', .slice A2' n2 c2', .slice A3' n3 c3'] 33)) = W at *
    go_loopw [5] (fun i wr => ∃ k q : Nat, k ≤ n1 ∧ i = .int .i64 k ∧ Hid (wr = W.drewN q) ∧ Hid (ms.take k = ms'.take k)) (fun i _ => n1 - (intOf i).toNat)
    case atStart => exact ⟨0, 0, by omega, rfl, Lib.hid rfl, Lib.hid rfl⟩
    case round =>
      obtain ⟨k, qM, hk, rfl, HWM, HT⟩ := hrel
      have l1 : wr.cell? ⟨w.heap.size, 1, none⟩ = some (.slice A1 n1 c1) := by rw [HWM.out]; exact k0.cell 1
      have m1 : wr.cell? ⟨w.heap.size + 1, 1, none⟩ = some (.slice A1' n1 c1') := by rw [HWM.out]; exact k1.cell 1
      have l2 : wr.cell? ⟨w.heap.size, 2, none⟩ = some (.slice A2 n2 c2) := by rw [HWM.out]; exact k0.cell 2
      have m2 : wr.cell? ⟨w.heap.size + 1, 2, none⟩ = some (.slice A2' n2 c2') := by rw [HWM.out]; exact k1.cell 2
      have l3 : wr.cell? ⟨w.heap.size, 3, none⟩ = some (.slice A3 n3 c3) := by rw [HWM.out]; exact k0.cell 3
      have m3 : wr.cell? ⟨w.heap.size + 1, 3, none⟩ = some (.slice A3' n3 c3') := by rw [HWM.out]; exact k1.cell 3
      have r1 : SRow 4 mbC wr W.heap.size A1 n1 ms := by rw [HWM.out]; exact h.1
      have r2 : SRow 4 mbC wr W.heap.size A1' n1 ms' := by rw [HWM.out]; exact h'.1
      by_cases hlt : k < n1
      · obtain ⟨b, off, z, e1, _, hz, c0_, c1_, c2_, c3_⟩ := r1.atm hlt
        obtain ⟨b', off', y, e2, _, hy, d0_, d1_, d2_, d3_⟩ := r2.atm hlt
        rw [e1] at l1; rw [e2] at m1
        have HZ := Lib.hid hz; have HY := Lib.hid hy; have HE := Lib.hid (And.intro e1 e2)
        have hp : (0 : Int) ≤ (k : Int) := by omega
        have hp2 : (k : Int) < (n1 : Int) := by omega
        clear hz hy r1 r2 e1 e2
        by_cases hzy : z = y
        · subst hzy
          have HN := Lib.hid (same_step HT.out HZ.out HY.out)
          have hne := neqM z z
          simp only [decide_true, Bool.not_true] at hne
          go_wp2
          go_region
          all_goals (try go_wp2)
          exact ⟨⟨k + 1, qM + 1, by omega, by go_num, Lib.hid (by rw [HWM.out]; show (W.drewN qM).drewN 1 = _; rw [World.drewN_drewN]), HN⟩, by simp [intOf]; omega⟩
        · have HF := Lib.hid (show r = false by rw [← HR.out]; simp [sameRB, same_not HZ.out HY.out hzy])
          have hne := neqM z y
          simp only [hzy, decide_false, Bool.not_false] at hne
          clear hzy
          go_wp2
          go_region
          all_goals (try go_wp2)
          all_goals exact bodyPost_ret (v := .bool false) (by simp [results, Try.results13, go_sem]) rfl (And.intro (by rw [HF.out]) (by rw [HWM.out]; exact (below_drewN hb0 qM).drew))
      · have HSM := Lib.hid (same_full HT.out (by have := HL1.out; omega) (by have := HL1'.out; omega))
        clear HT r1 r2
        go_wp2
        clear l1 l2 l3 m1 m2 m3
        go_loopw [6] (fun i wr => ∃ k q : Nat, k ≤ n2 ∧ i = .int .i64 k ∧ Hid (wr = W.drewN q) ∧ Hid (vs.take k = vs'.take k)) (fun i _ => n2 - (intOf i).toNat)
        case atStart => exact ⟨0, qM, by omega, rfl, HWM, Lib.hid rfl⟩
        case round =>
          obtain ⟨k, qI, hk, rfl, HWI, HT⟩ := hrel
          have l1 : wr.cell? ⟨w.heap.size, 1, none⟩ = some (.slice A1 n1 c1) := by rw [HWI.out]; exact k0.cell 1
          have m1 : wr.cell? ⟨w.heap.size + 1, 1, none⟩ = some (.slice A1' n1 c1') := by rw [HWI.out]; exact k1.cell 1
          have l2 : wr.cell? ⟨w.heap.size, 2, none⟩ = some (.slice A2 n2 c2) := by rw [HWI.out]; exact k0.cell 2
          have m2 : wr.cell? ⟨w.heap.size + 1, 2, none⟩ = some (.slice A2' n2 c2') := by rw [HWI.out]; exact k1.cell 2
          have l3 : wr.cell? ⟨w.heap.size, 3, none⟩ = some (.slice A3 n3 c3) := by rw [HWI.out]; exact k0.cell 3
          have m3 : wr.cell? ⟨w.heap.size + 1, 3, none⟩ = some (.slice A3' n3 c3') := by rw [HWI.out]; exact k1.cell 3
          have r1 : SRow 3 ivC wr W.heap.size A2 n2 vs := by rw [HWI.out]; exact h.2.1
          have r2 : SRow 3 ivC wr W.heap.size A2' n2 vs' := by rw [HWI.out]; exact h'.2.1
          by_cases hlt : k < n2
          · obtain ⟨b, off, z, e1, _, hz, c0_, c1_, c2_⟩ := r1.ativ hlt
            obtain ⟨b', off', y, e2, _, hy, d0_, d1_, d2_⟩ := r2.ativ hlt
            rw [e1] at l2; rw [e2] at m2
            have HZ := Lib.hid hz; have HY := Lib.hid hy; have HE := Lib.hid (And.intro e1 e2)
            have hp : (0 : Int) ≤ (k : Int) := by omega
            have hp2 : (k : Int) < (n2 : Int) := by omega
            clear hz hy r1 r2 e1 e2
            by_cases hzy : z = y
            · subst hzy
              have HN := Lib.hid (same_step HT.out HZ.out HY.out)
              have hne := neqI z z
              simp only [decide_true, Bool.not_true] at hne
              go_wp2
              go_region
              all_goals (try go_wp2)
              exact ⟨⟨k + 1, qI + 1, by omega, by go_num, Lib.hid (by rw [HWI.out]; show (W.drewN qI).drewN 1 = _; rw [World.drewN_drewN]), HN⟩, by simp [intOf]; omega⟩
            · have HF := Lib.hid (show r = false by rw [← HR.out]; simp [sameRB, same_not HZ.out HY.out hzy])
              have hne := neqI z y
              simp only [hzy, decide_false, Bool.not_false] at hne
              clear hzy
              go_wp2
              go_region
              all_goals (try go_wp2)
              all_goals exact bodyPost_ret (v := .bool false) (by simp [results, Try.results13, go_sem]) rfl (And.intro (by rw [HF.out]) (by rw [HWI.out]; exact (below_drewN hb0 qI).drew))
          · have HSI := Lib.hid (same_full HT.out (by have := HL2.out; omega) (by have := HL2'.out; omega))
            clear HT r1 r2
            go_wp2
            clear l1 l2 l3 m1 m2 m3
            go_loopw [7] (fun i wr => ∃ k q : Nat, k ≤ n3 ∧ i = .int .i64 k ∧ Hid (wr = W.drewN q) ∧ Hid (bs.take k = bs'.take k)) (fun i _ => n3 - (intOf i).toNat)
            case atStart => exact ⟨0, qI, by omega, rfl, HWI, Lib.hid rfl⟩
            case round =>
              obtain ⟨k, qB, hk, rfl, HWB, HT⟩ := hrel
              have l1 : wr.cell? ⟨w.heap.size, 1, none⟩ = some (.slice A1 n1 c1) := by rw [HWB.out]; exact k0.cell 1
              have m1 : wr.cell? ⟨w.heap.size + 1, 1, none⟩ = some (.slice A1' n1 c1') := by rw [HWB.out]; exact k1.cell 1
              have l2 : wr.cell? ⟨w.heap.size, 2, none⟩ = some (.slice A2 n2 c2) := by rw [HWB.out]; exact k0.cell 2
              have m2 : wr.cell? ⟨w.heap.size + 1, 2, none⟩ = some (.slice A2' n2 c2') := by rw [HWB.out]; exact k1.cell 2
              have l3 : wr.cell? ⟨w.heap.size, 3, none⟩ = some (.slice A3 n3 c3) := by rw [HWB.out]; exact k0.cell 3
              have m3 : wr.cell? ⟨w.heap.size + 1, 3, none⟩ = some (.slice A3' n3 c3') := by rw [HWB.out]; exact k1.cell 3
              have r1 : SRow 2 bnC wr W.heap.size A3 n3 bs := by rw [HWB.out]; exact h.2.2
              have r2 : SRow 2 bnC wr W.heap.size A3' n3 bs' := by rw [HWB.out]; exact h'.2.2
              by_cases hlt : k < n3
              · obtain ⟨b, off, z, e1, _, hz, c0_, c1_⟩ := r1.atbn hlt
                obtain ⟨b', off', y, e2, _, hy, d0_, d1_⟩ := r2.atbn hlt
                rw [e1] at l3; rw [e2] at m3
                have HZ := Lib.hid hz; have HY := Lib.hid hy; have HE := Lib.hid (And.intro e1 e2)
                have hp : (0 : Int) ≤ (k : Int) := by omega
                have hp2 : (k : Int) < (n3 : Int) := by omega
                clear hz hy r1 r2 e1 e2
                by_cases hzy : z = y
                · subst hzy
                  have HN := Lib.hid (same_step HT.out HZ.out HY.out)
                  have hne := neqB z z
                  simp only [decide_true, Bool.not_true] at hne
                  go_wp2
                  go_region
                  all_goals (try go_wp2)
                  exact ⟨⟨k + 1, qB + 1, by omega, by go_num, Lib.hid (by rw [HWB.out]; show (W.drewN qB).drewN 1 = _; rw [World.drewN_drewN]), HN⟩, by simp [intOf]; omega⟩
                · have HF := Lib.hid (show r = false by rw [← HR.out]; simp [sameRB, same_not HZ.out HY.out hzy])
                  have hne := neqB z y
                  simp only [hzy, decide_false, Bool.not_false] at hne
                  clear hzy
                  go_wp2
                  go_region
                  all_goals (try go_wp2)
                  all_goals exact bodyPost_ret (v := .bool false) (by simp [results, Try.results13, go_sem]) rfl (And.intro (by rw [HF.out]) (by rw [HWB.out]; exact (below_drewN hb0 qB).drew))
              · have HSB := Lib.hid (same_full HT.out (by have := HL3.out; omega) (by have := HL3'.out; omega))
                clear HT r1 r2
                have HF := Lib.hid (show r = true by rw [← HR.out]; simp [sameRB, eo, HSM.out, HSI.out, HSB.out])
                go_wp2
                all_goals exact bodyPost_ret (v := .bool true) (by simp [results, Try.results13, go_sem]) rfl (And.intro (by rw [HF.out]) (by rw [HWB.out]; exact below_drewN hb0 qB))
end Go.Proofs.Ytkidgfnbllnbcaa
