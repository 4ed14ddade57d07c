import Derived.Test.YtgomffcdoglbfaaChecked
import Derived.WalkKit
import Derived.ProofKit
import Derived.OpenShut
import Derived.ShutString
import Derived.ChangeOld
import Derived.Below
import Derived.Lib.Hide
import Derived.Laws.StructEq
import Derived.RegionTactic
import Derived.BigRegion
import Derived.Test.YtgomffcdoglbfaaZSamE
import Derived.Test.YtgomffcdoglbfaaZSamK
import Derived.Test.YtgomffcdoglbfaaZPresV
import Derived.Test.YtgomffcdoglbfaaZPresS
namespace Go.Proofs.Ytgomffcdoglbfaa
open Go.ChangeShapes Go.WideShapes Go.ChangeAt Go.RowKit
open Go.ChangeMaps (open_string shut_string)
set_option linter.unusedVariables false
set_option maxRecDepth 100000
def samePB (hs hs' ts ts' ks ks' : List Bn) : Bool := decide (hs = hs') && (decide (ts = ts') && decide (ks = ks'))
set_option maxHeartbeats 800000 in
theorem sameLeases_any (A A' : Option Addr) (n c m d B B' : Nat) (xs ys : List Bn) (w : World) (h : SRow 2 bnC w B A n xs) (h' : SRow 2 bnC w B' A' m ys) (hn : n ≤ 1048576) (hm : m ≤ 1048576) :
    Calls Try.prog 51 #[.slice A n c, .slice A' m d] w fun e w' => e = .returned (.bool (decide (xs = ys))) ∧ ∃ q, w' = w.drewN q := by
  have HL := Lib.hid h.1
  have HL' := Lib.hid h'.1
  have hgd : Try.prog.eqGuardType Try.prog.depth 71 = false := by kernel_rfl
  by_cases hnm : n = m
  · subst hnm
    go_enter Try.func51, Try.ntmps51
    go_wp2
    go_loopw [13] (fun i wr => ∃ k q : Nat, k ≤ n ∧ i = .int .i64 k ∧ Hid (wr = w.drewN q) ∧ Hid (xs.take k = ys.take k)) (fun i _ => n - (intOf i).toNat)
    case atStart => exact ⟨0, 0, by omega, rfl, Lib.hid rfl, Lib.hid rfl⟩
    case round =>
      obtain ⟨k, q, hk, rfl, HW, HT⟩ := hrel
      have r1 : SRow 2 bnC wr B A n xs := by rw [HW.out]; exact h
      have r2 : SRow 2 bnC wr B' A' n ys := by rw [HW.out]; exact h'
      by_cases hlt : k < n
      · obtain ⟨b, off, z, rfl, hb, hz, c0, c1⟩ := r1.atbn hlt
        obtain ⟨b', off', y, rfl, hb', hy, d0, d1⟩ := r2.atbn hlt
        have HZ := Lib.hid hz
        have HY := Lib.hid hy
        have hp : (0 : Int) ≤ (k : Int) := by omega
        have hp2 : (k : Int) < (n : Int) := by omega
        clear hz hy r1 r2 h h'
        by_cases hzy : z = y
        · subst hzy
          have HN := Lib.hid (same_step HT.out HZ.out HY.out)
          have hne := neqE z z
          simp only [decide_true, Bool.not_true] at hne
          go_wp2
          go_region
          all_goals (try go_wp2)
          exact ⟨⟨k + 1, q + 1, by omega, by go_num, Lib.hid (by rw [HW.out]; show (w.drewN q).drewN 1 = _; rw [World.drewN_drewN]), HN⟩, by simp [intOf]; omega⟩
        · have HN := Lib.hid (same_not HZ.out HY.out hzy)
          have hne := neqE z y
          simp only [hzy, decide_false, Bool.not_false] at hne
          clear hzy
          go_wp2
          go_region
          all_goals (try go_wp2)
          go_ret
          exact ⟨ret_bool (by simp [HN.out]), q + 1, by rw [HW.out]; show (w.drewN q).drewN 1 = _; rw [World.drewN_drewN]⟩
      · have HF := Lib.hid (same_full HT.out (by have := HL.out; omega) (by have := HL'.out; omega))
        go_wp2
        go_ret
        exact ⟨ret_bool (by rw [HF.out]; simp), q, HW.out⟩
  · have HF := Lib.hid (show ¬ xs = ys by rintro rfl; exact hnm (HL.out.symm.trans HL'.out))
    have hne : ((n : Int) == (m : Int)) = false := by simp; omega
    go_enter Try.func51, Try.ntmps51
    go_wp2
    go_ret
    exact ⟨ret_bool (by simp [HF.out]), 0, rfl⟩
theorem sameLeases_b (A A' : Option Addr) (n c m d B B' : Nat) (xs ys : List Bn) (b : Bool) (w : World) (h : SRow 2 bnC w B A n xs) (h' : SRow 2 bnC w B' A' m ys) (hn : n ≤ 1048576) (hm : m ≤ 1048576) (hb : decide (xs = ys) = b) :
    Calls Try.prog 51 #[.slice A n c, .slice A' m d] w fun e w' => e = .returned (.bool b) ∧ ∃ q, w' = w.drewN q := by subst hb; exact sameLeases_any A A' n c m d B B' xs ys w h h' hn hm
theorem eqE_b (A A' : Option Addr) (n c m d B B' : Nat) (xs ys : List Bn) (b : Bool) (w : World) (h : SRow 2 bnC w B A n xs) (h' : SRow 2 bnC w B' A' m ys) (hn : n ≤ 1048576) (hm : m ≤ 1048576) (hb : decide (xs = ys) = b) :
    Calls Try.prog 52 #[.slice A n c, .slice A' m d] w fun e w' => e = .returned (.bool b) ∧ ∃ q, w' = w.drewN q := by subst hb; exact equalE_any A A' n c m d B B' xs ys w h h' hn hm
theorem eqK_b (A A' : Option Addr) (n c m d B B' : Nat) (xs ys : List Bn) (b : Bool) (w : World) (h : SRow 2 bnC w B A n xs) (h' : SRow 2 bnC w B' A' m ys) (hn : n ≤ 1048576) (hm : m ≤ 1048576) (hb : decide (xs = ys) = b) :
    Calls Try.prog 53 #[.slice A n c, .slice A' m d] w fun e w' => e = .returned (.bool b) ∧ ∃ q, w' = w.drewN q := by subst hb; exact equalK_any A A' n c m d B B' xs ys w h h' hn hm
set_option maxHeartbeats 3200000 in
theorem impl_SamePresence_any (A1 A2 A3 : Option Addr) (n1 c1 n2 c2 n3 c3 : Nat) (hs ts ks : List Bn) (A1' A2' A3' : Option Addr) (n1' c1' n2' c2' n3' c3' : Nat) (hs' ts' ks' : List Bn) (w : World) (h : PresAt w w.heap.size A1 n1 A2 n2 A3 n3 hs ts ks) (hn : n1 + n2 + n3 ≤ 1048576) (h' : PresAt w w.heap.size A1' n1' A2' n2' A3' n3' hs' ts' ks') (hn' : n1' + n2' + n3' ≤ 1048576) :
    Calls Try.prog 18 #[.agg #[.slice A1 n1 c1, .slice A2 n2 c2, .slice A3 n3 c3], .agg #[.slice A1' n1' c1', .slice A2' n2' c2', .slice A3' n3' c3']] w fun e w' => e = .returned (.bool (samePB hs hs' ts ts' ks ks')) ∧ Below w.heap.size w w' := by
  obtain ⟨r, hr⟩ : ∃ r, samePB hs hs' ts ts' ks ks' = r := ⟨_, rfl⟩
  have HR := Lib.hid hr
  rw [hr]
  clear hr
  go_enter Try.func18, Try.ntmps18
  go_wp2_with fail
  obtain ⟨k0, k1, hb0⟩ := two_boxes w 31 31 #[.slice A1 n1 c1, .slice A2 n2 c2, .slice A3 n3 c3] #[.slice A1' n1' c1', .slice A2' n2' c2', .slice A3' n3' c3']
  have h := h.to hb0
  have h' := h'.to hb0
  generalize ((w.alloc (.cells #[.slice A1 n1 c1, .slice A2 n2 c2, .slice A3 n3 c3] 31)).alloc (.cells #[.slice A1' n1' c1', .slice A2' n2' c2', .slice A3' n3' c3'] 31)) = W at *
  cases t1 : decide (hs = hs') with
  | false =>
    have HF := Lib.hid (show r = false by rw [← HR.out]; simp only [samePB, t1, Bool.false_and, Bool.and_false, Bool.true_and])
    go_at_call 52; refine (eqE_b _ _ _ _ _ _ _ _ _ _ _ _ h.1 h'.1 (by omega) (by omega) t1).mono ?_; rintro e w2 ⟨rfl, hq⟩
    have hbF := hb0.trans (Below.mono (drew_below hq) hb0.size)
    clear hq
    go_wp2
    go_ret
    exact ⟨ret_bool HF.out.symm, hbF⟩
  | true =>
    go_at_call 52; refine (eqE_b _ _ _ _ _ _ _ _ _ _ _ _ h.1 h'.1 (by omega) (by omega) t1).mono ?_; rintro e w2 ⟨rfl, hq⟩
    have hbq := drew_below hq
    have h := h.to hbq; have h' := h'.to hbq; have k0 := k0.below hbq k0.lt; have k1 := k1.below hbq k1.lt; have hb0 := hb0.trans (hbq.mono hb0.size)
    clear hq hbq
    have l0 := k0.cell 1; have l1 := k1.cell 1; have lt0 := k0.lt; have lt1 := k1.lt
    go_wp2_with fail
    clear l0 l1 lt0 lt1
    cases t2 : decide (ts = ts') with
    | false =>
      have HF := Lib.hid (show r = false by rw [← HR.out]; simp only [samePB, t1, t2, Bool.false_and, Bool.and_false, Bool.true_and])
      go_at_call 52; refine (eqE_b _ _ _ _ _ _ _ _ _ _ _ _ h.2.1 h'.2.1 (by omega) (by omega) t2).mono ?_; rintro e w2 ⟨rfl, hq⟩
      have hbF := hb0.trans (Below.mono (drew_below hq) hb0.size)
      clear hq
      go_wp2
      go_ret
      exact ⟨ret_bool HF.out.symm, hbF⟩
    | true =>
      go_at_call 52; refine (eqE_b _ _ _ _ _ _ _ _ _ _ _ _ h.2.1 h'.2.1 (by omega) (by omega) t2).mono ?_; rintro e w2 ⟨rfl, hq⟩
      have hbq := drew_below hq
      have h := h.to hbq; have h' := h'.to hbq; have k0 := k0.below hbq k0.lt; have k1 := k1.below hbq k1.lt; have hb0 := hb0.trans (hbq.mono hb0.size)
      clear hq hbq
      have l0 := k0.cell 2; have l1 := k1.cell 2; have lt0 := k0.lt; have lt1 := k1.lt
      go_wp2_with fail
      clear l0 l1 lt0 lt1
      cases t3 : decide (ks = ks') with
      | false =>
        have HF := Lib.hid (show r = false by rw [← HR.out]; simp only [samePB, t1, t2, t3, Bool.false_and, Bool.and_false, Bool.true_and])
        go_at_call 53; refine (eqK_b _ _ _ _ _ _ _ _ _ _ _ _ h.2.2 h'.2.2 (by omega) (by omega) t3).mono ?_; rintro e w2 ⟨rfl, hq⟩
        have hbF := hb0.trans (Below.mono (drew_below hq) hb0.size)
        clear hq
        go_wp2
        go_ret
        exact ⟨ret_bool HF.out.symm, hbF⟩
      | true =>
        have HF := Lib.hid (show r = true by rw [← HR.out]; simp only [samePB, t1, t2, t3, Bool.and_true, Bool.true_and])
        go_at_call 53; refine (eqK_b _ _ _ _ _ _ _ _ _ _ _ _ h.2.2 h'.2.2 (by omega) (by omega) t3).mono ?_; rintro e w2 ⟨rfl, hq⟩
        have hbF := hb0.trans (Below.mono (drew_below hq) hb0.size)
        clear hq
        go_wp2
        go_ret
        exact ⟨ret_bool HF.out.symm, hbF⟩
set_option maxHeartbeats 3200000 in
theorem spec_SamePresence_any (A1 A2 A3 : Option Addr) (n1 c1 n2 c2 n3 c3 : Nat) (hs ts ks : List Bn) (A1' A2' A3' : Option Addr) (n1' c1' n2' c2' n3' c3' : Nat) (hs' ts' ks' : List Bn) (w : World) (h : PresAt w w.heap.size A1 n1 A2 n2 A3 n3 hs ts ks) (hn : n1 + n2 + n3 ≤ 1048576) (h' : PresAt w w.heap.size A1' n1' A2' n2' A3' n3' hs' ts' ks') (hn' : n1' + n2' + n3' ≤ 1048576) :
    Calls Try.prog 17 #[.agg #[.slice A1 n1 c1, .slice A2 n2 c2, .slice A3 n3 c3], .agg #[.slice A1' n1' c1', .slice A2' n2' c2', .slice A3' n3' c3']] w fun e w' => e = .returned (.bool (samePB hs hs' ts ts' ks ks')) ∧ Below w.heap.size w w' := by
  obtain ⟨r, hr⟩ : ∃ r, samePB hs hs' ts ts' ks ks' = r := ⟨_, rfl⟩
  have HR := Lib.hid hr
  rw [hr]
  clear hr
  have HL := Lib.hid h.2.2.1
  have HL' := Lib.hid h'.2.2.1
  have hgd : Try.prog.eqGuardType Try.prog.depth 74 = false := by kernel_rfl
  obtain ⟨k0, k1, hb0⟩ := two_boxes w 31 31 #[.slice A1 n1 c1, .slice A2 n2 c2, .slice A3 n3 c3] #[.slice A1' n1' c1', .slice A2' n2' c2', .slice A3' n3' c3']
  by_cases hnm : n3 = n3'
  case neg =>
    have HF := Lib.hid (show r = false by rw [← HR.out]; have hx : ¬ ks = ks' := (by rintro rfl; exact hnm (HL.out.symm.trans HL'.out)); simp [samePB, hx])
    have hd : ((n3 : Int) == (n3' : Int)) = false := by simp; omega
    have hd2 : ((n3 : Int) != (n3' : Int)) = true := by simp; omega
    clear hnm
    go_enter Try.func17, Try.ntmps17
    go_wp2
    go_ret
    exact ⟨ret_bool HF.out.symm, hb0⟩
  subst hnm
  have hd : ((n3 : Int) == (n3 : Int)) = true := by simp
  have hd2 : ((n3 : Int) != (n3 : Int)) = false := by simp
  go_enter Try.func17, Try.ntmps17
  go_wp2
  clear hd hd2
  have h := h.to hb0
  have h' := h'.to hb0
  generalize ((w.alloc (.cells #[.slice A1 n1 c1, .slice A2 n2 c2, .slice A3 n3 c3] 31)).alloc (.cells #[.slice A1' n1' c1', .slice A2' n2' c2', .slice A3' n3 c3'] 31)) = W at *
  go_loopw [16] (fun i wr => ∃ k q : Nat, k ≤ n3 ∧ i = .int .i64 k ∧ Hid (wr = W.drewN q) ∧ Hid (ks.take k = ks'.take k)) (fun i _ => n3 - (intOf i).toNat)
  case atStart => exact ⟨0, 0, by omega, rfl, Lib.hid rfl, Lib.hid rfl⟩
  case round =>
    obtain ⟨k, q, hk, rfl, HW, HT⟩ := hrel
    have l2 : wr.cell? ⟨w.heap.size, 2, none⟩ = some (.slice A3 n3 c3) := by rw [HW.out]; exact k0.cell 2
    have m2 : wr.cell? ⟨w.heap.size + 1, 2, none⟩ = some (.slice A3' n3 c3') := by rw [HW.out]; exact k1.cell 2
    have r1 : SRow 2 bnC wr W.heap.size A3 n3 ks := by rw [HW.out]; exact h.2.2
    have r2 : SRow 2 bnC wr W.heap.size A3' n3 ks' := by rw [HW.out]; exact h'.2.2
    by_cases hlt : k < n3
    · obtain ⟨b, off, z, e1, _, hz, c0_, c1_⟩ := r1.atbn hlt
      obtain ⟨b', off', y, e2, _, hy, d0_, d1_⟩ := r2.atbn hlt
      rw [e1] at l2; rw [e2] at m2
      have HZ := Lib.hid hz; have HY := Lib.hid hy; have HE := Lib.hid (And.intro e1 e2)
      have hp : (0 : Int) ≤ (k : Int) := by omega
      have hp2 : (k : Int) < (n3 : Int) := by omega
      clear hz hy r1 r2 e1 e2
      by_cases hzy : z = y
      · subst hzy
        have HN := Lib.hid (same_step HT.out HZ.out HY.out)
        have hne := neqK z z
        simp only [decide_true, Bool.not_true] at hne
        go_wp2
        go_region
        all_goals (try go_wp2)
        exact ⟨⟨k + 1, q + 1, by omega, by go_num, Lib.hid (by rw [HW.out]; show (W.drewN q).drewN 1 = _; rw [World.drewN_drewN]), HN⟩, by simp [intOf]; omega⟩
      · have HF := Lib.hid (show r = false by rw [← HR.out]; simp [samePB, same_not HZ.out HY.out hzy])
        have hne := neqK z y
        simp only [hzy, decide_false, Bool.not_false] at hne
        clear hzy
        go_wp2
        go_region
        all_goals (try go_wp2)
        all_goals exact bodyPost_ret (v := .bool false) (by simp [results, Try.results17, go_sem]) rfl (And.intro (by rw [HF.out]) (by rw [HW.out]; exact (hb0.trans (Below.mono (drew_below ⟨q, rfl⟩) hb0.size)).drew))
    · have HSK := Lib.hid (same_full HT.out (by have := HL.out; omega) (by have := HL'.out; omega))
      have hbq := drew_below ⟨q, HW.out⟩
      have h := h.to hbq; have h' := h'.to hbq; have k0 := k0.below hbq k0.lt; have k1 := k1.below hbq k1.lt; have hb0 := hb0.trans (hbq.mono hb0.size)
      have HR := Lib.hid (show samePB hs hs' ts ts' ks ks' = r from HR.out)
      have t3 : decide (ks = ks') = true := decide_eq_true HSK.out
      clear HT r1 r2 l2 m2 hbq HW
      have l0 := k0.cell 0; have l1 := k1.cell 0; have lt0 := k0.lt; have lt1 := k1.lt
      go_wp2_with fail
      clear l0 l1 lt0 lt1
      cases t1 : decide (hs = hs') with
      | false =>
        have HF := Lib.hid (show r = false by rw [← HR.out]; simp only [samePB, t3, t1, Bool.false_and, Bool.and_false, Bool.true_and])
        go_at_call 51; refine (sameLeases_b _ _ _ _ _ _ _ _ _ _ _ _ h.1 h'.1 (by omega) (by omega) t1).mono ?_; rintro e w2 ⟨rfl, hq⟩
        have hbF := hb0.trans (Below.mono (drew_below hq) hb0.size)
        clear hq
        go_wp2
        go_ret
        exact ⟨ret_bool HF.out.symm, hbF⟩
      | true =>
        go_at_call 51; refine (sameLeases_b _ _ _ _ _ _ _ _ _ _ _ _ h.1 h'.1 (by omega) (by omega) t1).mono ?_; rintro e w2 ⟨rfl, hq⟩
        have hbq := drew_below hq
        have h := h.to hbq; have h' := h'.to hbq; have k0 := k0.below hbq k0.lt; have k1 := k1.below hbq k1.lt; have hb0 := hb0.trans (hbq.mono hb0.size)
        clear hq hbq
        have l0 := k0.cell 1; have l1 := k1.cell 1; have lt0 := k0.lt; have lt1 := k1.lt
        go_wp2_with fail
        clear l0 l1 lt0 lt1
        cases t2 : decide (ts = ts') with
        | false =>
          have HF := Lib.hid (show r = false by rw [← HR.out]; simp only [samePB, t3, t1, t2, Bool.false_and, Bool.and_false, Bool.true_and])
          go_at_call 51; refine (sameLeases_b _ _ _ _ _ _ _ _ _ _ _ _ h.2.1 h'.2.1 (by omega) (by omega) t2).mono ?_; rintro e w2 ⟨rfl, hq⟩
          have hbF := hb0.trans (Below.mono (drew_below hq) hb0.size)
          clear hq
          go_wp2
          go_ret
          exact ⟨ret_bool HF.out.symm, hbF⟩
        | true =>
          have HF := Lib.hid (show r = true by rw [← HR.out]; simp only [samePB, t3, t1, t2, Bool.and_true, Bool.true_and])
          go_at_call 51; refine (sameLeases_b _ _ _ _ _ _ _ _ _ _ _ _ h.2.1 h'.2.1 (by omega) (by omega) t2).mono ?_; rintro e w2 ⟨rfl, hq⟩
          have hbF := hb0.trans (Below.mono (drew_below hq) hb0.size)
          clear hq
          go_wp2
          go_ret
          exact ⟨ret_bool HF.out.symm, hbF⟩
end Go.Proofs.Ytgomffcdoglbfaa
