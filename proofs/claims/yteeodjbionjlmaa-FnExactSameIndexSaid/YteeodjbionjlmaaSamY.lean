import Derived.Test.YteeodjbionjlmaaChecked
import Derived.WalkKit
import Derived.ProofKit
import Derived.OpenShut
import Derived.ShutString
import Derived.ChangeOld
import Derived.Below
import Derived.Lib.Hide
import Derived.Deep.QuietTactic
import Derived.BigQuiet
import Derived.Test.YteeodjbionjlmaaSamX
namespace Go.Proofs.Yteeodjbionjlmaa
open Go.ChangeShapes Go.WideShapes Go.ChangeAt Go.RowKit
open Go.ChangeMaps (open_string shut_string)
set_option linter.unusedVariables false
set_option maxRecDepth 100000
set_option maxHeartbeats 16000000 in
theorem spec_SameIndex_any (A : Option Addr) (n c : Nat) (rs : List Re) (A' : Option Addr) (n' c' : Nat) (ts : List Re) (w : World) (h : IdxAt w w.heap.size A n rs) (h' : IdxAt w w.heap.size A' n' ts) (hf : fitE (ens rs)) (hf' : fitE (ens ts)) :
    Calls Try.prog 42 #[.agg #[.slice A n c], .agg #[.slice A' n' c']] w fun e w' => e = .returned (.bool (decide (ens rs = ens ts))) ∧ Below w.heap.size w w' := by
  have hn := fitE_n h hf
  have hn' := fitE_n h' hf'
  have HF := Lib.hid hf
  have HF' := Lib.hid hf'
  have HL := Lib.hid (show (ens rs).length = n by rw [ens_len, h.len])
  have HL' := Lib.hid (show (ens ts).length = n' by rw [ens_len, h'.len])
  clear hf hf'
  obtain ⟨k0, k1, hb0⟩ := two_boxes w 52 52 #[.slice A n c] #[.slice A' n' c']
  have hA := h.below hb0
  have hA' := h'.below hb0
  clear h h'
  have HB := Lib.hid hb0
  clear hb0
  by_cases hnm : n = n'
  · subst hnm
    go_enter Try.func42, Try.ntmps42
    go_wp2_with fail
    generalize ((w.alloc (.cells #[.slice A n c] 52)).alloc (.cells #[.slice A' n c'] 52)) = W at *
    have kl0 := k0.cell 0
    have kl1 := k1.cell 0
    go_wp2
    go_loopw [5] (fun i wr => ∃ k : Nat, k ≤ n ∧ i = .int .i64 k ∧ Hid (∃ q, wr = W.drewN q) ∧ Hid ((ens rs).take k = (ens ts).take k)) (fun i _ => n - (intOf i).toNat)
    case atStart => exact ⟨0, by omega, rfl, Lib.hid ⟨0, rfl⟩, Lib.hid rfl⟩
    case round =>
      obtain ⟨k, hk, rfl, HW, HT⟩ := hrel
      have p1 : wr.cell? ⟨w.heap.size, 0, none⟩ = some (.slice A n c) := by obtain ⟨q, hq⟩ := HW.out; rw [hq]; exact kl0
      have p1' : wr.cell? ⟨w.heap.size + 1, 0, none⟩ = some (.slice A' n c') := by obtain ⟨q, hq⟩ := HW.out; rw [hq]; exact kl1
      have h : IdxAt wr w.heap.size A n rs := by obtain ⟨q, hq⟩ := HW.out; rw [hq]; exact hA
      have h' : IdxAt wr w.heap.size A' n ts := by obtain ⟨q, hq⟩ := HW.out; rw [hq]; exact hA'
      clear kl0 kl1
      by_cases hlt : k < n
      · have hlt' : decide ((k : Int) < (n : Int)) = true := decide_eq_true (by omega)
        obtain ⟨b, off, r, rfl, hb, hz, hr, c0, c1⟩ := h.atr hlt
        obtain ⟨b', off', t, rfl, hb', hz', hr', d0, d1⟩ := h'.atr hlt
        have hf1 := (fitE_ln h.2 HF.out (List.mem_of_getElem? hz)).1
        have hf2 := (fitE_ln h'.2 HF'.out (List.mem_of_getElem? hz')).1
        have HZ := Lib.hid (ens_at hz)
        have HY := Lib.hid (ens_at hz')
        have hp : (0 : Int) ≤ (k : Int) := by omega
        have hp2 : (k : Int) < (n : Int) := by omega
        have HR := Lib.hid hr
        have HR' := Lib.hid hr'
        clear hz hz' hr hr' h h' hA hA' k0 k1
        cases q3 : (r.m.word.toList == t.m.word.toList) with
        | false =>
          have HN := Lib.hid (sameL_not HZ.out HY.out (by intro e; rw [e] at q3; simp at q3))
          go_wp2
          go_quiet (fail)
          go_wp2
          go_ret
          exact ⟨ret_bool (by simp [HN.out]), by obtain ⟨q, hq⟩ := HW.out; obtain ⟨q', hq'⟩ := drewN_exE hq; exact HB.out.trans (Below.mono (drew_below ⟨q', hq'⟩) HB.out.size)⟩
        | true =>
          cases q7 : decide (r.m.nums = t.m.nums) with
          | false =>
            have HN := Lib.hid (sameL_not HZ.out HY.out (by intro e; rw [e] at q7; simp at q7))
            have HQ := Lib.hid q7
            clear q7
            go_wp2
            go_quiet ((go_at_call 94; refine (l00Same_b r.la t.la r.ln r.lc t.ln t.lc w.heap.size w.heap.size r.m.nums t.m.nums _ _ (HR.out.drewN _) (HR'.out.drewN _) hf1 hf2 HQ.out).mono ?_; rintro e w2 ⟨rfl, q, rfl⟩; exact ⟨rfl, _, World.drewN_drewN ..⟩))
            go_wp2
            go_ret
            exact ⟨ret_bool (by simp [HN.out]), by obtain ⟨q, hq⟩ := HW.out; obtain ⟨q', hq'⟩ := drewN_exE hq; exact HB.out.trans (Below.mono (drew_below ⟨q', hq'⟩) HB.out.size)⟩
          | true =>
            have HN := Lib.hid (sameL_step HT.out HZ.out (by rw [sameE_iff.1 (show sameE r.m t.m = true by simp only [sameE, q3, q7]; rfl)]; exact HY.out))
            have HQ := Lib.hid q7
            clear q7
            go_wp2
            go_quiet ((go_at_call 94; refine (l00Same_b r.la t.la r.ln r.lc t.ln t.lc w.heap.size w.heap.size r.m.nums t.m.nums _ _ (HR.out.drewN _) (HR'.out.drewN _) hf1 hf2 HQ.out).mono ?_; rintro e w2 ⟨rfl, q, rfl⟩; exact ⟨rfl, _, World.drewN_drewN ..⟩))
            go_wp2
            go_roundw
            case rel => exact ⟨k + 1, by omega, by go_num, Lib.hid (by obtain ⟨q, hq⟩ := HW.out; exact drewN_exE hq), HN⟩
            case measure => simp [intOf]; omega
      · have hlt' : decide ((k : Int) < (n : Int)) = false := decide_eq_false (by omega)
        have HE := Lib.hid (sameL_full HT.out (by have := HL.out; omega) (by have := HL'.out; omega))
        go_wp2
        go_ret
        exact ⟨ret_bool (by simp [HE.out]), HB.out.trans (Below.mono (drew_below HW.out) HB.out.size)⟩
  · have HN := Lib.hid (show ¬ ens rs = ens ts by intro e; have a := HL.out; have b := HL'.out; rw [e] at a; exact hnm (a.symm.trans b))
    have hne : ((n : Int) == (n' : Int)) = false := by simp; omega
    have hne2 : ((n : Int) != (n' : Int)) = true := by simp; omega
    go_enter Try.func42, Try.ntmps42
    go_wp2_with fail
    generalize ((w.alloc (.cells #[.slice A n c] 52)).alloc (.cells #[.slice A' n' c'] 52)) = W at *
    have kl0 := k0.cell 0
    have kl1 := k1.cell 0
    go_wp2
    go_ret
    exact ⟨ret_bool (by simp [HN.out]), HB.out⟩
end Go.Proofs.Yteeodjbionjlmaa
