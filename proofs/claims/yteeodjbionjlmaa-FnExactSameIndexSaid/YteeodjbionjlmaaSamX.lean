import Derived.Test.YteeodjbionjlmaaChecked
import Derived.WalkKit
import Derived.ProofKit
import Derived.OpenShut
import Derived.ShutString
import Derived.ChangeOld
import Derived.Below
import Derived.Lib.Hide
import Derived.Deep.QuietTactic
import Derived.BigQuiet
import Derived.Test.YteeodjbionjlmaaSame0
import Derived.Test.YteeodjbionjlmaaIdxT
namespace Go.Proofs.Yteeodjbionjlmaa
open Go.ChangeShapes Go.WideShapes Go.ChangeAt Go.RowKit
open Go.ChangeMaps (open_string shut_string)
set_option linter.unusedVariables false
set_option maxRecDepth 100000
def sameE (a b : En) : Bool := (a.word.toList == b.word.toList) && decide (a.nums = b.nums)
theorem sameE_iff {a b : En} : sameE a b = true ↔ a = b := by
  constructor
  · intro h
    simp only [sameE, Bool.and_eq_true, beq_iff_eq, decide_eq_true_eq] at h
    obtain ⟨h0, h1⟩ := h
    have h0 := toList_injM h0
    cases a; cases b; simp_all
  · rintro rfl
    simp [sameE]
instance : DecidableEq En := fun _ _ => decidable_of_iff _ sameE_iff
theorem isSameE_b (a b : En) (la la' : Option Addr) (ln lc ln' lc' : Nat) (v : Bool) (w : World) (h : Row i64v w w.heap.size la ln a.nums) (h' : Row i64v w w.heap.size la' ln' b.nums) (hn : ln ≤ 1048576) (hn' : ln' ≤ 1048576) (hv : sameE a b = v) :
    Calls Try.prog 96 #[.agg #[.string a.word, .slice la ln lc], .agg #[.string b.word, .slice la' ln' lc']] w fun e w' => e = .returned (.bool v) ∧ Below w.heap.size w w' := by
  have HA := Lib.hid (fun o o' : Obj => (h.alloc (Nat.le_refl _) o).alloc (by simp) o')
  have HB := Lib.hid (fun o o' : Obj => (h'.alloc (Nat.le_refl _) o).alloc (by simp) o')
  clear h h'
  have HV := Lib.hid hv
  clear hv
  cases q3 : (a.word.toList == b.word.toList) with
  | false =>
    have HF := Lib.hid (show sameE a b = false by simp only [sameE, q3]; simp)
    go_enter Try.func96, Try.ntmps96
    go_wp2
    go_ret
    exact ⟨ret_bool (HF.out.symm.trans HV.out), ((Below.refl _ _).alloc (Nat.le_refl _) _).alloc (by simp) _⟩
  | true =>
    obtain ⟨u, q7⟩ : ∃ u, decide (a.nums = b.nums) = u := ⟨_, rfl⟩
    have HF := Lib.hid (show sameE a b = u by simp only [sameE, q3, q7]; simp)
    go_enter Try.func96, Try.ntmps96
    go_wp2_with (go_at_call 97; refine (slEqual_b _ _ _ _ _ _ _ _ _ _ _ _ (HA.out _ _) (HB.out _ _) hn hn' q7).mono ?_; rintro e w2 ⟨rfl, q, rfl⟩)
    go_ret
    exact ⟨ret_bool (HF.out.symm.trans HV.out), (((Below.refl _ _).alloc (Nat.le_refl _) _).alloc (by simp) _).trans (Below.mono (drew_below ⟨q, rfl⟩) (by simp; omega))⟩
set_option maxHeartbeats 3200000 in
theorem equalEnts_any (A A' : Option Addr) (n c n' c' : Nat) (rs ts : List Re) (v : Bool) (w : World) (h : IdxAt w w.heap.size A n rs) (h' : IdxAt w w.heap.size A' n' ts) (hf : fitE (ens rs)) (hf' : fitE (ens ts)) (hv : decide (ens rs = ens ts) = v) :
    Calls Try.prog 95 #[.slice A n c, .slice A' n' c', .func (.func 96) #[] #[]] w fun e w' => e = .returned (.bool v) ∧ Below w.heap.size w w' := by
  have hn := fitE_n h hf
  have hn' := fitE_n h' hf'
  have HF := Lib.hid hf
  have HF' := Lib.hid hf'
  have HL := Lib.hid (show (ens rs).length = n by rw [ens_len, h.len])
  have HL' := Lib.hid (show (ens ts).length = n' by rw [ens_len, h'.len])
  have HV := Lib.hid hv
  clear hv hf hf'
  by_cases hnm : n = n'
  · subst hnm
    go_enter Try.func95, Try.ntmps95
    go_wp2
    go_loopw [17] (fun i wr => ∃ k : Nat, k ≤ n ∧ i = .int .i64 k ∧ Below w.heap.size w wr ∧ Hid ((ens rs).take k = (ens ts).take k)) (fun i _ => n - (intOf i).toNat)
    case atStart => exact ⟨0, by omega, rfl, Below.refl _ _, Lib.hid rfl⟩
    case round =>
      obtain ⟨k, hk, rfl, hbel, HT⟩ := hrel
      by_cases hlt : k < n
      · have hlt' : decide ((k : Int) < (n : Int)) = true := decide_eq_true (by omega)
        obtain ⟨b, off, r, rfl, hb, hz, hr, c0, c1⟩ := (h.below hbel).atr hlt
        obtain ⟨b', off', t, rfl, hb', hz', hr', d0, d1⟩ := (h'.below hbel).atr hlt
        have hf1 := (fitE_ln h.2 HF.out (List.mem_of_getElem? hz)).1
        have hf2 := (fitE_ln h'.2 HF'.out (List.mem_of_getElem? hz')).1
        have HZ := Lib.hid (ens_at hz)
        have HY := Lib.hid (ens_at hz')
        have hbs := hbel.size
        have HR := Lib.hid (hr.more hbs)
        have HR' := Lib.hid (hr'.more hbs)
        have hp : (0 : Int) ≤ (k : Int) := by omega
        have hp2 : (k : Int) < (n : Int) := by omega
        have DD := fun j => World.cell?_alloc_lt wr (.cells #[.string r.m.word, .slice r.la r.ln r.lc] 100) ⟨b', off' + k * 2 + j, none⟩ (by show b' < wr.heap.size; omega)
        have e0 := (World.cell?_alloc_lt wr (.cells #[.string r.m.word, .slice r.la r.ln r.lc] 100) ⟨b', off' + k * 2, none⟩ (by show b' < wr.heap.size; omega)).trans d0
        have e1 := (DD 1).trans d1
        clear hz hz' hr hr' h h' DD
        go_wp2_with fail
        obtain ⟨kA, kB, hb1⟩ := two_boxes wr 100 100 #[.string r.m.word, .slice r.la r.ln r.lc] #[.string t.m.word, .slice t.la t.ln t.lc]
        generalize ((wr.alloc (.cells #[.string r.m.word, .slice r.la r.ln r.lc] 100)).alloc (.cells #[.string t.m.word, .slice t.la t.ln t.lc] 100)) = W1 at *
        have HR := Lib.hid (HR.out.to hb1)
        have HR' := Lib.hid (HR'.out.to hb1)
        have hbel := hbel.trans (hb1.mono hbs)
        clear hb1 c0 c1 d0 d1 e0 e1
        cases hs : sameE r.m t.m with
        | true =>
          have HN := Lib.hid (sameL_step HT.out HZ.out (by rw [sameE_iff.1 hs]; exact HY.out))
          go_at_call 96; refine (isSameE_b _ _ _ _ _ _ _ _ _ _ HR.out HR'.out hf1 hf2 hs).mono ?_; rintro e w2 ⟨rfl, hb1⟩
          have hbel := hbel.trans (hb1.mono hbel.size)
          clear hb1
          go_wp2
          go_roundw
          case rel => exact ⟨k + 1, by omega, by go_num, hbel, HN⟩
          case measure => simp [intOf]; omega
        | false =>
          have HN := Lib.hid (sameL_not HZ.out HY.out (by intro e; rw [e, sameE_iff.2 rfl] at hs; cases hs))
          go_at_call 96; refine (isSameE_b _ _ _ _ _ _ _ _ _ _ HR.out HR'.out hf1 hf2 hs).mono ?_; rintro e w2 ⟨rfl, hb1⟩
          have hbel := hbel.trans (hb1.mono hbel.size)
          clear hb1
          go_wp2
          go_ret
          exact ⟨ret_bool (by rw [← HV.out]; simp [HN.out]), hbel⟩
      · have hlt' : decide ((k : Int) < (n : Int)) = false := decide_eq_false (by omega)
        have HE := Lib.hid (sameL_full HT.out (by have := HL.out; omega) (by have := HL'.out; omega))
        go_wp2
        go_ret
        exact ⟨ret_bool (by rw [← HV.out]; simp [HE.out]), hbel⟩
  · have HN := Lib.hid (show ¬ ens rs = ens ts by intro e; have a := HL.out; have b := HL'.out; rw [e] at a; exact hnm (a.symm.trans b))
    have hne : ((n : Int) == (n' : Int)) = false := by simp; omega
    go_enter Try.func95, Try.ntmps95
    go_wp2
    go_ret
    exact ⟨ret_bool (by rw [← HV.out]; simp [HN.out]), Below.refl _ _⟩
theorem impl_SameIndex_any (A : Option Addr) (n c : Nat) (rs : List Re) (A' : Option Addr) (n' c' : Nat) (ts : List Re) (w : World) (h : IdxAt w w.heap.size A n rs) (h' : IdxAt w w.heap.size A' n' ts) (hf : fitE (ens rs)) (hf' : fitE (ens ts)) :
    Calls Try.prog 43 #[.agg #[.slice A n c], .agg #[.slice A' n' c']] w fun e w' => e = .returned (.bool (decide (ens rs = ens ts))) ∧ Below w.heap.size w w' := by
  obtain ⟨v, hv⟩ : ∃ v, decide (ens rs = ens ts) = v := ⟨_, rfl⟩
  have HV := Lib.hid hv
  clear hv
  go_enter Try.func43, Try.ntmps43
  go_wp2_with fail
  obtain ⟨k0, k1, hb0⟩ := two_boxes w 52 52 #[.slice A n c] #[.slice A' n' c']
  generalize ((w.alloc (.cells #[.slice A n c] 52)).alloc (.cells #[.slice A' n' c'] 52)) = W at *
  go_at_call 95; refine (equalEnts_any _ _ _ _ _ _ _ _ _ _ (h.to hb0) (h'.to hb0) hf hf' HV.out).mono ?_; rintro e w2 ⟨rfl, hb1⟩
  have hb0 := hb0.trans (hb1.mono hb0.size)
  go_wp2
  go_ret
  exact ⟨ret_bool (by rw [HV.out]), hb0⟩
end Go.Proofs.Yteeodjbionjlmaa
