import Derived.Test.YthekkjblgnjmgaaChecked
import Derived.WalkKit
import Derived.ProofKit
import Derived.OpenShut
import Derived.ShutString
import Derived.ChangeOld
import Derived.Below
import Derived.Lib.Hide
import Derived.Deep.QuietTactic
import Derived.BigQuiet
import Derived.Test.YthekkjblgnjmgaaSameG
import Derived.Test.YthekkjblgnjmgaaSameH
namespace Go.Proofs.Ythekkjblgnjmgaa
open Go.ChangeShapes Go.WideShapes Go.ChangeAt Go.RowKit
open Go.ChangeMaps (open_string shut_string)
set_option linter.unusedVariables false
set_option maxRecDepth 100000
theorem isSame_b (a b : Mg) (la la' : Option Addr) (ln lc ln' lc' : Nat) (v : Bool) (w : World) (h : Row i64v w w.heap.size la ln a.likes) (h' : Row i64v w w.heap.size la' ln' b.likes) (hn : ln ≤ 1048576) (hn' : ln' ≤ 1048576) (hv : sameG a b = v) :
    Calls Try.prog 52 #[.agg #[.int .i64 a.num, .int .i64 a.sdr, .int .i64 a.tick, .string a.text, .int .i64 a.edits, .bool a.gone, .int .i64 a.reply, .slice la ln lc], .agg #[.int .i64 b.num, .int .i64 b.sdr, .int .i64 b.tick, .string b.text, .int .i64 b.edits, .bool b.gone, .int .i64 b.reply, .slice la' ln' lc']] w fun e w' => e = .returned (.bool v) ∧ Below w.heap.size w w' := by
  subst hv; exact isSame_any a b la la' ln lc ln' lc' w h h' hn hn'
theorem l03SameMessage_b (b o b' o' B B' : Nat) (r t : Rm) (v : Bool) (w : World) (hc : w.rangeAt b o (rmC r)) (hc' : w.rangeAt b' o' (rmC t)) (h : Row i64v w B r.la r.ln r.m.likes) (h' : Row i64v w B' t.la t.ln t.m.likes) (hn : r.ln ≤ 1048576) (hn' : t.ln ≤ 1048576) (hv : sameG r.m t.m = v) :
    Calls Try.prog 71 #[.pointer (some ⟨b, o, none⟩), .pointer (some ⟨b', o', none⟩)] w fun e w' => e = .returned (.bool v) ∧ ∃ q, w' = w.drewN q := by
  subst hv; exact l03SameMessage_any b o b' o' B B' r t w hc hc' h h' hn hn'
def sameLB (x x' : Int) (ms ns : List Mg) : Bool := (x == x') && decide (ms = ns)
set_option maxHeartbeats 3200000 in
theorem equalMsgs_any (A A' : Option Addr) (n c n' c' : Nat) (rs ts : List Rm) (v : Bool) (w : World) (h : LogAt w w.heap.size A n rs) (h' : LogAt w w.heap.size A' n' ts) (hf : fitL (mgs rs)) (hf' : fitL (mgs ts)) (hv : decide (mgs rs = mgs ts) = v) :
    Calls Try.prog 51 #[.slice A n c, .slice A' n' c', .func (.func 52) #[] #[]] w fun e w' => e = .returned (.bool v) ∧ Below w.heap.size w w' := by
  have hn := fit_n h hf
  have hn' := fit_n h' hf'
  have HF := Lib.hid hf
  have HF' := Lib.hid hf'
  have HL := Lib.hid (show (mgs rs).length = n by rw [mgs_len, h.len])
  have HL' := Lib.hid (show (mgs ts).length = n' by rw [mgs_len, h'.len])
  have HV := Lib.hid hv
  clear hv hf hf'
  by_cases hnm : n = n'
  · subst hnm
    go_enter Try.func51, Try.ntmps51
    go_wp2
    go_loopw [17] (fun i wr => ∃ k : Nat, k ≤ n ∧ i = .int .i64 k ∧ Below w.heap.size w wr ∧ Hid ((mgs rs).take k = (mgs ts).take k)) (fun i _ => n - (intOf i).toNat)
    case atStart => exact ⟨0, by omega, rfl, Below.refl _ _, Lib.hid rfl⟩
    case round =>
      obtain ⟨k, hk, rfl, hbel, HT⟩ := hrel
      by_cases hlt : k < n
      · have hlt' : decide ((k : Int) < (n : Int)) = true := decide_eq_true (by omega)
        obtain ⟨b, off, r, rfl, hb, hz, hr, c0, c1, c2, c3, c4, c5, c6, c7⟩ := (h.below hbel).atr hlt
        obtain ⟨b', off', t, rfl, hb', hz', hr', d0, d1, d2, d3, d4, d5, d6, d7⟩ := (h'.below hbel).atr hlt
        have hf1 := (fit_ln h.2 HF.out (List.mem_of_getElem? hz)).1
        have hf2 := (fit_ln h'.2 HF'.out (List.mem_of_getElem? hz')).1
        have HZ := Lib.hid (mgs_at hz)
        have HY := Lib.hid (mgs_at hz')
        have hbs := hbel.size
        have HR := Lib.hid (hr.more hbs)
        have HR' := Lib.hid (hr'.more hbs)
        have hp : (0 : Int) ≤ (k : Int) := by omega
        have hp2 : (k : Int) < (n : Int) := by omega
        have DD := fun j => World.cell?_alloc_lt wr (.cells #[.int .i64 r.m.num, .int .i64 r.m.sdr, .int .i64 r.m.tick, .string r.m.text, .int .i64 r.m.edits, .bool r.m.gone, .int .i64 r.m.reply, .slice r.la r.ln r.lc] 27) ⟨b', off' + k * 8 + j, none⟩ (by show b' < wr.heap.size; omega)
        have e0 := (World.cell?_alloc_lt wr (.cells #[.int .i64 r.m.num, .int .i64 r.m.sdr, .int .i64 r.m.tick, .string r.m.text, .int .i64 r.m.edits, .bool r.m.gone, .int .i64 r.m.reply, .slice r.la r.ln r.lc] 27) ⟨b', off' + k * 8, none⟩ (by show b' < wr.heap.size; omega)).trans d0
        have e1 := (DD 1).trans d1
        have e2 := (DD 2).trans d2
        have e3 := (DD 3).trans d3
        have e4 := (DD 4).trans d4
        have e5 := (DD 5).trans d5
        have e6 := (DD 6).trans d6
        have e7 := (DD 7).trans d7
        clear hz hz' hr hr' h h' DD
        go_wp2_with fail
        obtain ⟨kA, kB, hb1⟩ := two_boxes wr 27 27 #[.int .i64 r.m.num, .int .i64 r.m.sdr, .int .i64 r.m.tick, .string r.m.text, .int .i64 r.m.edits, .bool r.m.gone, .int .i64 r.m.reply, .slice r.la r.ln r.lc] #[.int .i64 t.m.num, .int .i64 t.m.sdr, .int .i64 t.m.tick, .string t.m.text, .int .i64 t.m.edits, .bool t.m.gone, .int .i64 t.m.reply, .slice t.la t.ln t.lc]
        generalize ((wr.alloc (.cells #[.int .i64 r.m.num, .int .i64 r.m.sdr, .int .i64 r.m.tick, .string r.m.text, .int .i64 r.m.edits, .bool r.m.gone, .int .i64 r.m.reply, .slice r.la r.ln r.lc] 27)).alloc (.cells #[.int .i64 t.m.num, .int .i64 t.m.sdr, .int .i64 t.m.tick, .string t.m.text, .int .i64 t.m.edits, .bool t.m.gone, .int .i64 t.m.reply, .slice t.la t.ln t.lc] 27)) = W1 at *
        have HR := Lib.hid (HR.out.to hb1)
        have HR' := Lib.hid (HR'.out.to hb1)
        have hbel := hbel.trans (hb1.mono hbs)
        clear hb1 c0 c1 c2 c3 c4 c5 c6 c7 d0 d1 d2 d3 d4 d5 d6 d7 e0 e1 e2 e3 e4 e5 e6 e7
        cases hs : sameG r.m t.m with
        | true =>
          have HN := Lib.hid (sameL_step HT.out HZ.out (by rw [sameG_iff.1 hs]; exact HY.out))
          go_at_call 52; refine (isSame_b _ _ _ _ _ _ _ _ _ _ HR.out HR'.out hf1 hf2 hs).mono ?_; rintro e w2 ⟨rfl, hb1⟩
          have hbel := hbel.trans (hb1.mono hbel.size)
          clear hb1
          go_wp2
          go_roundw
          case rel => exact ⟨k + 1, by omega, by go_num, hbel, HN⟩
          case measure => simp [intOf]; omega
        | false =>
          have HN := Lib.hid (sameL_not HZ.out HY.out (by intro e; rw [e, sameG_iff.2 rfl] at hs; cases hs))
          go_at_call 52; refine (isSame_b _ _ _ _ _ _ _ _ _ _ HR.out HR'.out hf1 hf2 hs).mono ?_; rintro e w2 ⟨rfl, hb1⟩
          have hbel := hbel.trans (hb1.mono hbel.size)
          clear hb1
          go_wp2
          go_ret
          exact ⟨ret_bool (by rw [← HV.out]; simp [HN.out]), hbel⟩
      · have hlt' : decide ((k : Int) < (n : Int)) = false := decide_eq_false (by omega)
        have HE := Lib.hid (sameL_full HT.out (by have := HL.out; omega) (by have := HL'.out; omega))
        go_wp2
        go_ret
        exact ⟨ret_bool (by rw [← HV.out]; simp [HE.out]), hbel⟩
  · have HN := Lib.hid (show ¬ mgs rs = mgs ts by intro e; have a := HL.out; have b := HL'.out; rw [e] at a; exact hnm (a.symm.trans b))
    have hne : ((n : Int) == (n' : Int)) = false := by simp; omega
    go_enter Try.func51, Try.ntmps51
    go_wp2
    go_ret
    exact ⟨ret_bool (by rw [← HV.out]; simp [HN.out]), Below.refl _ _⟩
theorem impl_SameLog_any (x : Int) (A : Option Addr) (n c : Nat) (rs : List Rm) (x' : Int) (A' : Option Addr) (n' c' : Nat) (ts : List Rm) (w : World) (h : LogAt w w.heap.size A n rs) (h' : LogAt w w.heap.size A' n' ts) (hf : fitL (mgs rs)) (hf' : fitL (mgs ts)) :
    Calls Try.prog 20 #[.agg #[.int .i64 x, .slice A n c], .agg #[.int .i64 x', .slice A' n' c']] w fun e w' => e = .returned (.bool (sameLB x x' (mgs rs) (mgs ts))) ∧ Below w.heap.size w w' := by
  cases ex : (x == x') with
  | false =>
    have HF := Lib.hid (show sameLB x x' (mgs rs) (mgs ts) = false by unfold sameLB; rw [ex]; rfl)
    go_enter Try.func20, Try.ntmps20
    go_wp2
    go_ret
    exact ⟨ret_bool HF.out.symm, ((Below.refl _ _).alloc (Nat.le_refl _) _).alloc (by simp) _⟩
  | true =>
    have HF := Lib.hid (show sameLB x x' (mgs rs) (mgs ts) = decide (mgs rs = mgs ts) by unfold sameLB; rw [ex]; rfl)
    obtain ⟨v, hv⟩ : ∃ v, decide (mgs rs = mgs ts) = v := ⟨_, rfl⟩
    have HV := Lib.hid hv
    clear hv
    go_enter Try.func20, Try.ntmps20
    go_wp2_with fail
    obtain ⟨k0, k1, hb0⟩ := two_boxes w 38 38 #[.int .i64 x, .slice A n c] #[.int .i64 x', .slice A' n' c']
    generalize ((w.alloc (.cells #[.int .i64 x, .slice A n c] 38)).alloc (.cells #[.int .i64 x', .slice A' n' c'] 38)) = W at *
    go_at_call 51; refine (equalMsgs_any _ _ _ _ _ _ _ _ _ _ (h.to hb0) (h'.to hb0) hf hf' HV.out).mono ?_; rintro e w2 ⟨rfl, hb1⟩
    have hb0 := hb0.trans (hb1.mono hb0.size)
    go_wp2
    go_ret
    exact ⟨ret_bool (by rw [HF.out, HV.out]), hb0⟩
set_option maxHeartbeats 3200000 in
theorem l03Same_any (G G' B B' : Nat) (x : Int) (A : Option Addr) (n c : Nat) (rs : List Rm) (x' : Int) (A' : Option Addr) (n' c' : Nat) (ts : List Rm) (w : World) (p0 : w.cell? ⟨G, 0, none⟩ = some (.int .i64 x)) (p1 : w.cell? ⟨G, 1, none⟩ = some (.slice A n c)) (p0' : w.cell? ⟨G', 0, none⟩ = some (.int .i64 x')) (p1' : w.cell? ⟨G', 1, none⟩ = some (.slice A' n' c'))
    (h : LogAt w B A n rs) (h' : LogAt w B' A' n' ts) (hf : fitL (mgs rs)) (hf' : fitL (mgs ts)) :
    Calls Try.prog 50 #[.pointer (some ⟨G, 0, none⟩), .pointer (some ⟨G', 0, none⟩)] w fun e w' => e = .returned (.bool (sameLB x x' (mgs rs) (mgs ts))) ∧ ∃ q, w' = w.drewN q := by
  have hn := fit_n h hf
  have hn' := fit_n h' hf'
  have HF := Lib.hid hf
  have HF' := Lib.hid hf'
  have HL := Lib.hid (show (mgs rs).length = n by rw [mgs_len, h.len])
  have HL' := Lib.hid (show (mgs ts).length = n' by rw [mgs_len, h'.len])
  clear hf hf'
  cases ex : (x == x') with
  | false =>
    have HN := Lib.hid (show sameLB x x' (mgs rs) (mgs ts) = false by unfold sameLB; rw [ex]; rfl)
    have en : (x != x') = true := by simp [bne, ex]
    go_enter Try.func50, Try.ntmps50
    go_wp2
    go_quiet (fail)
    go_wp2
    go_ret
    exact ⟨ret_bool HN.out.symm, _, rfl⟩
  | true =>
    have HX := Lib.hid (show sameLB x x' (mgs rs) (mgs ts) = decide (mgs rs = mgs ts) by unfold sameLB; rw [ex]; rfl)
    have en : (x != x') = false := by simp [bne, ex]
    by_cases hnm : n = n'
    · subst hnm
      go_enter Try.func50, Try.ntmps50
      go_wp2
      go_quiet (fail)
      go_wp2
      go_loopw [33] (fun i wr => ∃ k : Nat, k ≤ n ∧ i = .int .i64 k ∧ Hid (∃ q, wr = w.drewN q) ∧ Hid ((mgs rs).take k = (mgs ts).take k)) (fun i _ => n - (intOf i).toNat)
      case atStart => exact ⟨0, by omega, rfl, Lib.hid ⟨_, rfl⟩, Lib.hid rfl⟩
      case round =>
        obtain ⟨k, hk, rfl, HW, HT⟩ := hrel
        have p0 : wr.cell? ⟨G, 0, none⟩ = some (.int .i64 x) := by obtain ⟨q, hq⟩ := HW.out; rw [hq]; exact p0
        have p1 : wr.cell? ⟨G, 1, none⟩ = some (.slice A n c) := by obtain ⟨q, hq⟩ := HW.out; rw [hq]; exact p1
        have p0' : wr.cell? ⟨G', 0, none⟩ = some (.int .i64 x') := by obtain ⟨q, hq⟩ := HW.out; rw [hq]; exact p0'
        have p1' : wr.cell? ⟨G', 1, none⟩ = some (.slice A' n c') := by obtain ⟨q, hq⟩ := HW.out; rw [hq]; exact p1'
        have h : LogAt wr B A n rs := by obtain ⟨q, hq⟩ := HW.out; rw [hq]; exact h
        have h' : LogAt wr B' A' n ts := by obtain ⟨q, hq⟩ := HW.out; rw [hq]; exact h'
        by_cases hlt : k < n
        · have hlt' : decide ((k : Int) < (n : Int)) = true := decide_eq_true (by omega)
          obtain ⟨b, off, r, rfl, hb, hz, hr, hc⟩ := h.range hlt
          obtain ⟨b', off', t, rfl, hb', hz', hr', hc'⟩ := h'.range hlt
          have hf1 := (fit_ln h.2 HF.out (List.mem_of_getElem? hz)).1
          have hf2 := (fit_ln h'.2 HF'.out (List.mem_of_getElem? hz')).1
          have HZ := Lib.hid (mgs_at hz)
          have HY := Lib.hid (mgs_at hz')
          have hp : (0 : Int) ≤ (k : Int) := by omega
          have hp2 : (k : Int) < (n : Int) := by omega
          have HC := Lib.hid hc
          have HC' := Lib.hid hc'
          have HR := Lib.hid hr
          have HR' := Lib.hid hr'
          clear hz hz' hr hr' h h' hc hc'
          cases hs : sameG r.m t.m with
          | true =>
            have HN := Lib.hid (sameL_step HT.out HZ.out (by rw [sameG_iff.1 hs]; exact HY.out))
            go_wp2
            go_quiet ((go_at_call 71; exact Calls.quiet_at2 (l03SameMessage_b b (off + k * 8) b' (off' + k * 8) B B' r t _ _ (range_drewN HC.out) (range_drewN HC'.out) (HR.out.drewN _) (HR'.out.drewN _) hf1 hf2 hs)))
            go_wp2
            go_roundw
            case rel => exact ⟨k + 1, by omega, by go_num, Lib.hid (by obtain ⟨q, hq⟩ := HW.out; exact drewN_ex hq), HN⟩
            case measure => simp [intOf]; omega
          | false =>
            have HN := Lib.hid (sameL_not HZ.out HY.out (by intro e; rw [e, sameG_iff.2 rfl] at hs; cases hs))
            go_wp2
            go_quiet ((go_at_call 71; exact Calls.quiet_at2 (l03SameMessage_b b (off + k * 8) b' (off' + k * 8) B B' r t _ _ (range_drewN HC.out) (range_drewN HC'.out) (HR.out.drewN _) (HR'.out.drewN _) hf1 hf2 hs)))
            go_wp2
            go_ret
            exact ⟨ret_bool (by rw [HX.out]; simp [HN.out]), by obtain ⟨q, hq⟩ := HW.out; exact drewN_ex hq⟩
        · have hlt' : decide ((k : Int) < (n : Int)) = false := decide_eq_false (by omega)
          have HE := Lib.hid (sameL_full HT.out (by have := HL.out; omega) (by have := HL'.out; omega))
          go_wp2
          go_ret
          exact ⟨ret_bool (by rw [HX.out]; simp [HE.out]), HW.out⟩
    · have HN := Lib.hid (show ¬ mgs rs = mgs ts by intro e; have a := HL.out; have b := HL'.out; rw [e] at a; exact hnm (a.symm.trans b))
      have hne : ((n : Int) == (n' : Int)) = false := by simp; omega
      have hne2 : ((n : Int) != (n' : Int)) = true := by simp; omega
      go_enter Try.func50, Try.ntmps50
      go_wp2
      go_quiet (fail)
      go_wp2
      go_ret
      exact ⟨ret_bool (by rw [HX.out]; simp [HN.out]), _, rfl⟩
theorem spec_SameLog_any (x : Int) (A : Option Addr) (n c : Nat) (rs : List Rm) (x' : Int) (A' : Option Addr) (n' c' : Nat) (ts : List Rm) (w : World) (h : LogAt w w.heap.size A n rs) (h' : LogAt w w.heap.size A' n' ts) (hf : fitL (mgs rs)) (hf' : fitL (mgs ts)) :
    Calls Try.prog 19 #[.agg #[.int .i64 x, .slice A n c], .agg #[.int .i64 x', .slice A' n' c']] w fun e w' => e = .returned (.bool (sameLB x x' (mgs rs) (mgs ts))) ∧ Below w.heap.size w w' := by
  go_enter Try.func19, Try.ntmps19
  go_wp2_with fail
  obtain ⟨k0, k1, hb0⟩ := two_boxes w 38 38 #[.int .i64 x, .slice A n c] #[.int .i64 x', .slice A' n' c']
  generalize ((w.alloc (.cells #[.int .i64 x, .slice A n c] 38)).alloc (.cells #[.int .i64 x', .slice A' n' c'] 38)) = W at *
  go_at_call 50; refine (l03Same_any w.heap.size (w.heap.size + 1) _ _ x A n c rs x' A' n' c' ts _ (k0.cell 0) (k0.cell 1) (k1.cell 0) (k1.cell 1) (h.to hb0) (h'.to hb0) hf hf').mono ?_; rintro e w2 ⟨rfl, q, rfl⟩
  go_wp2
  go_ret
  exact ⟨rfl, hb0.trans (Below.mono (drew_below ⟨q, rfl⟩) hb0.size)⟩
end Go.Proofs.Ythekkjblgnjmgaa
