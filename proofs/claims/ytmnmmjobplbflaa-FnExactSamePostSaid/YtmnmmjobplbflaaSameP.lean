import Derived.Test.YtmnmmjobplbflaaChecked
import Derived.WalkKit
import Derived.ProofKit
import Derived.OpenShut
import Derived.ShutString
import Derived.ChangeOld
import Derived.Below
import Derived.Lib.Hide
import Derived.Deep.QuietTactic
import Derived.BigQuiet
import Derived.Test.YtmnmmjobplbflaaPostV
import Derived.Test.YtmnmmjobplbflaaSamQ
namespace Go.Proofs.Ytmnmmjobplbflaa
open Go.ChangeShapes Go.WideShapes Go.ChangeAt Go.RowKit
open Go.ChangeMaps (open_string shut_string)
set_option linter.unusedVariables false
set_option maxRecDepth 100000
theorem toList_injX {a b : ByteArray} (h : a.toList = b.toList) : a = b := by
  rw [ByteArray.toList_eq, ByteArray.toList_eq] at h
  have ext : ∀ a b : ByteArray, a.data = b.data → a = b := fun a b h => by cases a; cases b; simp_all
  exact ext a b (Array.ext' h)
def sameX (a b : Bx) : Bool := (a.tok.toList == b.tok.toList) && ((a.mem == b.mem) && ((a.mis == b.mis) && (decide (a.held = b.held))))
theorem sameX_iff {a b : Bx} : sameX a b = true ↔ a = b := by
  constructor
  · intro h
    simp only [sameX, Bool.and_eq_true, beq_iff_eq, decide_eq_true_eq] at h
    obtain ⟨h0, h1, h2, h3⟩ := h
    have h0 := toList_injX h0
    cases a; cases b; simp_all
  · rintro rfl
    simp [sameX]
instance : DecidableEq Bx := fun _ _ => decidable_of_iff _ sameX_iff
theorem sameX_step {α : Type} {xs ys : List α} {k : Nat} {z : α} (h : xs.take k = ys.take k) (h1 : xs[k]? = some z) (h2 : ys[k]? = some z) : xs.take (k + 1) = ys.take (k + 1) := by
  rw [List.take_add_one, List.take_add_one, h, h1, h2]
theorem sameX_not {α : Type} {xs ys : List α} {k : Nat} {z y : α} (h1 : xs[k]? = some z) (h2 : ys[k]? = some y) (h : z ≠ y) : ¬ xs = ys := by
  rintro rfl
  rw [h1] at h2
  exact h (by injection h2)
theorem sameX_full {α : Type} {xs ys : List α} {k : Nat} (h : xs.take k = ys.take k) (h1 : xs.length ≤ k) (h2 : ys.length ≤ k) : xs = ys := by
  rwa [List.take_of_length_le h1, List.take_of_length_le h2] at h
theorem equalP_b (A A' : Option Addr) (n c m d B B' : Nat) (xs ys : List Bn) (v : Bool) (w : World) (h : SRow 2 bnC w B A n xs) (h' : SRow 2 bnC w B' A' m ys) (hn : n ≤ 1048576) (hm : m ≤ 1048576) (hv : decide (xs = ys) = v) :
    Calls Try.prog 62 #[.slice A n c, .slice A' m d] w fun e w' => e = .returned (.bool v) ∧ ∃ q, w' = w.drewN q := by
  subst hv; exact equalP_any A A' n c m d B B' xs ys w h h' hn hm
theorem l04Same_b (A A' : Option Addr) (n c m d B B' : Nat) (xs ys : List Bn) (v : Bool) (w : World) (h : SRow 2 bnC w B A n xs) (h' : SRow 2 bnC w B' A' m ys) (hn : n ≤ 1048576) (hm : m ≤ 1048576) (hv : decide (xs = ys) = v) :
    Calls Try.prog 42 #[.slice A n c, .slice A' m d] w fun e w' => e = .returned (.bool v) ∧ ∃ q, w' = w.drewN q := by
  subst hv; exact l04Same_any A A' n c m d B B' xs ys w h h' hn hm
set_option maxHeartbeats 3200000 in
theorem isSameBox_b (a b : Bx) (la la' : Option Addr) (ln lc ln' lc' : Nat) (v : Bool) (w : World) (h : SRow 2 bnC w w.heap.size la ln a.held) (h' : SRow 2 bnC w w.heap.size la' ln' b.held) (hn : ln ≤ 1048576) (hn' : ln' ≤ 1048576) (hv : sameX a b = v) :
    Calls Try.prog 44 #[.agg #[.string a.tok, .int .i64 a.mem, .int .i64 a.mis, .slice la ln lc], .agg #[.string b.tok, .int .i64 b.mem, .int .i64 b.mis, .slice la' ln' lc']] w fun e w' => e = .returned (.bool v) ∧ Below w.heap.size w w' := by
  subst hv
  have HA := Lib.hid (fun o o' : Obj => (h.alloc (Nat.le_refl _) o).alloc (by simp) o')
  have HB := Lib.hid (fun o o' : Obj => (h'.alloc (Nat.le_refl _) o).alloc (by simp) o')
  clear h h'
  cases q0 : (a.tok.toList == b.tok.toList) with
  | false =>
    have HF := Lib.hid (show sameX a b = false by simp only [sameX, q0]; simp)
    go_enter Try.func44, Try.ntmps44
    go_wp2
    go_ret
    exact ⟨ret_bool HF.out.symm, ((Below.refl _ _).alloc (Nat.le_refl _) _).alloc (by simp) _⟩
  | true =>
    cases q1 : (a.mem == b.mem) with
    | false =>
      have HF := Lib.hid (show sameX a b = false by simp only [sameX, q0, q1]; simp)
      go_enter Try.func44, Try.ntmps44
      go_wp2
      go_ret
      exact ⟨ret_bool HF.out.symm, ((Below.refl _ _).alloc (Nat.le_refl _) _).alloc (by simp) _⟩
    | true =>
      cases q2 : (a.mis == b.mis) with
      | false =>
        have HF := Lib.hid (show sameX a b = false by simp only [sameX, q0, q1, q2]; simp)
        go_enter Try.func44, Try.ntmps44
        go_wp2
        go_ret
        exact ⟨ret_bool HF.out.symm, ((Below.refl _ _).alloc (Nat.le_refl _) _).alloc (by simp) _⟩
      | true =>
        cases q3 : decide (a.held = b.held) with
        | false =>
          have HF := Lib.hid (show sameX a b = false by simp only [sameX, q0, q1, q2, q3]; simp)
          go_enter Try.func44, Try.ntmps44
          go_wp2_with (go_at_call 62; refine (equalP_b _ _ _ _ _ _ _ _ _ _ _ _ (HA.out _ _) (HB.out _ _) hn hn' q3).mono ?_; rintro e w2 ⟨rfl, q, rfl⟩)
          go_ret
          exact ⟨ret_bool HF.out.symm, (((Below.refl _ _).alloc (Nat.le_refl _) _).alloc (by simp) _).trans (Below.mono (drew_below ⟨q, rfl⟩) (by simp; omega))⟩
        | true =>
          have HF := Lib.hid (show sameX a b = true by simp only [sameX, q0, q1, q2, q3]; rfl)
          go_enter Try.func44, Try.ntmps44
          go_wp2_with (go_at_call 62; refine (equalP_b _ _ _ _ _ _ _ _ _ _ _ _ (HA.out _ _) (HB.out _ _) hn hn' q3).mono ?_; rintro e w2 ⟨rfl, q, rfl⟩)
          go_ret
          exact ⟨ret_bool HF.out.symm, (((Below.refl _ _).alloc (Nat.le_refl _) _).alloc (by simp) _).trans (Below.mono (drew_below ⟨q, rfl⟩) (by simp; omega))⟩
def samePB (x x' : Int) (ms ns : List Bx) : Bool := (x == x') && decide (ms = ns)
set_option maxHeartbeats 3200000 in
theorem equalBoxes_any (A A' : Option Addr) (n c n' c' : Nat) (rs ts : List Rb) (v : Bool) (w : World) (h : PostAt w w.heap.size A n rs) (h' : PostAt w w.heap.size A' n' ts) (hf : fitP (bxs rs)) (hf' : fitP (bxs ts)) (hv : decide (bxs rs = bxs ts) = v) :
    Calls Try.prog 43 #[.slice A n c, .slice A' n' c', .func (.func 44) #[] #[]] w fun e w' => e = .returned (.bool v) ∧ Below w.heap.size w w' := by
  have hn := fitP_n h hf
  have hn' := fitP_n h' hf'
  have HF := Lib.hid hf
  have HF' := Lib.hid hf'
  have HL := Lib.hid (show (bxs rs).length = n by rw [bxs_len, h.len])
  have HL' := Lib.hid (show (bxs ts).length = n' by rw [bxs_len, h'.len])
  have HV := Lib.hid hv
  clear hv hf hf'
  by_cases hnm : n = n'
  · subst hnm
    go_enter Try.func43, Try.ntmps43
    go_wp2
    go_loopw [17] (fun i wr => ∃ k : Nat, k ≤ n ∧ i = .int .i64 k ∧ Below w.heap.size w wr ∧ Hid ((bxs rs).take k = (bxs ts).take k)) (fun i _ => n - (intOf i).toNat)
    case atStart => exact ⟨0, by omega, rfl, Below.refl _ _, Lib.hid rfl⟩
    case round =>
      obtain ⟨k, hk, rfl, hbel, HT⟩ := hrel
      by_cases hlt : k < n
      · have hlt' : decide ((k : Int) < (n : Int)) = true := decide_eq_true (by omega)
        obtain ⟨b, off, r, rfl, hb, hz, hr, c0, c1, c2, c3⟩ := (h.below hbel).atr hlt
        obtain ⟨b', off', t, rfl, hb', hz', hr', d0, d1, d2, d3⟩ := (h'.below hbel).atr hlt
        have hf1 := (fitP_ln h.2 HF.out (List.mem_of_getElem? hz)).1
        have hf2 := (fitP_ln h'.2 HF'.out (List.mem_of_getElem? hz')).1
        have HZ := Lib.hid (bxs_at hz)
        have HY := Lib.hid (bxs_at hz')
        have hbs := hbel.size
        have HR := Lib.hid (hr.more hbs)
        have HR' := Lib.hid (hr'.more hbs)
        have hp : (0 : Int) ≤ (k : Int) := by omega
        have hp2 : (k : Int) < (n : Int) := by omega
        have DD := fun j => World.cell?_alloc_lt wr (.cells #[.string r.b.tok, .int .i64 r.b.mem, .int .i64 r.b.mis, .slice r.la r.ln r.lc] 62) ⟨b', off' + k * 4 + j, none⟩ (by show b' < wr.heap.size; omega)
        have e0 := (World.cell?_alloc_lt wr (.cells #[.string r.b.tok, .int .i64 r.b.mem, .int .i64 r.b.mis, .slice r.la r.ln r.lc] 62) ⟨b', off' + k * 4, none⟩ (by show b' < wr.heap.size; omega)).trans d0
        have e1 := (DD 1).trans d1
        have e2 := (DD 2).trans d2
        have e3 := (DD 3).trans d3
        clear hz hz' hr hr' h h' DD
        go_wp2_with fail
        obtain ⟨kA, kB, hb1⟩ := two_boxes wr 62 62 #[.string r.b.tok, .int .i64 r.b.mem, .int .i64 r.b.mis, .slice r.la r.ln r.lc] #[.string t.b.tok, .int .i64 t.b.mem, .int .i64 t.b.mis, .slice t.la t.ln t.lc]
        generalize ((wr.alloc (.cells #[.string r.b.tok, .int .i64 r.b.mem, .int .i64 r.b.mis, .slice r.la r.ln r.lc] 62)).alloc (.cells #[.string t.b.tok, .int .i64 t.b.mem, .int .i64 t.b.mis, .slice t.la t.ln t.lc] 62)) = W1 at *
        have HR := Lib.hid (HR.out.to hb1)
        have HR' := Lib.hid (HR'.out.to hb1)
        have hbel := hbel.trans (hb1.mono hbs)
        clear hb1 c0 c1 c2 c3 d0 d1 d2 d3 e0 e1 e2 e3
        cases hs : sameX r.b t.b with
        | true =>
          have HN := Lib.hid (sameX_step HT.out HZ.out (by rw [sameX_iff.1 hs]; exact HY.out))
          go_at_call 44; refine (isSameBox_b _ _ _ _ _ _ _ _ _ _ HR.out HR'.out hf1 hf2 hs).mono ?_; rintro e w2 ⟨rfl, hb1⟩
          have hbel := hbel.trans (hb1.mono hbel.size)
          clear hb1
          go_wp2
          go_roundw
          case rel => exact ⟨k + 1, by omega, by go_num, hbel, HN⟩
          case measure => simp [intOf]; omega
        | false =>
          have HN := Lib.hid (sameX_not HZ.out HY.out (by intro e; rw [e, sameX_iff.2 rfl] at hs; cases hs))
          go_at_call 44; refine (isSameBox_b _ _ _ _ _ _ _ _ _ _ HR.out HR'.out hf1 hf2 hs).mono ?_; rintro e w2 ⟨rfl, hb1⟩
          have hbel := hbel.trans (hb1.mono hbel.size)
          clear hb1
          go_wp2
          go_ret
          exact ⟨ret_bool (by rw [← HV.out]; simp [HN.out]), hbel⟩
      · have hlt' : decide ((k : Int) < (n : Int)) = false := decide_eq_false (by omega)
        have HE := Lib.hid (sameX_full HT.out (by have := HL.out; omega) (by have := HL'.out; omega))
        go_wp2
        go_ret
        exact ⟨ret_bool (by rw [← HV.out]; simp [HE.out]), hbel⟩
  · have HN := Lib.hid (show ¬ bxs rs = bxs ts by intro e; have a := HL.out; have b := HL'.out; rw [e] at a; exact hnm (a.symm.trans b))
    have hne : ((n : Int) == (n' : Int)) = false := by simp; omega
    have hne2 : ((n : Int) != (n' : Int)) = true := by simp; omega
    go_enter Try.func43, Try.ntmps43
    go_wp2
    go_ret
    exact ⟨ret_bool (by rw [← HV.out]; simp [HN.out]), Below.refl _ _⟩
theorem impl_SamePost_any (x : Int) (A : Option Addr) (n c : Nat) (rs : List Rb) (x' : Int) (A' : Option Addr) (n' c' : Nat) (ts : List Rb) (w : World) (h : PostAt w w.heap.size A n rs) (h' : PostAt w w.heap.size A' n' ts) (hf : fitP (bxs rs)) (hf' : fitP (bxs ts)) :
    Calls Try.prog 15 #[.agg #[.int .i64 x, .slice A n c], .agg #[.int .i64 x', .slice A' n' c']] w fun e w' => e = .returned (.bool (samePB x x' (bxs rs) (bxs ts))) ∧ Below w.heap.size w w' := by
  cases ex : (x == x') with
  | false =>
    have HF := Lib.hid (show samePB x x' (bxs rs) (bxs ts) = false by unfold samePB; rw [ex]; rfl)
    go_enter Try.func15, Try.ntmps15
    go_wp2
    go_ret
    exact ⟨ret_bool HF.out.symm, ((Below.refl _ _).alloc (Nat.le_refl _) _).alloc (by simp) _⟩
  | true =>
    have HF := Lib.hid (show samePB x x' (bxs rs) (bxs ts) = decide (bxs rs = bxs ts) by unfold samePB; rw [ex]; rfl)
    obtain ⟨v, hv⟩ : ∃ v, decide (bxs rs = bxs ts) = v := ⟨_, rfl⟩
    have HV := Lib.hid hv
    clear hv
    go_enter Try.func15, Try.ntmps15
    go_wp2_with fail
    obtain ⟨k0, k1, hb0⟩ := two_boxes w 29 29 #[.int .i64 x, .slice A n c] #[.int .i64 x', .slice A' n' c']
    generalize ((w.alloc (.cells #[.int .i64 x, .slice A n c] 29)).alloc (.cells #[.int .i64 x', .slice A' n' c'] 29)) = W at *
    go_at_call 43; refine (equalBoxes_any _ _ _ _ _ _ _ _ _ _ (h.to hb0) (h'.to hb0) hf hf' HV.out).mono ?_; rintro e w2 ⟨rfl, hb1⟩
    have hb0 := hb0.trans (hb1.mono hb0.size)
    go_wp2
    go_ret
    exact ⟨ret_bool (by rw [HF.out, HV.out]), hb0⟩
set_option maxHeartbeats 6400000 in
theorem spec_SamePost_any (x : Int) (A : Option Addr) (n c : Nat) (rs : List Rb) (x' : Int) (A' : Option Addr) (n' c' : Nat) (ts : List Rb) (w : World) (h : PostAt w w.heap.size A n rs) (h' : PostAt w w.heap.size A' n' ts) (hf : fitP (bxs rs)) (hf' : fitP (bxs ts)) :
    Calls Try.prog 14 #[.agg #[.int .i64 x, .slice A n c], .agg #[.int .i64 x', .slice A' n' c']] w fun e w' => e = .returned (.bool (samePB x x' (bxs rs) (bxs ts))) ∧ Below w.heap.size w w' := by
  have hn := fitP_n h hf
  have hn' := fitP_n h' hf'
  have HF := Lib.hid hf
  have HF' := Lib.hid hf'
  have HL := Lib.hid (show (bxs rs).length = n by rw [bxs_len, h.len])
  have HL' := Lib.hid (show (bxs ts).length = n' by rw [bxs_len, h'.len])
  clear hf hf'
  cases ex : (x == x') with
  | false =>
    have HN := Lib.hid (show samePB x x' (bxs rs) (bxs ts) = false by unfold samePB; rw [ex]; rfl)
    have en : (x != x') = true := by simp [bne, ex]
    go_enter Try.func14, Try.ntmps14
    go_wp2
    go_ret
    exact ⟨ret_bool HN.out.symm, ((Below.refl _ _).alloc (Nat.le_refl _) _).alloc (by simp) _⟩
  | true =>
    have HX := Lib.hid (show samePB x x' (bxs rs) (bxs ts) = decide (bxs rs = bxs ts) by unfold samePB; rw [ex]; rfl)
    have en : (x != x') = false := by simp [bne, ex]
    by_cases hnm : n = n'
    · subst hnm
      have hnn : ((n : Int) != (n : Int)) = false := by simp
      obtain ⟨k0, k1, hb0⟩ := two_boxes w 29 29 #[.int .i64 x, .slice A n c] #[.int .i64 x', .slice A' n c']
      go_enter Try.func14, Try.ntmps14
      go_wp2
      generalize ((w.alloc (.cells #[.int .i64 x, .slice A n c] 29)).alloc (.cells #[.int .i64 x', .slice A' n c'] 29)) = W at *
      have k1t := k1.lt
      go_loopw [5] (fun i wr => ∃ k : Nat, k ≤ n ∧ i = .int .i64 k ∧ Below W.heap.size W wr ∧ Hid ((bxs rs).take k = (bxs ts).take k)) (fun i _ => n - (intOf i).toNat)
      case atStart => exact ⟨0, by omega, rfl, Below.refl _ _, Lib.hid rfl⟩
      case round =>
        obtain ⟨k, hk, rfl, hbW, HT⟩ := hrel
        have p1 := (k0.below hbW k0.lt).cell 1
        have p1' := (k1.below hbW k1.lt).cell 1
        have hbel := hb0.trans (hbW.mono hb0.size)
        by_cases hlt : k < n
        · have hlt' : decide ((k : Int) < (n : Int)) = true := decide_eq_true (by omega)
          obtain ⟨b, off, r, rfl, hb, hz, hr, c0, c1, c2, c3⟩ := (h.below hbel).atr hlt
          obtain ⟨b', off', t, rfl, hb', hz', hr', d0, d1, d2, d3⟩ := (h'.below hbel).atr hlt
          have hf1 := (fitP_ln h.2 HF.out (List.mem_of_getElem? hz)).1
          have hf2 := (fitP_ln h'.2 HF'.out (List.mem_of_getElem? hz')).1
          have HZ := Lib.hid (bxs_at hz)
          have HY := Lib.hid (bxs_at hz')
          have hp : (0 : Int) ≤ (k : Int) := by omega
          have hp2 : (k : Int) < (n : Int) := by omega
          have HR := Lib.hid hr
          have HR' := Lib.hid hr'
          clear hz hz' hr hr' h h'
          cases q0 : (r.b.tok.toList == t.b.tok.toList) with
          | false =>
            have n0 : (r.b.tok.toList != t.b.tok.toList) = true := by simp [bne, q0]
            have hs : sameX r.b t.b = false := by simp only [sameX, q0]; simp
            have HN := Lib.hid (sameX_not HZ.out HY.out (by intro e; rw [e, sameX_iff.2 rfl] at hs; cases hs))
            clear hs
            go_wp2
            try simp only [List.append_eq, List.cons_append, List.nil_append]
            go_quiet (fail)
            go_wp2
            go_ret
            exact ⟨ret_bool (by rw [HX.out]; simp [HN.out]), hbel.trans (Below.mono (drew_below ⟨_, rfl⟩) hbel.size)⟩
          | true =>
            cases q1 : (r.b.mem == t.b.mem) with
            | false =>
              have n0 : (r.b.tok.toList != t.b.tok.toList) = false := by simp [bne, q0]
              have n1 : (r.b.mem != t.b.mem) = true := by simp [bne, q1]
              have hs : sameX r.b t.b = false := by simp only [sameX, q0, q1]; simp
              have HN := Lib.hid (sameX_not HZ.out HY.out (by intro e; rw [e, sameX_iff.2 rfl] at hs; cases hs))
              clear hs
              go_wp2
              try simp only [List.append_eq, List.cons_append, List.nil_append]
              go_quiet (fail)
              go_wp2
              go_ret
              exact ⟨ret_bool (by rw [HX.out]; simp [HN.out]), hbel.trans (Below.mono (drew_below ⟨_, rfl⟩) hbel.size)⟩
            | true =>
              cases q2 : (r.b.mis == t.b.mis) with
              | false =>
                have n0 : (r.b.tok.toList != t.b.tok.toList) = false := by simp [bne, q0]
                have n1 : (r.b.mem != t.b.mem) = false := by simp [bne, q1]
                have n2 : (r.b.mis != t.b.mis) = true := by simp [bne, q2]
                have hs : sameX r.b t.b = false := by simp only [sameX, q0, q1, q2]; simp
                have HN := Lib.hid (sameX_not HZ.out HY.out (by intro e; rw [e, sameX_iff.2 rfl] at hs; cases hs))
                clear hs
                go_wp2
                try simp only [List.append_eq, List.cons_append, List.nil_append]
                go_quiet (fail)
                go_wp2
                go_ret
                exact ⟨ret_bool (by rw [HX.out]; simp [HN.out]), hbel.trans (Below.mono (drew_below ⟨_, rfl⟩) hbel.size)⟩
              | true =>
                cases q3 : decide (r.b.held = t.b.held) with
                | false =>
                  have n0 : (r.b.tok.toList != t.b.tok.toList) = false := by simp [bne, q0]
                  have n1 : (r.b.mem != t.b.mem) = false := by simp [bne, q1]
                  have n2 : (r.b.mis != t.b.mis) = false := by simp [bne, q2]
                  have hs : sameX r.b t.b = false := by simp only [sameX, q0, q1, q2, q3]; simp
                  have HN := Lib.hid (sameX_not HZ.out HY.out (by intro e; rw [e, sameX_iff.2 rfl] at hs; cases hs))
                  clear hs
                  go_wp2
                  try simp only [List.append_eq, List.cons_append, List.nil_append]
                  go_quiet ((go_at_call 42; exact Calls.quiet_at2 (l04Same_b _ _ _ _ _ _ _ _ _ _ _ _ (HR.out.drewN _) (HR'.out.drewN _) hf1 hf2 q3)))
                  go_wp2
                  go_ret
                  exact ⟨ret_bool (by rw [HX.out]; simp [HN.out]), hbel.trans (Below.mono (drew_below ⟨_, rfl⟩) hbel.size)⟩
                | true =>
                  have n0 : (r.b.tok.toList != t.b.tok.toList) = false := by simp [bne, q0]
                  have n1 : (r.b.mem != t.b.mem) = false := by simp [bne, q1]
                  have n2 : (r.b.mis != t.b.mis) = false := by simp [bne, q2]
                  have hs : sameX r.b t.b = true := by simp only [sameX, q0, q1, q2, q3]; rfl
                  have HN := Lib.hid (sameX_step HT.out HZ.out (by rw [sameX_iff.1 hs]; exact HY.out))
                  clear hs
                  go_wp2
                  try simp only [List.append_eq, List.cons_append, List.nil_append]
                  go_quiet ((go_at_call 42; exact Calls.quiet_at2 (l04Same_b _ _ _ _ _ _ _ _ _ _ _ _ (HR.out.drewN _) (HR'.out.drewN _) hf1 hf2 q3)))
                  go_wp2
                  go_roundw
                  case rel => exact ⟨k + 1, by omega, by go_num, hbW.trans (Below.mono (drew_below ⟨_, rfl⟩) hbW.size), HN⟩
                  case measure => simp [intOf]; omega
        · have hlt' : decide ((k : Int) < (n : Int)) = false := decide_eq_false (by omega)
          have HE := Lib.hid (sameX_full HT.out (by have := HL.out; omega) (by have := HL'.out; omega))
          go_wp2
          go_ret
          exact ⟨ret_bool (by rw [HX.out]; simp [HE.out]), hbel⟩
    · have HN := Lib.hid (show ¬ bxs rs = bxs ts by intro e; have a := HL.out; have b := HL'.out; rw [e] at a; exact hnm (a.symm.trans b))
      have hne : ((n : Int) == (n' : Int)) = false := by simp; omega
      have hne2 : ((n : Int) != (n' : Int)) = true := by simp; omega
      go_enter Try.func14, Try.ntmps14
      go_wp2
      go_ret
      exact ⟨ret_bool (by rw [HX.out]; simp [HN.out]), ((Below.refl _ _).alloc (Nat.le_refl _) _).alloc (by simp) _⟩
end Go.Proofs.Ytmnmmjobplbflaa
