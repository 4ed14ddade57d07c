import Derived.Test.YtmnmmjobplbflaaChecked
import Derived.WalkKit
import Derived.ProofKit
import Derived.OpenShut
import Derived.ShutString
import Derived.ChangeOld
import Derived.Below
import Derived.Lib.Hide
import Derived.Laws.Cover1
import Derived.Deep.QuietTactic
import Derived.BigQuiet
import Derived.Deep.RegionHeld3
import Derived.Test.YtmnmmjobplbflaaZPostT
import Derived.Test.YtmnmmjobplbflaaZMsgV
import Derived.Test.YtmnmmjobplbflaaZMembersC
namespace Go.Proofs.Ytmnmmjobplbflaa
open Go.ChangeShapes Go.WideShapes Go.ChangeAt Go.RowKit
open Go.ChangeMaps (open_string shut_string)
set_option linter.unusedVariables false
set_option maxRecDepth 100000
def boxB (b : Bx) : Bool := tokB b.tok && (idB b.mem && (misB b.mis && parsB b.held))
theorem fits_eq (lim : Int) (b : Bx) : fitsB lim b = (boxB b && decide ((b.held.length : Int) ≤ lim)) := by unfold fitsB boxB; simp only [Bool.and_assoc]
theorem linkX_none (lim : Int) (m : Bx) : linkX lim none m = fitsB lim m := by simp [linkX]
theorem linkX_some (lim : Int) (p m : Bx) : linkX lim (some p) m = (fitsB lim m && ordB p m) := rfl
theorem allX_no {α : Type} {xs : List α} {p : α → Bool} {k : Nat} {z : α} (hz : xs[k]? = some z) (h : p z = false) : xs.all p = false := by
  rw [← Bool.not_eq_true]; intro H
  have := List.all_eq_true.1 H z (List.mem_of_getElem? hz)
  rw [h] at this; cases this
theorem allX_succ {α : Type} {xs : List α} {p : α → Bool} {k : Nat} {z : α} (hz : xs[k]? = some z) (h0 : (xs.take k).all p = true) (h : p z = true) : (xs.take (k + 1)).all p = true := by
  rw [takeX hz, List.all_append, h0]; simpa using h
theorem nat_bne16 (n : Nat) : ((n : Int) != 16) = !decide (n = 16) := by rw [Bool.eq_iff_iff]; simp; omega
theorem nat_beq16 (n : Nat) : ((n : Int) == 16) = decide (n = 16) := by rw [Bool.eq_iff_iff]; simp; omega
theorem isRoom_b (n : Int) (b : Bool) (w : World) (h : roomNB n = b) : Calls Try.prog 69 #[.int .i64 n] w fun e w' => e = .returned (.bool b) ∧ w = w' := by
  by_cases h0 : n < 1
  · obtain rfl : b = false := by rw [← h]; simp [roomNB]; omega
    have h1 : decide (1 ≤ n) = false := decide_eq_false (by omega)
    clear h
    go_enter Try.func69, Try.ntmps69
    go_wp2
    go_ret
    exact ⟨rfl, rfl⟩
  · have h0' : 1 ≤ n := by omega
    have e : decide (n ≤ 1000) = b := by rw [← h]; simp [roomNB, h0']
    have E := Lib.hid e
    clear h h0 e
    go_enter Try.func69, Try.ntmps69
    go_wp2
    go_ret
    exact ⟨ret_bool E.out, rfl⟩
theorem isLimit_b (n : Int) (b : Bool) (w : World) (h : limB n = b) : Calls Try.prog 39 #[.int .i64 n] w fun e w' => e = .returned (.bool b) ∧ w = w' := by
  by_cases h0 : n < 1
  · obtain rfl : b = false := by rw [← h]; simp [limB]; omega
    have h1 : decide (1 ≤ n) = false := decide_eq_false (by omega)
    clear h
    go_enter Try.func39, Try.ntmps39
    go_wp2
    go_ret
    exact ⟨rfl, rfl⟩
  · have h0' : 1 ≤ n := by omega
    have e : decide (n ≤ 64) = b := by rw [← h]; simp [limB, h0']
    have E := Lib.hid e
    clear h h0 e
    go_enter Try.func39, Try.ntmps39
    go_wp2
    go_ret
    exact ⟨ret_bool E.out, rfl⟩
set_option maxHeartbeats 800000 in
theorem isParcel_b (z : Bn) (b : Bool) (w : World) (h : parB z = b) : Calls Try.prog 66 #[.agg #[.int .i64 z.id, .int .i64 z.til]] w fun e w' => e = .returned (.bool b) ∧ Below w.heap.size w w' := by
  subst h
  cases t0 : roomNB z.id with
  | false =>
    have HF := Lib.hid (show parB z = false by simp [parB, t0])
    go_enter Try.func66, Try.ntmps66
    go_wp2_with (go_at_call 69; refine (isRoom_b _ _ _ t0).mono ?_; rintro e w' ⟨rfl, rfl⟩)
    go_ret
    exact ⟨ret_bool HF.out.symm, (Below.refl _ _).alloc (Nat.le_refl _) _⟩
  | true =>
    by_cases h1 : 1 ≤ z.til
    · have d1 : decide (1 ≤ z.til) = true := decide_eq_true h1
      by_cases h2 : z.til ≤ 1000000
      · have d2 : decide (z.til ≤ 1000000) = true := decide_eq_true h2
        have HF := Lib.hid (show parB z = true by simp [parB, t0, numNB, h1, h2])
        go_enter Try.func66, Try.ntmps66
        go_wp2_with (go_at_call 69; refine (isRoom_b _ _ _ t0).mono ?_; rintro e w' ⟨rfl, rfl⟩)
        go_ret
        exact ⟨ret_bool HF.out.symm, (Below.refl _ _).alloc (Nat.le_refl _) _⟩
      · have d2 : decide (z.til ≤ 1000000) = false := decide_eq_false h2
        have HF := Lib.hid (show parB z = false by simp [parB, t0, numNB]; omega)
        go_enter Try.func66, Try.ntmps66
        go_wp2_with (go_at_call 69; refine (isRoom_b _ _ _ t0).mono ?_; rintro e w' ⟨rfl, rfl⟩)
        go_ret
        exact ⟨ret_bool HF.out.symm, (Below.refl _ _).alloc (Nat.le_refl _) _⟩
    · have d1 : decide (1 ≤ z.til) = false := decide_eq_false h1
      have HF := Lib.hid (show parB z = false by simp [parB, t0, numNB]; omega)
      go_enter Try.func66, Try.ntmps66
      go_wp2_with (go_at_call 69; refine (isRoom_b _ _ _ t0).mono ?_; rintro e w' ⟨rfl, rfl⟩)
      go_ret
      exact ⟨ret_bool HF.out.symm, (Below.refl _ _).alloc (Nat.le_refl _) _⟩
set_option maxHeartbeats 800000 in
theorem l04Parcel_b (z : Bn) (b : Bool) (w : World) (h : parB z = b) : Calls Try.prog 64 #[.agg #[.int .i64 z.id, .int .i64 z.til]] w fun e w' => e = .returned (.bool b) ∧ Below w.heap.size w w' := by
  subst h
  cases t0 : roomNB z.id with
  | false =>
    have t0' : decide (1 ≤ z.id ∧ z.id ≤ 1000) = false := t0
    have HF := Lib.hid (show parB z = false by simp [parB, t0])
    go_enter Try.func64, Try.ntmps64
    go_wp2_with fail
    (go_at_call 45; refine (l00In_b z.id 1 1000 _ _ t0').mono ?_; rintro e w' ⟨rfl, rfl⟩)
    go_wp2
    go_ret
    exact ⟨ret_bool HF.out.symm, (Below.refl _ _).alloc (Nat.le_refl _) _⟩
  | true =>
    have t0' : decide (1 ≤ z.id ∧ z.id ≤ 1000) = true := t0
    cases t1 : numNB z.til with
    | false =>
      have t1' : decide (1 ≤ z.til ∧ z.til ≤ 1000000) = false := t1
      have HF := Lib.hid (show parB z = false by simp [parB, t0, t1])
      go_enter Try.func64, Try.ntmps64
      go_wp2_with fail
      (go_at_call 45; refine (l00In_b z.id 1 1000 _ _ t0').mono ?_; rintro e w' ⟨rfl, rfl⟩)
      go_wp2_with fail
      (go_at_call 45; refine (l00In_b z.til 1 1000000 _ _ t1').mono ?_; rintro e w' ⟨rfl, rfl⟩)
      go_wp2
      go_ret
      exact ⟨ret_bool HF.out.symm, (Below.refl _ _).alloc (Nat.le_refl _) _⟩
    | true =>
      have t1' : decide (1 ≤ z.til ∧ z.til ≤ 1000000) = true := t1
      have HF := Lib.hid (show parB z = true by simp [parB, t0, t1])
      go_enter Try.func64, Try.ntmps64
      go_wp2_with fail
      (go_at_call 45; refine (l00In_b z.id 1 1000 _ _ t0').mono ?_; rintro e w' ⟨rfl, rfl⟩)
      go_wp2_with fail
      (go_at_call 45; refine (l00In_b z.til 1 1000000 _ _ t1').mono ?_; rintro e w' ⟨rfl, rfl⟩)
      go_wp2
      go_ret
      exact ⟨ret_bool HF.out.symm, (Below.refl _ _).alloc (Nat.le_refl _) _⟩
theorem pars_long {xs : List Bn} (h : 64 < xs.length) : parsB xs = false := by
  have : decide (xs.length ≤ 64) = false := decide_eq_false (by omega)
  simp [parsB, this]
theorem pars_no {xs : List Bn} {k : Nat} {z : Bn} (hz : xs[k]? = some z) (h : parB z = false) : parsB xs = false := by simp [parsB, allX_no hz h]
theorem pars_yes {xs : List Bn} (h : xs.length ≤ 64) (h1 : (xs.take xs.length).all parB = true) : parsB xs = true := by
  rw [List.take_length] at h1
  simp [parsB, h, h1]
set_option maxHeartbeats 1600000 in
theorem areParcels_b (A : Option Addr) (n c B : Nat) (xs : List Bn) (b : Bool) (w : World) (h : SRow 2 bnC w B A n xs) (hB : B ≤ w.heap.size) (hn : n ≤ 1048576) (hb : parsB xs = b) :
    Calls Try.prog 54 #[.slice A n c] w fun e w' => e = .returned (.bool b) ∧ Below w.heap.size w w' := by
  subst hb
  have HL := Lib.hid h.1
  have h := h.more hB
  clear hB
  by_cases hl : 64 < n
  · have HF := Lib.hid (pars_long (xs := xs) (by have := HL.out; omega))
    have x1 : decide ((64 : Int) < (n : Int)) = true := decide_eq_true (by omega)
    go_enter Try.func54, Try.ntmps54
    go_wp2
    go_ret
    exact ⟨ret_bool HF.out.symm, Below.refl _ _⟩
  have x1 : decide ((64 : Int) < (n : Int)) = false := decide_eq_false (by omega)
  go_enter Try.func54, Try.ntmps54
  go_wp2
  go_loopw [10] (fun i wr => ∃ k : Nat, k ≤ n ∧ i = .int .i64 k ∧ Hid ((xs.take k).all parB = true) ∧ Below w.heap.size w wr) (fun i _ => n - (intOf i).toNat)
  case atStart => exact ⟨0, by omega, rfl, Lib.hid (by simp), Below.refl _ _⟩
  case round =>
    obtain ⟨k, hk, rfl, HK, hbel⟩ := hrel
    by_cases hlt : k < n
    · have hlt' : decide ((k : Int) < (n : Int)) = true := decide_eq_true (by omega)
      obtain ⟨b, off, z, rfl, hb, hz, c0, c1⟩ := (h.below hbel).atbn hlt
      have HZ := Lib.hid hz
      have hbs := hbel.size
      clear hz h
      go_wp2_with fail
      obtain ⟨_, hb1⟩ := one_box wr 74 #[.int .i64 z.id, .int .i64 z.til]
      generalize wr.alloc (.cells #[.int .i64 z.id, .int .i64 z.til] 74) = W1 at *
      have hbel := hbel.trans (hb1.mono hbs)
      clear hb1 c0 c1
      cases hp : parB z with
      | false =>
        have HF := Lib.hid (pars_no HZ.out hp)
        go_at_call 66; refine (isParcel_b z _ _ hp).mono ?_; rintro e w2 ⟨rfl, hb1⟩
        have hbel := hbel.trans (hb1.mono hbel.size)
        go_wp2
        go_ret
        exact ⟨ret_bool HF.out.symm, hbel⟩
      | true =>
        have HS := Lib.hid (allX_succ HZ.out HK.out hp)
        go_at_call 66; refine (isParcel_b z _ _ hp).mono ?_; rintro e w2 ⟨rfl, hb1⟩
        have hbel := hbel.trans (hb1.mono hbel.size)
        go_wp2
        go_roundw
        case rel => exact ⟨k + 1, by omega, by go_num, HS, hbel⟩
        case measure => simp [intOf]; omega
    · have hlt' : decide ((k : Int) < (n : Int)) = false := decide_eq_false (by omega)
      have hkn : k = n := by omega
      subst hkn
      have HF := Lib.hid (pars_yes (xs := xs) (by have := HL.out; omega) (by rw [HL.out]; exact HK.out))
      go_wp2
      go_ret
      exact ⟨ret_bool HF.out.symm, hbel⟩
set_option maxHeartbeats 1600000 in
theorem l04Parcels_b (A : Option Addr) (n c B : Nat) (xs : List Bn) (b : Bool) (w : World) (h : SRow 2 bnC w B A n xs) (hB : B ≤ w.heap.size) (hn : n ≤ 1048576) (hb : parsB xs = b) :
    Calls Try.prog 51 #[.slice A n c] w fun e w' => e = .returned (.bool b) ∧ Below w.heap.size w w' := by
  subst hb
  have HL := Lib.hid h.1
  have h := h.more hB
  clear hB
  by_cases hl : 64 < n
  · have HF := Lib.hid (pars_long (xs := xs) (by have := HL.out; omega))
    have x1 : decide ((n : Int) ≤ 64) = false := decide_eq_false (by omega)
    go_enter Try.func51, Try.ntmps51
    go_wp2
    refine wp_loop_rounds 1 ?_
    rw [rounds_succ]
    have x2 : decide ((0 : Int) < (n : Int)) = true := decide_eq_true (by omega)
    have x3 : decide (0 < n) = true := decide_eq_true (by omega)
    have x4 : ¬ n ≤ 64 := by omega
    have x5 : decide (n ≤ 64) = false := decide_eq_false (by omega)
    go_wp2
    go_ret
    exact ⟨ret_bool HF.out.symm, Below.refl _ _⟩
  have x1 : decide ((n : Int) ≤ 64) = true := decide_eq_true (by omega)
  go_enter Try.func51, Try.ntmps51
  go_wp2
  go_loopw [3] (fun i wr => ∃ k : Nat, k ≤ n ∧ i = .int .i64 k ∧ Hid ((xs.take k).all parB = true) ∧ Below w.heap.size w wr) (fun i _ => n - (intOf i).toNat)
  case atStart => exact ⟨0, by omega, rfl, Lib.hid (by simp), Below.refl _ _⟩
  case round =>
    obtain ⟨k, hk, rfl, HK, hbel⟩ := hrel
    by_cases hlt : k < n
    · have hlt' : decide ((k : Int) < (n : Int)) = true := decide_eq_true (by omega)
      obtain ⟨b, off, z, rfl, hb, hz, c0, c1⟩ := (h.below hbel).atbn hlt
      have HZ := Lib.hid hz
      have hbs := hbel.size
      clear hz h
      cases hp : parB z with
      | false =>
        have HF := Lib.hid (pars_no HZ.out hp)
        go_wp2_with (go_at_call 64; refine (l04Parcel_b z _ _ hp).mono ?_; rintro e w2 ⟨rfl, hb1⟩)
        have hbel := hbel.trans (hb1.mono hbel.size)
        go_ret
        exact ⟨ret_bool HF.out.symm, hbel⟩
      | true =>
        have HS := Lib.hid (allX_succ HZ.out HK.out hp)
        go_wp2_with (go_at_call 64; refine (l04Parcel_b z _ _ hp).mono ?_; rintro e w2 ⟨rfl, hb1⟩)
        have hbel := hbel.trans (hb1.mono hbel.size)
        go_roundw
        case rel => exact ⟨k + 1, by omega, by go_num, HS, hbel⟩
        case measure => simp [intOf]; omega
    · have hlt' : decide ((k : Int) < (n : Int)) = false := decide_eq_false (by omega)
      have hkn : k = n := by omega
      subst hkn
      have HF := Lib.hid (pars_yes (xs := xs) (by have := HL.out; omega) (by rw [HL.out]; exact HK.out))
      go_wp2
      go_ret
      exact ⟨ret_bool HF.out.symm, hbel⟩
theorem IsToken_b (s : ByteArray) (b : Bool) (w : World) (hs : s.size ≤ 1048576) (h : tokB s = b) : Calls Try.prog 59 #[.string s] w fun e w' => e = .returned (.bool b) ∧ w = w' := by
  have E := Lib.hid (show ((s.size : Int) == 16) = b by rw [nat_beq16]; exact h)
  have hs' : (s.size : Int) ≤ 1048576 := by omega
  clear h
  go_enter Try.func59, Try.ntmps59
  go_wp2
  go_ret
  exact ⟨ret_bool E.out, rfl⟩
set_option maxHeartbeats 1600000 in
theorem isBox_b (r : Rb) (b : Bool) (w : World) (h : SRow 2 bnC w w.heap.size r.la r.ln r.b.held) (hn : r.ln ≤ 1048576) (ht : r.b.tok.size ≤ 1048576) (hb : boxB r.b = b) :
    Calls Try.prog 40 #[.agg #[.string r.b.tok, .int .i64 r.b.mem, .int .i64 r.b.mis, .slice r.la r.ln r.lc]] w fun e w' => e = .returned (.bool b) ∧ Below w.heap.size w w' := by
  subst hb
  have HWA := Lib.hid (fun o : Obj => h.alloc (Nat.le_refl _) o)
  clear h
  cases t0 : tokB r.b.tok with
  | false =>
    have HF := Lib.hid (show boxB r.b = false by simp [boxB, t0])
    go_enter Try.func40, Try.ntmps40
    go_wp2_with (first | (go_at_call 59; refine (IsToken_b _ _ _ ht t0).mono ?_; rintro e w' ⟨rfl, rfl⟩))
    go_ret
    exact ⟨ret_bool HF.out.symm, (Below.refl _ _).alloc (Nat.le_refl _) _⟩
  | true =>
    cases t1 : idB r.b.mem with
    | false =>
      have HF := Lib.hid (show boxB r.b = false by simp [boxB, t0, t1])
      go_enter Try.func40, Try.ntmps40
      go_wp2_with (first | (go_at_call 59; refine (IsToken_b _ _ _ ht t0).mono ?_; rintro e w' ⟨rfl, rfl⟩) | (go_at_call 49; refine (isMember_b _ _ _ t1).mono ?_; rintro e w' ⟨rfl, rfl⟩))
      go_ret
      exact ⟨ret_bool HF.out.symm, (Below.refl _ _).alloc (Nat.le_refl _) _⟩
    | true =>
      cases t2 : misB r.b.mis with
      | false =>
        have HF := Lib.hid (show boxB r.b = false by simp [boxB, t0, t1, t2])
        go_enter Try.func40, Try.ntmps40
        go_wp2_with (first | (go_at_call 59; refine (IsToken_b _ _ _ ht t0).mono ?_; rintro e w' ⟨rfl, rfl⟩) | (go_at_call 49; refine (isMember_b _ _ _ t1).mono ?_; rintro e w' ⟨rfl, rfl⟩) | (go_at_call 60; refine (isAmount_b _ _ _ (show amtB r.b.mis = _ from t2)).mono ?_; rintro e w' ⟨rfl, rfl⟩))
        go_ret
        exact ⟨ret_bool HF.out.symm, (Below.refl _ _).alloc (Nat.le_refl _) _⟩
      | true =>
        cases t3 : parsB r.b.held with
        | false =>
          have HF := Lib.hid (show boxB r.b = false by simp [boxB, t0, t1, t2, t3])
          go_enter Try.func40, Try.ntmps40
          go_wp2_with (first | (go_at_call 59; refine (IsToken_b _ _ _ ht t0).mono ?_; rintro e w' ⟨rfl, rfl⟩) | (go_at_call 49; refine (isMember_b _ _ _ t1).mono ?_; rintro e w' ⟨rfl, rfl⟩) | (go_at_call 60; refine (isAmount_b _ _ _ (show amtB r.b.mis = _ from t2)).mono ?_; rintro e w' ⟨rfl, rfl⟩) | (go_at_call 54; refine (areParcels_b _ _ _ _ _ _ _ (HWA.out _) (by simp) hn t3).mono ?_; rintro e w' ⟨rfl, hb1⟩))
          go_ret
          exact ⟨ret_bool HF.out.symm, ((Below.refl _ _).alloc (Nat.le_refl _) _).trans (hb1.mono (by simp))⟩
        | true =>
          have HF := Lib.hid (show boxB r.b = true by simp [boxB, t0, t1, t2, t3])
          go_enter Try.func40, Try.ntmps40
          go_wp2_with (first | (go_at_call 59; refine (IsToken_b _ _ _ ht t0).mono ?_; rintro e w' ⟨rfl, rfl⟩) | (go_at_call 49; refine (isMember_b _ _ _ t1).mono ?_; rintro e w' ⟨rfl, rfl⟩) | (go_at_call 60; refine (isAmount_b _ _ _ (show amtB r.b.mis = _ from t2)).mono ?_; rintro e w' ⟨rfl, rfl⟩) | (go_at_call 54; refine (areParcels_b _ _ _ _ _ _ _ (HWA.out _) (by simp) hn t3).mono ?_; rintro e w' ⟨rfl, hb1⟩))
          go_ret
          exact ⟨ret_bool HF.out.symm, ((Below.refl _ _).alloc (Nat.le_refl _) _).trans (hb1.mono (by simp))⟩
theorem okX_full {lim : Int} {bs : List Bx} {k : Nat} (h : chainX lim none (bs.take k) = true) (hk : bs.length ≤ k) : chainX lim none bs = true := by rwa [List.take_of_length_le hk] at h
set_option maxHeartbeats 6400000 in
theorem impl_ValidPost_any (x : Int) (A : Option Addr) (n c : Nat) (rs : List Rb) (w : World) (h : PostAt w w.heap.size A n rs) (hf : fitP (bxs rs)) :
    Calls Try.prog 12 #[.agg #[.int .i64 x, .slice A n c]] w fun e w' => e = .returned (.bool (postB x (bxs rs))) ∧ Below w.heap.size w w' := by
  have hn := fitP_n h hf
  have HF0 := Lib.hid hf
  have HL := Lib.hid (show (bxs rs).length = n by rw [bxs_len, h.len])
  clear hf
  cases tn : limB x with
  | false =>
    have HF := Lib.hid (postB_lim (bs := bxs rs) tn)
    go_enter Try.func12, Try.ntmps12
    go_wp2_with (go_at_call 39; refine (isLimit_b _ _ _ tn).mono ?_; rintro e w' ⟨rfl, rfl⟩)
    go_ret
    exact ⟨ret_bool HF.out.symm, (Below.refl _ _).alloc (Nat.le_refl _) _⟩
  | true =>
    have HN := Lib.hid tn
    by_cases hl : 32 < n
    · have HF := Lib.hid (postB_long (lim := x) (bs := bxs rs) (by have := HL.out; omega))
      have x1 : decide ((32 : Int) < (n : Int)) = true := decide_eq_true (by omega)
      go_enter Try.func12, Try.ntmps12
      go_wp2_with (go_at_call 39; refine (isLimit_b _ _ _ tn).mono ?_; rintro e w' ⟨rfl, rfl⟩)
      go_ret
      exact ⟨ret_bool HF.out.symm, (Below.refl _ _).alloc (Nat.le_refl _) _⟩
    have x1 : decide ((32 : Int) < (n : Int)) = false := decide_eq_false (by omega)
    have hl' : n ≤ 32 := by omega
    go_enter Try.func12, Try.ntmps12
    go_wp2_with (go_at_call 39; refine (isLimit_b _ _ _ tn).mono ?_; rintro e w' ⟨rfl, rfl⟩)
    clear tn hl
    obtain ⟨k0, hb0⟩ := one_box w 29 #[.int .i64 x, .slice A n c]
    generalize w.alloc (.cells #[.int .i64 x, .slice A n c] 29) = W at *
    go_loopw [18] (fun i wr => ∃ k : Nat, k ≤ n ∧ i = .int .i64 k ∧ Blk wr w.heap.size 29 #[.int .i64 x, .slice A n c] ∧ Hid (chainX x none ((bxs rs).take k) = true) ∧ Below w.heap.size w wr) (fun i _ => n - (intOf i).toNat)
    case atStart => exact ⟨0, by omega, rfl, k0, Lib.hid rfl, hb0⟩
    case round =>
      obtain ⟨k, hk, rfl, kL, HCH, hbel⟩ := hrel
      clear k0 hb0
      by_cases hlt : k < n
      · have hlt' : decide ((k : Int) < (n : Int)) = true := decide_eq_true (by omega)
        obtain ⟨b, off, r, rfl, hb, hz, hr, c0, c1, c2, c3⟩ := (h.below hbel).atr hlt
        obtain ⟨hf1, hf2⟩ := fitP_ln h.2 HF0.out (List.mem_of_getElem? hz)
        have HZ := Lib.hid (bxs_at hz)
        have HR := Lib.hid hr
        have HHH := Lib.hid h
        have HLN := Lib.hid (show r.b.held.length = r.ln from hr.1)
        clear hr hz h
        go_wp2_with fail
        obtain ⟨kM, hb1⟩ := one_box wr 62 #[.string r.b.tok, .int .i64 r.b.mem, .int .i64 r.b.mis, .slice r.la r.ln r.lc]
        generalize wr.alloc (.cells #[.string r.b.tok, .int .i64 r.b.mem, .int .i64 r.b.mis, .slice r.la r.ln r.lc] 62) = W1 at *
        have kL := kL.below hb1 kL.lt
        have hbs := hbel.size
        have HR := Lib.hid ((HR.out.below (hb1.mono hbs)).more (Nat.le_trans hbs hb1.size))
        have hbel := hbel.trans (hb1.mono hbs)
        clear hb1 c0 c1 c2 c3
        cases hm : boxB r.b with
        | false =>
          have HF := Lib.hid (postB_chain (lim := x) (chainX_no HZ.out (by unfold linkX; rw [fits_eq, hm]; rfl)))
          go_at_call 40; refine (isBox_b r _ _ HR.out hf1 hf2 hm).mono ?_; rintro e w2 ⟨rfl, hb1⟩
          have hbel := hbel.trans (hb1.mono hbel.size)
          go_wp2
          go_ret
          exact ⟨ret_bool HF.out.symm, hbel⟩
        | true =>
          go_at_call 40; refine (isBox_b r _ _ HR.out hf1 hf2 hm).mono ?_; rintro e w2 ⟨rfl, hb1⟩
          have kL := kL.below hb1 kL.lt
          have kM := kM.below hb1 kM.lt
          have hbel := hbel.trans (hb1.mono hbel.size)
          clear hb1
          have m0 := kM.cell 0; have m3 := kM.cell 3
          have l0 := kL.cell 0; have l1 := kL.cell 1
          by_cases hx : (r.ln : Int) ≤ x
          · have y1 : decide (x < (r.ln : Int)) = false := decide_eq_false (by omega)
            have HFI := Lib.hid (show fitsB x r.b = true by rw [fits_eq, hm, HLN.out, decide_eq_true hx]; rfl)
            by_cases hk0 : 0 < k
            · obtain ⟨j, rfl⟩ : ∃ j, k = j + 1 := ⟨k - 1, by omega⟩
              obtain ⟨b2, off2, p, e2, hb2, hy, _, d0, _⟩ := HHH.out.atr (k := j) (by omega)
              simp only [Option.some.injEq, Addr.mk.injEq, and_true] at e2
              obtain ⟨rfl, rfl⟩ := e2
              have d0 := (hbel.cell (p := ⟨b, off + j * 4, none⟩) hb2).trans d0
              have HY := Lib.hid (bxs_at hy)
              have HLK := Lib.hid (lastX_step HY.out)
              clear hy
              have hd1 : decide ((0 : Int) < ((j + 1 : Nat) : Int)) = true := decide_eq_true (by omega)
              have hd2 : decide (0 < j + 1) = true := decide_eq_true (by omega)
              have hi0 : (0 : Int) ≤ ((j + 1 : Nat) : Int) := by omega
              have hi1 : ((j + 1 : Nat) : Int) < (n : Int) := by omega
              have hd0 : (0 : Int) < ((j + 1 : Nat) : Int) := by omega
              have hj0 : (0 : Int) ≤ (j : Int) := by omega
              have hj1 : (j : Int) < (n : Int) := by omega
              have hj2 : IntKind.i64.wrap (j : Int) = (j : Int) := IntWalk.i64_in _ (by omega)
              cases ho : Op.bytesLess p.b.tok.toList r.b.tok.toList with
              | false =>
                have HF := Lib.hid (postB_chain (lim := x) (chainX_no HZ.out (by rw [HLK.out, linkX_some, ordB, ho]; simp)))
                go_wp2
                go_quiet (fail)
                go_wp2
                go_ret
                exact ⟨ret_bool HF.out.symm, hbel.trans (Below.mono (drew_below ⟨_, rfl⟩) hbel.size)⟩
              | true =>
                have HS := Lib.hid (show chainX x none ((bxs rs).take (j + 1 + 1)) = true by rw [chainX_step HZ.out, HCH.out, HLK.out, linkX_some, HFI.out, ordB, ho]; rfl)
                go_wp2
                go_quiet (fail)
                go_wp2
                go_roundw
                case rel => exact ⟨j + 1 + 1, by omega, by go_num, kL.drewN _, HS, hbel.trans (Below.mono (drew_below ⟨_, rfl⟩) hbel.size)⟩
                case measure => simp [intOf]; omega
            · have hd0 : decide ((0 : Int) < (k : Int)) = false := decide_eq_false (by omega)
              have hd0' : decide (0 < k) = false := decide_eq_false (by omega)
              have HS := Lib.hid (show chainX x none ((bxs rs).take (k + 1)) = true by rw [chainX_step HZ.out, HCH.out, show k = 0 by omega]; simpa [lastX, linkX] using HFI.out)
              clear hk0
              go_wp2
              go_quiet (fail)
              go_wp2
              go_roundw
              case rel => exact ⟨k + 1, by omega, by go_num, kL.drewN _, HS, hbel.trans (Below.mono (drew_below ⟨_, rfl⟩) hbel.size)⟩
              case measure => simp [intOf]; omega
          · have y1 : decide (x < (r.ln : Int)) = true := decide_eq_true (by omega)
            have HF := Lib.hid (postB_chain (lim := x) (chainX_no HZ.out (by unfold linkX; rw [fits_eq, HLN.out, decide_eq_false hx]; simp)))
            go_wp2
            go_ret
            exact ⟨ret_bool HF.out.symm, hbel⟩
      · have hlt' : decide ((k : Int) < (n : Int)) = false := decide_eq_false (by omega)
        have HE := Lib.hid (show postB x (bxs rs) = true from postB_yes HN.out (by have := HL.out; omega) (okX_full HCH.out (by have := HL.out; omega)))
        go_wp2
        go_ret
        exact ⟨ret_bool HE.out.symm, hbel⟩
end Go.Proofs.Ytmnmmjobplbflaa
