import Derived.Test.YteeodjbionjlmaaChecked
import Derived.WalkKit
import Derived.ProofKit
import Derived.OpenShut
import Derived.ShutString
import Derived.ChangeOld
import Derived.Below
import Derived.Lib.Hide
import Derived.Deep.QuietTactic
import Derived.BigQuiet
import Derived.Test.YteeodjbionjlmaaZMsgT
import Derived.Test.YteeodjbionjlmaaZLessSetC
import Derived.Test.YteeodjbionjlmaaZIsTextC
import Derived.Test.YteeodjbionjlmaaZSoundC
namespace Go.Proofs.Yteeodjbionjlmaa
open Go.ChangeShapes Go.WideShapes Go.ChangeAt Go.RowKit
open Go.ChangeMaps (open_string shut_string)
set_option linter.unusedVariables false
set_option maxRecDepth 100000
theorem nat_beq0 (n : Nat) : ((n : Int) == 0) = decide (n = 0) := by rw [Bool.eq_iff_iff]; simp
theorem l00In_b (n lo hi : Int) (b : Bool) (w : World) (h : decide (lo ≤ n ∧ n ≤ hi) = b) : Calls Try.prog 78 #[.int .i64 n, .int .i64 lo, .int .i64 hi] w fun e w' => e = .returned (.bool b) ∧ w = w' := by
  by_cases hh : lo ≤ n ∧ n ≤ hi
  · obtain rfl : b = true := by rw [← h]; simpa using hh
    exact l00In_yes n lo hi w hh
  · obtain rfl : b = false := by rw [← h]; simpa using hh
    exact l00In_no n lo hi w hh
theorem isNumber_b (n : Int) (b : Bool) (w : World) (h : numB n = b) : Calls Try.prog 136 #[.int .i64 n] w fun e w' => e = .returned (.bool b) ∧ w = w' := by
  by_cases h0 : n < 1
  · obtain rfl : b = false := by rw [← h]; simp [numB]; omega
    have h1 : decide (1 ≤ n) = false := decide_eq_false (by omega)
    clear h
    go_enter Try.func136, Try.ntmps136
    go_wp2
    go_ret
    exact ⟨rfl, rfl⟩
  · have h0' : 1 ≤ n := by omega
    have e : decide (n ≤ 1000000000) = b := by rw [← h]; simp [numB, h0']
    have E := Lib.hid e
    clear h h0 e
    go_enter Try.func136, Try.ntmps136
    go_wp2
    go_ret
    exact ⟨ret_bool E.out, rfl⟩
theorem isAmount_b (n : Int) (b : Bool) (w : World) (h : amtB n = b) : Calls Try.prog 138 #[.int .i64 n] w fun e w' => e = .returned (.bool b) ∧ w = w' := by
  by_cases h0 : n < 0
  · obtain rfl : b = false := by rw [← h]; simp [amtB]; omega
    have h1 : decide (0 ≤ n) = false := decide_eq_false (by omega)
    clear h
    go_enter Try.func138, Try.ntmps138
    go_wp2
    go_ret
    exact ⟨rfl, rfl⟩
  · have h0' : 0 ≤ n := by omega
    have e : decide (n ≤ 1000000000) = b := by rw [← h]; simp [amtB, h0']
    have E := Lib.hid e
    clear h h0 e
    go_enter Try.func138, Try.ntmps138
    go_wp2
    go_ret
    exact ⟨ret_bool E.out, rfl⟩
theorem l01Tick_b (n : Int) (b : Bool) (w : World) (h : tickB n = b) : Calls Try.prog 165 #[.int .i64 n] w fun e w' => e = .returned (.bool b) ∧ w = w' := by
  by_cases hh : 0 ≤ n ∧ n ≤ 1000000
  · obtain rfl : b = true := by rw [← h]; simpa [tickB] using hh
    clear h
    go_enter Try.func165, Try.ntmps165
    go_wp2_with (go_at_call 78; refine (l00In_yes _ _ _ _ hh).mono ?_; rintro e w' ⟨rfl, rfl⟩)
    go_ret
    exact ⟨rfl, rfl⟩
  · obtain rfl : b = false := by rw [← h]; simpa [tickB] using hh
    clear h
    go_enter Try.func165, Try.ntmps165
    go_wp2_with (go_at_call 78; refine (l00In_no _ _ _ _ hh).mono ?_; rintro e w' ⟨rfl, rfl⟩)
    go_ret
    exact ⟨rfl, rfl⟩
theorem l01Mem_b (n : Int) (b : Bool) (w : World) (h : idB n = b) : Calls Try.prog 164 #[.int .i64 n] w fun e w' => e = .returned (.bool b) ∧ w = w' := by
  by_cases hh : 1 ≤ n ∧ n ≤ 1000
  · obtain rfl : b = true := by rw [← h]; simpa [idB] using hh
    clear h
    go_enter Try.func164, Try.ntmps164
    go_wp2_with (go_at_call 78; refine (l00In_yes _ _ _ _ hh).mono ?_; rintro e w' ⟨rfl, rfl⟩)
    go_ret
    exact ⟨rfl, rfl⟩
  · obtain rfl : b = false := by rw [← h]; simpa [idB] using hh
    clear h
    go_enter Try.func164, Try.ntmps164
    go_wp2_with (go_at_call 78; refine (l00In_no _ _ _ _ hh).mono ?_; rintro e w' ⟨rfl, rfl⟩)
    go_ret
    exact ⟨rfl, rfl⟩
theorem l01Text_b (s : ByteArray) (b : Bool) (w : World) (hs : s.size ≤ 1048576) (h : textB s = b) : Calls Try.prog 60 #[.string s] w fun e w' => e = .returned (.bool b) ∧ w = w' := by
  subst h; exact l01IsText_any s w (by unfold maxLen; omega)
theorem IsText_b (s : ByteArray) (b : Bool) (w : World) (hs : s.size ≤ 1048576) (h : textB s = b) : Calls Try.prog 62 #[.string s] w fun e w' => e = .returned (.bool b) ∧ w = w' := by
  subst h; exact impl_IsText_any s w (by unfold maxLen; omega)
theorem l00Has_b (A : Option Addr) (n c B : Nat) (xs : List Int) (t : Int) (b : Bool) (w : World) (h : Row i64v w B A n xs) (hn : n ≤ 1048576) (hb : decide (t ∈ xs) = b) :
    Calls Try.prog 166 #[.slice A n c, .int .i64 t] w fun e w' => e = .returned (.bool b) ∧ w = w' := by
  subst hb; exact l00Has_any A n c B xs t w h (by omega)
/-- slices.Index: found or not -/
def IdxI (b : Bool) (w : World) (e : Ending) (w' : World) : Prop := ∃ p : Int, e = .returned (.int .i64 p) ∧ decide (0 ≤ p) = b ∧ w = w'
set_option maxHeartbeats 400000 in
theorem slIndex_any (A : Option Addr) (n c B : Nat) (xs : List Int) (t : Int) (w : World) (h : Row i64v w B A n xs) (hn : n ≤ 1048576) :
    Calls Try.prog 167 #[.slice A n c, .int .i64 t] w (IdxI (decide (t ∈ xs)) w) := by
  have HL := Lib.hid h.1
  go_enter Try.func167, Try.ntmps167
  go_wp2
  go_loop [8] (fun i => ∃ k : Nat, k ≤ n ∧ i = .int .i64 k ∧ NotIn xs t k) (fun i => n - (intOf i).toNat)
  case atStart => exact ⟨0, by omega, rfl, NotIn.zero _ _⟩
  case round =>
    obtain ⟨k, hk, rfl, hni⟩ := hrel
    have HN := Lib.hid hni
    clear hni
    by_cases hlt : k < n
    · obtain ⟨b, off, x, rfl, _, hx, hc⟩ := h.ati hlt
      have HX := Lib.hid hx
      clear hx h
      by_cases he : x = t
      · subst he
        have HF := Lib.hid (Cut.found HX.out)
        have hee : (x == x) = true := by simp
        go_wp2
        go_ret
        exact ⟨_, rfl, by rw [HF.out]; simp, rfl⟩
      · have hee : (t == x) = false := by simp; omega
        have HE := Lib.hid he
        clear he
        go_wp2
        go_round
        case rel => exact ⟨k + 1, by omega, by go_num, HN.out.succ HX.out HE.out⟩
        case measure => simp [intOf]; omega
    · have HF := Lib.hid (HN.out.all (by have := HL.out; omega))
      go_wp2
      go_ret
      exact ⟨_, rfl, by rw [HF.out]; simp, rfl⟩
theorem slContains_b (A : Option Addr) (n c B : Nat) (xs : List Int) (t : Int) (b : Bool) (w : World) (h : Row i64v w B A n xs) (hn : n ≤ 1048576) (hb : decide (t ∈ xs) = b) :
    Calls Try.prog 139 #[.slice A n c, .int .i64 t] w fun e w' => e = .returned (.bool b) ∧ w = w' := by
  subst hb
  go_enter Try.func139, Try.ntmps139
  go_wp2_with fail
  go_at_call 167; refine (slIndex_any _ _ _ _ _ _ _ h hn).mono ?_; rintro e w2 ⟨p, rfl, hp, rfl⟩
  have HP := Lib.hid hp
  clear hp
  go_wp2
  go_ret
  exact ⟨ret_bool HP.out, rfl⟩
theorem msg_cells {w : World} {b o : Nat} {r : Rm} (h : w.rangeAt b o (rmC r)) : w.cell? ⟨b, o, none⟩ = some (.int .i64 r.m.num) ∧ w.cell? ⟨b, o + 1, none⟩ = some (.int .i64 r.m.sdr) ∧ w.cell? ⟨b, o + 2, none⟩ = some (.int .i64 r.m.tick) ∧ w.cell? ⟨b, o + 3, none⟩ = some (.string r.m.text) ∧
    w.cell? ⟨b, o + 4, none⟩ = some (.int .i64 r.m.edits) ∧ w.cell? ⟨b, o + 5, none⟩ = some (.bool r.m.gone) ∧ w.cell? ⟨b, o + 6, none⟩ = some (.int .i64 r.m.reply) ∧ w.cell? ⟨b, o + 7, none⟩ = some (.slice r.la r.ln r.lc) :=
  ⟨h 0 _ rfl, h 1 _ rfl, h 2 _ rfl, h 3 _ rfl, h 4 _ rfl, h 5 _ rfl, h 6 _ rfl, h 7 _ rfl⟩
theorem blk_range {w : World} {g t : Nat} {r : Rm} (h : Blk w g t #[.int .i64 r.m.num, .int .i64 r.m.sdr, .int .i64 r.m.tick, .string r.m.text, .int .i64 r.m.edits, .bool r.m.gone, .int .i64 r.m.reply, .slice r.la r.ln r.lc]) : w.rangeAt g 0 (rmC r) := fun j v hv => by
  rw [Nat.zero_add, h.cell, ← Array.getElem?_toList]
  exact hv
set_option maxHeartbeats 3200000 in
theorem impl_ValidMessage_any (r : Rm) (w : World) (h : Row i64v w w.heap.size r.la r.ln r.m.likes) (hn : r.ln ≤ 1048576) (ht : r.m.text.size ≤ 1048576) :
    Calls Try.prog 85 #[.agg #[.int .i64 r.m.num, .int .i64 r.m.sdr, .int .i64 r.m.tick, .string r.m.text, .int .i64 r.m.edits, .bool r.m.gone, .int .i64 r.m.reply, .slice r.la r.ln r.lc]] w fun e w' => e = .returned (.bool (msgB r.m)) ∧ Below w.heap.size w w' := by
  have HL := Lib.hid h.1
  have HWA := Lib.hid (fun o : Obj => h.alloc (Nat.le_refl _) o)
  clear h
  cases t0 : numB r.m.num with
  | false =>
    have HF := Lib.hid (show msgB r.m = false by simp only [msgB, t0]; simp)
    go_enter Try.func85, Try.ntmps85
    go_wp2_with (first | (go_at_call 136; refine (isNumber_b _ _ _ t0).mono ?_; rintro e w' ⟨rfl, rfl⟩))
    go_ret
    exact ⟨ret_bool HF.out.symm, (Below.refl _ _).alloc (Nat.le_refl _) _⟩
  | true =>
    cases t1 : idB r.m.sdr with
    | false =>
      have HF := Lib.hid (show msgB r.m = false by simp only [msgB, t0, t1]; simp)
      go_enter Try.func85, Try.ntmps85
      go_wp2_with (first | (go_at_call 136; refine (isNumber_b _ _ _ t0).mono ?_; rintro e w' ⟨rfl, rfl⟩) | (go_at_call 137; refine (isMember_b _ _ _ t1).mono ?_; rintro e w' ⟨rfl, rfl⟩))
      go_ret
      exact ⟨ret_bool HF.out.symm, (Below.refl _ _).alloc (Nat.le_refl _) _⟩
    | true =>
      cases t2 : tickB r.m.tick with
      | false =>
        have HF := Lib.hid (show msgB r.m = false by simp only [msgB, t0, t1, t2]; simp)
        go_enter Try.func85, Try.ntmps85
        go_wp2_with (first | (go_at_call 136; refine (isNumber_b _ _ _ t0).mono ?_; rintro e w' ⟨rfl, rfl⟩) | (go_at_call 137; refine (isMember_b _ _ _ t1).mono ?_; rintro e w' ⟨rfl, rfl⟩) | (go_at_call 86; refine (isTick_b _ _ _ t2).mono ?_; rintro e w' ⟨rfl, rfl⟩))
        go_ret
        exact ⟨ret_bool HF.out.symm, (Below.refl _ _).alloc (Nat.le_refl _) _⟩
      | true =>
        cases t3 : textB r.m.text with
        | false =>
          have HF := Lib.hid (show msgB r.m = false by simp only [msgB, t0, t1, t2, t3]; simp)
          go_enter Try.func85, Try.ntmps85
          go_wp2_with (first | (go_at_call 136; refine (isNumber_b _ _ _ t0).mono ?_; rintro e w' ⟨rfl, rfl⟩) | (go_at_call 137; refine (isMember_b _ _ _ t1).mono ?_; rintro e w' ⟨rfl, rfl⟩) | (go_at_call 86; refine (isTick_b _ _ _ t2).mono ?_; rintro e w' ⟨rfl, rfl⟩) | (go_at_call 62; refine (IsText_b _ _ _ ht t3).mono ?_; rintro e w' ⟨rfl, rfl⟩))
          go_ret
          exact ⟨ret_bool HF.out.symm, (Below.refl _ _).alloc (Nat.le_refl _) _⟩
        | true =>
          cases t4 : amtB r.m.edits with
          | false =>
            have HF := Lib.hid (show msgB r.m = false by simp only [msgB, t0, t1, t2, t3, t4]; simp)
            go_enter Try.func85, Try.ntmps85
            go_wp2_with (first | (go_at_call 136; refine (isNumber_b _ _ _ t0).mono ?_; rintro e w' ⟨rfl, rfl⟩) | (go_at_call 137; refine (isMember_b _ _ _ t1).mono ?_; rintro e w' ⟨rfl, rfl⟩) | (go_at_call 86; refine (isTick_b _ _ _ t2).mono ?_; rintro e w' ⟨rfl, rfl⟩) | (go_at_call 62; refine (IsText_b _ _ _ ht t3).mono ?_; rintro e w' ⟨rfl, rfl⟩) | (go_at_call 138; refine (isAmount_b _ _ _ t4).mono ?_; rintro e w' ⟨rfl, rfl⟩))
            go_ret
            exact ⟨ret_bool HF.out.symm, (Below.refl _ _).alloc (Nat.le_refl _) _⟩
          | true =>
            by_cases q0 : r.m.reply < 0
            · have t5 : repB r.m = false := decide_eq_false (by omega)
              have HF := Lib.hid (show msgB r.m = false by simp only [msgB, t0, t1, t2, t3, t4, t5]; simp)
              go_enter Try.func85, Try.ntmps85
              go_wp2_with (first | (go_at_call 136; refine (isNumber_b _ _ _ t0).mono ?_; rintro e w' ⟨rfl, rfl⟩) | (go_at_call 137; refine (isMember_b _ _ _ t1).mono ?_; rintro e w' ⟨rfl, rfl⟩) | (go_at_call 86; refine (isTick_b _ _ _ t2).mono ?_; rintro e w' ⟨rfl, rfl⟩) | (go_at_call 62; refine (IsText_b _ _ _ ht t3).mono ?_; rintro e w' ⟨rfl, rfl⟩) | (go_at_call 138; refine (isAmount_b _ _ _ t4).mono ?_; rintro e w' ⟨rfl, rfl⟩))
              go_ret
              exact ⟨ret_bool HF.out.symm, (Below.refl _ _).alloc (Nat.le_refl _) _⟩
            by_cases q1 : r.m.num ≤ r.m.reply
            · have t5 : repB r.m = false := decide_eq_false (by omega)
              have HF := Lib.hid (show msgB r.m = false by simp only [msgB, t0, t1, t2, t3, t4, t5]; simp)
              go_enter Try.func85, Try.ntmps85
              go_wp2_with (first | (go_at_call 136; refine (isNumber_b _ _ _ t0).mono ?_; rintro e w' ⟨rfl, rfl⟩) | (go_at_call 137; refine (isMember_b _ _ _ t1).mono ?_; rintro e w' ⟨rfl, rfl⟩) | (go_at_call 86; refine (isTick_b _ _ _ t2).mono ?_; rintro e w' ⟨rfl, rfl⟩) | (go_at_call 62; refine (IsText_b _ _ _ ht t3).mono ?_; rintro e w' ⟨rfl, rfl⟩) | (go_at_call 138; refine (isAmount_b _ _ _ t4).mono ?_; rintro e w' ⟨rfl, rfl⟩))
              go_ret
              exact ⟨ret_bool HF.out.symm, (Below.refl _ _).alloc (Nat.le_refl _) _⟩
            have t5 : repB r.m = true := decide_eq_true (by omega)
            have q0' : decide (r.m.reply < 0) = false := decide_eq_false (by omega)
            have q1' : decide (r.m.num ≤ r.m.reply) = false := decide_eq_false (by omega)
            clear q0 q1
            by_cases q2 : 20 < r.ln
            · have t6 : likesB r.m = false := by have := HL.out; simp only [likesB, Bool.and_eq_false_imp, decide_eq_true_eq]; intro; omega
              have q2' : decide ((20 : Int) < (r.ln : Int)) = true := decide_eq_true (by omega)
              have HF := Lib.hid (show msgB r.m = false by simp only [msgB, t0, t1, t2, t3, t4, t5, t6]; simp)
              go_enter Try.func85, Try.ntmps85
              go_wp2_with (first | (go_at_call 136; refine (isNumber_b _ _ _ t0).mono ?_; rintro e w' ⟨rfl, rfl⟩) | (go_at_call 137; refine (isMember_b _ _ _ t1).mono ?_; rintro e w' ⟨rfl, rfl⟩) | (go_at_call 86; refine (isTick_b _ _ _ t2).mono ?_; rintro e w' ⟨rfl, rfl⟩) | (go_at_call 62; refine (IsText_b _ _ _ ht t3).mono ?_; rintro e w' ⟨rfl, rfl⟩) | (go_at_call 138; refine (isAmount_b _ _ _ t4).mono ?_; rintro e w' ⟨rfl, rfl⟩))
              go_ret
              exact ⟨ret_bool HF.out.symm, (Below.refl _ _).alloc (Nat.le_refl _) _⟩
            have q2' : decide ((20 : Int) < (r.ln : Int)) = false := decide_eq_false (by omega)
            have q3 : decide (r.m.likes.length ≤ 20) = true := by have := HL.out; exact decide_eq_true (by omega)
            cases t6 : memB r.m.likes with
            | false =>
              have t7 : likesB r.m = false := by simp [likesB, t6]
              have HF := Lib.hid (show msgB r.m = false by simp only [msgB, t0, t1, t2, t3, t4, t5, t7]; simp)
              go_enter Try.func85, Try.ntmps85
              go_wp2_with (first | (go_at_call 136; refine (isNumber_b _ _ _ t0).mono ?_; rintro e w' ⟨rfl, rfl⟩) | (go_at_call 137; refine (isMember_b _ _ _ t1).mono ?_; rintro e w' ⟨rfl, rfl⟩) | (go_at_call 86; refine (isTick_b _ _ _ t2).mono ?_; rintro e w' ⟨rfl, rfl⟩) | (go_at_call 62; refine (IsText_b _ _ _ ht t3).mono ?_; rintro e w' ⟨rfl, rfl⟩) | (go_at_call 138; refine (isAmount_b _ _ _ t4).mono ?_; rintro e w' ⟨rfl, rfl⟩) | (go_at_call 114; refine (impl_IsMembers_b _ _ _ _ _ _ _ (HWA.out _) (by omega) t6).mono ?_; rintro e w' ⟨rfl, rfl⟩))
              go_ret
              exact ⟨ret_bool HF.out.symm, (Below.refl _ _).alloc (Nat.le_refl _) _⟩
            | true =>
              cases t8 : decide (r.m.sdr ∈ r.m.likes) with
              | true =>
                have t7 : likesB r.m = false := by simp only [likesB, t6, t8]; simp
                have HF := Lib.hid (show msgB r.m = false by simp only [msgB, t0, t1, t2, t3, t4, t5, t7]; simp)
                go_enter Try.func85, Try.ntmps85
                go_wp2_with (first | (go_at_call 136; refine (isNumber_b _ _ _ t0).mono ?_; rintro e w' ⟨rfl, rfl⟩) | (go_at_call 137; refine (isMember_b _ _ _ t1).mono ?_; rintro e w' ⟨rfl, rfl⟩) | (go_at_call 86; refine (isTick_b _ _ _ t2).mono ?_; rintro e w' ⟨rfl, rfl⟩) | (go_at_call 62; refine (IsText_b _ _ _ ht t3).mono ?_; rintro e w' ⟨rfl, rfl⟩) | (go_at_call 138; refine (isAmount_b _ _ _ t4).mono ?_; rintro e w' ⟨rfl, rfl⟩) | (go_at_call 114; refine (impl_IsMembers_b _ _ _ _ _ _ _ (HWA.out _) (by omega) t6).mono ?_; rintro e w' ⟨rfl, rfl⟩) | (go_at_call 139; refine (slContains_b _ _ _ _ _ _ _ _ (HWA.out _) hn t8).mono ?_; rintro e w' ⟨rfl, rfl⟩))
                go_ret
                exact ⟨ret_bool HF.out.symm, (Below.refl _ _).alloc (Nat.le_refl _) _⟩
              | false =>
                have t7 : likesB r.m = true := by simp only [likesB, t6, t8, q3]; rfl
                clear q3
                cases t9 : r.m.gone with
                | false =>
                  have HF := Lib.hid (show msgB r.m = true by simp only [msgB, t0, t1, t2, t3, t4, t5, t7]; simp only [goneB, t9]; simp)
                  go_enter Try.func85, Try.ntmps85
                  go_wp2_with (first | (go_at_call 136; refine (isNumber_b _ _ _ t0).mono ?_; rintro e w' ⟨rfl, rfl⟩) | (go_at_call 137; refine (isMember_b _ _ _ t1).mono ?_; rintro e w' ⟨rfl, rfl⟩) | (go_at_call 86; refine (isTick_b _ _ _ t2).mono ?_; rintro e w' ⟨rfl, rfl⟩) | (go_at_call 62; refine (IsText_b _ _ _ ht t3).mono ?_; rintro e w' ⟨rfl, rfl⟩) | (go_at_call 138; refine (isAmount_b _ _ _ t4).mono ?_; rintro e w' ⟨rfl, rfl⟩) | (go_at_call 114; refine (impl_IsMembers_b _ _ _ _ _ _ _ (HWA.out _) (by omega) t6).mono ?_; rintro e w' ⟨rfl, rfl⟩) | (go_at_call 139; refine (slContains_b _ _ _ _ _ _ _ _ (HWA.out _) hn t8).mono ?_; rintro e w' ⟨rfl, rfl⟩))
                  go_ret
                  exact ⟨ret_bool HF.out.symm, (Below.refl _ _).alloc (Nat.le_refl _) _⟩
                | true =>
                  cases t10 : r.m.text.toList.isEmpty with
                  | false =>
                    have t11 : ¬ r.m.text.toList = [] := by intro e; rw [e] at t10; cases t10
                    have HF := Lib.hid (show msgB r.m = false by simp only [msgB, t0, t1, t2, t3, t4, t5, t7]; simp only [goneB, t9, t10]; simp)
                    go_enter Try.func85, Try.ntmps85
                    go_wp2_with (first | (go_at_call 136; refine (isNumber_b _ _ _ t0).mono ?_; rintro e w' ⟨rfl, rfl⟩) | (go_at_call 137; refine (isMember_b _ _ _ t1).mono ?_; rintro e w' ⟨rfl, rfl⟩) | (go_at_call 86; refine (isTick_b _ _ _ t2).mono ?_; rintro e w' ⟨rfl, rfl⟩) | (go_at_call 62; refine (IsText_b _ _ _ ht t3).mono ?_; rintro e w' ⟨rfl, rfl⟩) | (go_at_call 138; refine (isAmount_b _ _ _ t4).mono ?_; rintro e w' ⟨rfl, rfl⟩) | (go_at_call 114; refine (impl_IsMembers_b _ _ _ _ _ _ _ (HWA.out _) (by omega) t6).mono ?_; rintro e w' ⟨rfl, rfl⟩) | (go_at_call 139; refine (slContains_b _ _ _ _ _ _ _ _ (HWA.out _) hn t8).mono ?_; rintro e w' ⟨rfl, rfl⟩))
                    go_ret
                    exact ⟨ret_bool HF.out.symm, (Below.refl _ _).alloc (Nat.le_refl _) _⟩
                  | true =>
                    have t11 : r.m.text.toList = [] := by simpa using t10
                    have HF := Lib.hid (show msgB r.m = decide (r.m.likes.length = 0) by simp only [msgB, t0, t1, t2, t3, t4, t5, t7]; simp only [goneB, t9, t10]; simp)
                    go_enter Try.func85, Try.ntmps85
                    go_wp2_with (first | (go_at_call 136; refine (isNumber_b _ _ _ t0).mono ?_; rintro e w' ⟨rfl, rfl⟩) | (go_at_call 137; refine (isMember_b _ _ _ t1).mono ?_; rintro e w' ⟨rfl, rfl⟩) | (go_at_call 86; refine (isTick_b _ _ _ t2).mono ?_; rintro e w' ⟨rfl, rfl⟩) | (go_at_call 62; refine (IsText_b _ _ _ ht t3).mono ?_; rintro e w' ⟨rfl, rfl⟩) | (go_at_call 138; refine (isAmount_b _ _ _ t4).mono ?_; rintro e w' ⟨rfl, rfl⟩) | (go_at_call 114; refine (impl_IsMembers_b _ _ _ _ _ _ _ (HWA.out _) (by omega) t6).mono ?_; rintro e w' ⟨rfl, rfl⟩) | (go_at_call 139; refine (slContains_b _ _ _ _ _ _ _ _ (HWA.out _) hn t8).mono ?_; rintro e w' ⟨rfl, rfl⟩))
                    go_ret
                    exact ⟨ret_bool (by rw [HF.out, HL.out]; exact nat_beq0 _), (Below.refl _ _).alloc (Nat.le_refl _) _⟩
theorem msg_pos {n : Int} (h : numB n = true) : 1 ≤ n ∧ n ≤ 1000000000 := of_decide_eq_true h
theorem quiet_add {P : Program} {f : FuncId} {args : Array Value} {w : World} {a n : Nat} {v : Value}
    (h : Calls P f args (w.drewN (a + n)) fun e w' => e = .returned v ∧ ∃ m, w' = (w.drewN (a + n)).drewN m) :
    Calls P f args (w.drewN (a + n)) fun e w'' => e = .returned v ∧ ∃ m, w'' = w.drewN (a + m) :=
  h.mono fun _ _ ⟨he, m, hm⟩ => ⟨he, n + m, by rw [hm, World.drewN_drewN, Nat.add_assoc]⟩
theorem quiet_add_left {P : Program} {f : FuncId} {args : Array Value} {w : World} {a n : Nat} {v : Value}
    (h : Calls P f args (w.drewN (a + n)) fun e w' => e = .returned v ∧ w.drewN (a + n) = w') :
    Calls P f args (w.drewN (a + n)) fun e w'' => e = .returned v ∧ ∃ m, w'' = w.drewN (a + m) :=
  h.mono fun _ _ ⟨he, hm⟩ => ⟨he, n, hm.symm⟩
theorem Calls.quiet_at2 {P : Program} {f : FuncId} {args : Array Value} {w : World} {n : Nat} {v : Value}
    (h : Calls P f args (w.drewN n) fun e w' => e = .returned v ∧ ∃ q, w' = (w.drewN n).drewN q) : Calls P f args (w.drewN n) fun e w'' => e = .returned v ∧ ∃ m, w'' = w.drewN m :=
  h.mono fun _ _ ⟨he, q, hm⟩ => ⟨he, n + q, by rw [hm, World.drewN_drewN]⟩
set_option maxHeartbeats 6400000 in
theorem l03Message_any (b o B : Nat) (r : Rm) (w : World) (hc : w.rangeAt b o (rmC r)) (h : Row i64v w B r.la r.ln r.m.likes) (hn : r.ln ≤ 1048576) (ht : r.m.text.size ≤ 1048576) :
    Calls Try.prog 134 #[.pointer (some ⟨b, o, none⟩)] w fun e w' => e = .returned (.bool (msgB r.m)) ∧ ∃ q, w' = w.drewN q := by
  have HL := Lib.hid h.1
  obtain ⟨c0, c1, c2, c3, c4, c5, c6, c7⟩ := msg_cells hc
  clear hc
  cases t0 : numB r.m.num with
  | false =>
    have HF := Lib.hid (show msgB r.m = false by simp only [msgB, t0]; simp)
    go_enter Try.func134, Try.ntmps134
    go_wp2
    go_quiet ((first | (go_at_call 78; exact Calls.quiet_here (l00In_b _ _ _ _ _ (show decide (1 ≤ r.m.num ∧ r.m.num ≤ 1000000000) = _ from t0)))))
    go_wp2
    go_ret
    exact ⟨ret_bool HF.out.symm, by first | exact ⟨_, rfl⟩ | exact ⟨_, World.drewN_drewN ..⟩⟩
  | true =>
    cases t1 : idB r.m.sdr with
    | false =>
      have HF := Lib.hid (show msgB r.m = false by simp only [msgB, t0, t1]; simp)
      go_enter Try.func134, Try.ntmps134
      go_wp2
      go_quiet ((first | (go_at_call 78; exact Calls.quiet_here (l00In_b _ _ _ _ _ (show decide (1 ≤ r.m.num ∧ r.m.num ≤ 1000000000) = _ from t0))) | (go_at_call 164; exact Calls.quiet_here (l01Mem_b _ _ _ t1))))
      go_wp2
      go_ret
      exact ⟨ret_bool HF.out.symm, by first | exact ⟨_, rfl⟩ | exact ⟨_, World.drewN_drewN ..⟩⟩
    | true =>
      cases t2 : tickB r.m.tick with
      | false =>
        have HF := Lib.hid (show msgB r.m = false by simp only [msgB, t0, t1, t2]; simp)
        go_enter Try.func134, Try.ntmps134
        go_wp2
        go_quiet ((first | (go_at_call 78; exact Calls.quiet_here (l00In_b _ _ _ _ _ (show decide (1 ≤ r.m.num ∧ r.m.num ≤ 1000000000) = _ from t0))) | (go_at_call 164; exact Calls.quiet_here (l01Mem_b _ _ _ t1)) | (go_at_call 165; exact Calls.quiet_here (l01Tick_b _ _ _ t2))))
        go_wp2
        go_ret
        exact ⟨ret_bool HF.out.symm, by first | exact ⟨_, rfl⟩ | exact ⟨_, World.drewN_drewN ..⟩⟩
      | true =>
        cases t3 : textB r.m.text with
        | false =>
          have HF := Lib.hid (show msgB r.m = false by simp only [msgB, t0, t1, t2, t3]; simp)
          go_enter Try.func134, Try.ntmps134
          go_wp2
          go_quiet ((first | (go_at_call 78; exact Calls.quiet_here (l00In_b _ _ _ _ _ (show decide (1 ≤ r.m.num ∧ r.m.num ≤ 1000000000) = _ from t0))) | (go_at_call 164; exact Calls.quiet_here (l01Mem_b _ _ _ t1)) | (go_at_call 165; exact Calls.quiet_here (l01Tick_b _ _ _ t2)) | (go_at_call 60; exact Calls.quiet_here (l01Text_b _ _ _ ht t3))))
          go_wp2
          go_ret
          exact ⟨ret_bool HF.out.symm, by first | exact ⟨_, rfl⟩ | exact ⟨_, World.drewN_drewN ..⟩⟩
        | true =>
          cases t4 : amtB r.m.edits with
          | false =>
            have HF := Lib.hid (show msgB r.m = false by simp only [msgB, t0, t1, t2, t3, t4]; simp)
            go_enter Try.func134, Try.ntmps134
            go_wp2
            go_quiet ((first | (go_at_call 78; exact Calls.quiet_here (l00In_b _ _ _ _ _ (show decide (1 ≤ r.m.num ∧ r.m.num ≤ 1000000000) = _ from t0))) | (go_at_call 164; exact Calls.quiet_here (l01Mem_b _ _ _ t1)) | (go_at_call 165; exact Calls.quiet_here (l01Tick_b _ _ _ t2)) | (go_at_call 60; exact Calls.quiet_here (l01Text_b _ _ _ ht t3)) | (go_at_call 78; exact Calls.quiet_here (l00In_b _ _ _ _ _ (show decide (0 ≤ r.m.edits ∧ r.m.edits ≤ 1000000000) = _ from t4)))))
            go_wp2
            go_ret
            exact ⟨ret_bool HF.out.symm, by first | exact ⟨_, rfl⟩ | exact ⟨_, World.drewN_drewN ..⟩⟩
          | true =>
            cases t5 : repB r.m with
            | false =>
              have p0 := msg_pos t0
              have HF := Lib.hid (show msgB r.m = false by simp only [msgB, t0, t1, t2, t3, t4, t5]; simp)
              go_enter Try.func134, Try.ntmps134
              go_wp2
              go_quiet ((first | (go_at_call 78; exact Calls.quiet_here (l00In_b _ _ _ _ _ (show decide (1 ≤ r.m.num ∧ r.m.num ≤ 1000000000) = _ from t0))) | (go_at_call 164; exact Calls.quiet_here (l01Mem_b _ _ _ t1)) | (go_at_call 165; exact Calls.quiet_here (l01Tick_b _ _ _ t2)) | (go_at_call 60; exact Calls.quiet_here (l01Text_b _ _ _ ht t3)) | (go_at_call 78; exact Calls.quiet_here (l00In_b _ _ _ _ _ (show decide (0 ≤ r.m.edits ∧ r.m.edits ≤ 1000000000) = _ from t4))) | (go_at_call 78; exact Calls.quiet_here (l00In_b _ _ _ _ _ (show decide (0 ≤ r.m.reply ∧ r.m.reply ≤ r.m.num - 1) = _ from t5)))))
              go_wp2
              go_ret
              exact ⟨ret_bool HF.out.symm, by first | exact ⟨_, rfl⟩ | exact ⟨_, World.drewN_drewN ..⟩⟩
            | true =>
              have p0 := msg_pos t0
              by_cases q2 : 20 < r.ln
              · have t6 : likesB r.m = false := by have := HL.out; simp only [likesB, Bool.and_eq_false_imp, decide_eq_true_eq]; intro; omega
                have q2' : decide ((20 : Int) < (r.ln : Int)) = true := decide_eq_true (by omega)
                have HF := Lib.hid (show msgB r.m = false by simp only [msgB, t0, t1, t2, t3, t4, t5, t6]; simp)
                go_enter Try.func134, Try.ntmps134
                go_wp2
                go_quiet ((first | (go_at_call 78; exact Calls.quiet_here (l00In_b _ _ _ _ _ (show decide (1 ≤ r.m.num ∧ r.m.num ≤ 1000000000) = _ from t0))) | (go_at_call 164; exact Calls.quiet_here (l01Mem_b _ _ _ t1)) | (go_at_call 165; exact Calls.quiet_here (l01Tick_b _ _ _ t2)) | (go_at_call 60; exact Calls.quiet_here (l01Text_b _ _ _ ht t3)) | (go_at_call 78; exact Calls.quiet_here (l00In_b _ _ _ _ _ (show decide (0 ≤ r.m.edits ∧ r.m.edits ≤ 1000000000) = _ from t4))) | (go_at_call 78; exact Calls.quiet_here (l00In_b _ _ _ _ _ (show decide (0 ≤ r.m.reply ∧ r.m.reply ≤ r.m.num - 1) = _ from t5)))))
                have e0 : True := trivial
                go_wp2
                go_quiet (fail)
                go_wp2
                go_ret
                exact ⟨ret_bool HF.out.symm, by first | exact ⟨_, rfl⟩ | exact ⟨_, World.drewN_drewN ..⟩⟩
              have q2' : decide ((20 : Int) < (r.ln : Int)) = false := decide_eq_false (by omega)
              have q3 : decide (r.m.likes.length ≤ 20) = true := by have := HL.out; exact decide_eq_true (by omega)
              cases t6 : memB r.m.likes with
              | false =>
                have t7 : likesB r.m = false := by simp [likesB, t6]
                have HF := Lib.hid (show msgB r.m = false by simp only [msgB, t0, t1, t2, t3, t4, t5, t7]; simp)
                go_enter Try.func134, Try.ntmps134
                go_wp2
                go_quiet ((first | (go_at_call 78; exact Calls.quiet_here (l00In_b _ _ _ _ _ (show decide (1 ≤ r.m.num ∧ r.m.num ≤ 1000000000) = _ from t0))) | (go_at_call 164; exact Calls.quiet_here (l01Mem_b _ _ _ t1)) | (go_at_call 165; exact Calls.quiet_here (l01Tick_b _ _ _ t2)) | (go_at_call 60; exact Calls.quiet_here (l01Text_b _ _ _ ht t3)) | (go_at_call 78; exact Calls.quiet_here (l00In_b _ _ _ _ _ (show decide (0 ≤ r.m.edits ∧ r.m.edits ≤ 1000000000) = _ from t4))) | (go_at_call 78; exact Calls.quiet_here (l00In_b _ _ _ _ _ (show decide (0 ≤ r.m.reply ∧ r.m.reply ≤ r.m.num - 1) = _ from t5)))))
                have e0 : True := trivial
                go_wp2
                go_quiet ((first | (go_at_call 112; exact quiet_add (l01Members_any _ _ _ _ _ _ _ (h.drewN _) (by omega) t6))))
                go_wp2
                go_ret
                exact ⟨ret_bool HF.out.symm, by first | exact ⟨_, rfl⟩ | exact ⟨_, World.drewN_drewN ..⟩⟩
              | true =>
                cases t8 : decide (r.m.sdr ∈ r.m.likes) with
                | true =>
                  have t7 : likesB r.m = false := by simp only [likesB, t6, t8]; simp
                  have HF := Lib.hid (show msgB r.m = false by simp only [msgB, t0, t1, t2, t3, t4, t5, t7]; simp)
                  go_enter Try.func134, Try.ntmps134
                  go_wp2
                  go_quiet ((first | (go_at_call 78; exact Calls.quiet_here (l00In_b _ _ _ _ _ (show decide (1 ≤ r.m.num ∧ r.m.num ≤ 1000000000) = _ from t0))) | (go_at_call 164; exact Calls.quiet_here (l01Mem_b _ _ _ t1)) | (go_at_call 165; exact Calls.quiet_here (l01Tick_b _ _ _ t2)) | (go_at_call 60; exact Calls.quiet_here (l01Text_b _ _ _ ht t3)) | (go_at_call 78; exact Calls.quiet_here (l00In_b _ _ _ _ _ (show decide (0 ≤ r.m.edits ∧ r.m.edits ≤ 1000000000) = _ from t4))) | (go_at_call 78; exact Calls.quiet_here (l00In_b _ _ _ _ _ (show decide (0 ≤ r.m.reply ∧ r.m.reply ≤ r.m.num - 1) = _ from t5)))))
                  have e0 : True := trivial
                  go_wp2
                  go_quiet ((first | (go_at_call 112; exact quiet_add (l01Members_any _ _ _ _ _ _ _ (h.drewN _) (by omega) t6)) | (go_at_call 166; exact quiet_add_left (l00Has_b _ _ _ _ _ _ _ _ (h.drewN _) hn t8))))
                  go_wp2
                  go_ret
                  exact ⟨ret_bool HF.out.symm, by first | exact ⟨_, rfl⟩ | exact ⟨_, World.drewN_drewN ..⟩⟩
                | false =>
                  have t7 : likesB r.m = true := by simp only [likesB, t6, t8, q3]; rfl
                  clear q3
                  cases t9 : r.m.gone with
                  | false =>
                    have HF := Lib.hid (show msgB r.m = true by simp only [msgB, t0, t1, t2, t3, t4, t5, t7]; simp only [goneB, t9]; simp)
                    go_enter Try.func134, Try.ntmps134
                    go_wp2
                    go_quiet ((first | (go_at_call 78; exact Calls.quiet_here (l00In_b _ _ _ _ _ (show decide (1 ≤ r.m.num ∧ r.m.num ≤ 1000000000) = _ from t0))) | (go_at_call 164; exact Calls.quiet_here (l01Mem_b _ _ _ t1)) | (go_at_call 165; exact Calls.quiet_here (l01Tick_b _ _ _ t2)) | (go_at_call 60; exact Calls.quiet_here (l01Text_b _ _ _ ht t3)) | (go_at_call 78; exact Calls.quiet_here (l00In_b _ _ _ _ _ (show decide (0 ≤ r.m.edits ∧ r.m.edits ≤ 1000000000) = _ from t4))) | (go_at_call 78; exact Calls.quiet_here (l00In_b _ _ _ _ _ (show decide (0 ≤ r.m.reply ∧ r.m.reply ≤ r.m.num - 1) = _ from t5)))))
                    have e0 : True := trivial
                    go_wp2
                    go_quiet ((first | (go_at_call 112; exact quiet_add (l01Members_any _ _ _ _ _ _ _ (h.drewN _) (by omega) t6)) | (go_at_call 166; exact quiet_add_left (l00Has_b _ _ _ _ _ _ _ _ (h.drewN _) hn t8))))
                    go_wp2
                    go_ret
                    exact ⟨ret_bool HF.out.symm, by first | exact ⟨_, rfl⟩ | exact ⟨_, World.drewN_drewN ..⟩⟩
                  | true =>
                    cases t10 : r.m.text.toList.isEmpty with
                    | false =>
                      have t11 : ¬ r.m.text.toList = [] := by intro e; rw [e] at t10; cases t10
                      have HF := Lib.hid (show msgB r.m = false by simp only [msgB, t0, t1, t2, t3, t4, t5, t7]; simp only [goneB, t9, t10]; simp)
                      go_enter Try.func134, Try.ntmps134
                      go_wp2
                      go_quiet ((first | (go_at_call 78; exact Calls.quiet_here (l00In_b _ _ _ _ _ (show decide (1 ≤ r.m.num ∧ r.m.num ≤ 1000000000) = _ from t0))) | (go_at_call 164; exact Calls.quiet_here (l01Mem_b _ _ _ t1)) | (go_at_call 165; exact Calls.quiet_here (l01Tick_b _ _ _ t2)) | (go_at_call 60; exact Calls.quiet_here (l01Text_b _ _ _ ht t3)) | (go_at_call 78; exact Calls.quiet_here (l00In_b _ _ _ _ _ (show decide (0 ≤ r.m.edits ∧ r.m.edits ≤ 1000000000) = _ from t4))) | (go_at_call 78; exact Calls.quiet_here (l00In_b _ _ _ _ _ (show decide (0 ≤ r.m.reply ∧ r.m.reply ≤ r.m.num - 1) = _ from t5)))))
                      have e0 : True := trivial
                      go_wp2
                      go_quiet ((first | (go_at_call 112; exact quiet_add (l01Members_any _ _ _ _ _ _ _ (h.drewN _) (by omega) t6)) | (go_at_call 166; exact quiet_add_left (l00Has_b _ _ _ _ _ _ _ _ (h.drewN _) hn t8))))
                      go_wp2
                      go_ret
                      exact ⟨ret_bool HF.out.symm, by first | exact ⟨_, rfl⟩ | exact ⟨_, World.drewN_drewN ..⟩⟩
                    | true =>
                      have t11 : r.m.text.toList = [] := by simpa using t10
                      have HF := Lib.hid (show msgB r.m = decide (r.m.likes.length = 0) by simp only [msgB, t0, t1, t2, t3, t4, t5, t7]; simp only [goneB, t9, t10]; simp)
                      go_enter Try.func134, Try.ntmps134
                      go_wp2
                      go_quiet ((first | (go_at_call 78; exact Calls.quiet_here (l00In_b _ _ _ _ _ (show decide (1 ≤ r.m.num ∧ r.m.num ≤ 1000000000) = _ from t0))) | (go_at_call 164; exact Calls.quiet_here (l01Mem_b _ _ _ t1)) | (go_at_call 165; exact Calls.quiet_here (l01Tick_b _ _ _ t2)) | (go_at_call 60; exact Calls.quiet_here (l01Text_b _ _ _ ht t3)) | (go_at_call 78; exact Calls.quiet_here (l00In_b _ _ _ _ _ (show decide (0 ≤ r.m.edits ∧ r.m.edits ≤ 1000000000) = _ from t4))) | (go_at_call 78; exact Calls.quiet_here (l00In_b _ _ _ _ _ (show decide (0 ≤ r.m.reply ∧ r.m.reply ≤ r.m.num - 1) = _ from t5)))))
                      have e0 : True := trivial
                      go_wp2
                      go_quiet ((first | (go_at_call 112; exact quiet_add (l01Members_any _ _ _ _ _ _ _ (h.drewN _) (by omega) t6)) | (go_at_call 166; exact quiet_add_left (l00Has_b _ _ _ _ _ _ _ _ (h.drewN _) hn t8))))
                      go_wp2
                      go_ret
                      exact ⟨ret_bool (by rw [HF.out, HL.out]; exact nat_beq0 _), by first | exact ⟨_, rfl⟩ | exact ⟨_, World.drewN_drewN ..⟩⟩
theorem spec_ValidMessage_any (r : Rm) (w : World) (h : Row i64v w w.heap.size r.la r.ln r.m.likes) (hn : r.ln ≤ 1048576) (ht : r.m.text.size ≤ 1048576) :
    Calls Try.prog 83 #[.agg #[.int .i64 r.m.num, .int .i64 r.m.sdr, .int .i64 r.m.tick, .string r.m.text, .int .i64 r.m.edits, .bool r.m.gone, .int .i64 r.m.reply, .slice r.la r.ln r.lc]] w fun e w' => e = .returned (.bool (msgB r.m)) ∧ Below w.heap.size w w' := by
  go_enter Try.func83, Try.ntmps83
  go_wp2_with fail
  obtain ⟨k0, hb0⟩ := one_box w 41 #[.int .i64 r.m.num, .int .i64 r.m.sdr, .int .i64 r.m.tick, .string r.m.text, .int .i64 r.m.edits, .bool r.m.gone, .int .i64 r.m.reply, .slice r.la r.ln r.lc]
  generalize w.alloc (.cells #[.int .i64 r.m.num, .int .i64 r.m.sdr, .int .i64 r.m.tick, .string r.m.text, .int .i64 r.m.edits, .bool r.m.gone, .int .i64 r.m.reply, .slice r.la r.ln r.lc] 41) = W at *
  go_at_call 134; refine (l03Message_any w.heap.size 0 _ r _ (blk_range k0) (h.to hb0) hn ht).mono ?_; rintro e w2 ⟨rfl, q, rfl⟩
  go_wp2
  go_ret
  exact ⟨rfl, hb0.trans (Below.mono (drew_below ⟨q, rfl⟩) hb0.size)⟩
end Go.Proofs.Yteeodjbionjlmaa
