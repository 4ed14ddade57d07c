import Derived.Test.YteeodjbionjlmaaChecked
import Derived.WalkKit
import Derived.ProofKit
import Derived.OpenShut
import Derived.ShutString
import Derived.ChangeOld
import Derived.Below
import Derived.Lib.Hide
import Derived.WalkSpells
import Derived.WalkLawsBesides
import Derived.Maps.AppendAt
import Derived.Test.YteeodjbionjlmaaZSnpI
import Derived.Test.YteeodjbionjlmaaZQryS
namespace Go.Proofs.Yteeodjbionjlmaa
open Go.ChangeShapes Go.WideShapes Go.ChangeAt Go.RowKit
open Go.ChangeMaps (open_string shut_string)
set_option linter.unusedVariables false
set_option maxRecDepth 100000
theorem ret_snip {p : ByteArray × Bool} {v : ByteArray} {b : Bool} (h : p = (v, b)) : Ending.returned (.tuple #[.string v, .bool b]) = .returned (.tuple #[.string p.1, .bool p.2]) := by rw [h]
theorem l00Min_x (a b : Int) (w : World) : Calls Try.prog 80 #[.int .i64 a, .int .i64 b] w fun e w' => e = .returned (.int .i64 (min a b)) ∧ w = w' := by
  by_cases h : a < b
  · have h' : decide (a < b) = true := decide_eq_true h
    have e : min a b = a := by omega
    rw [e]
    go_enter Try.func80, Try.ntmps80
    go_wp2
    go_ret
    exact ⟨rfl, rfl⟩
  · have h' : decide (a < b) = false := decide_eq_false h
    have e : min a b = b := by omega
    rw [e]
    go_enter Try.func80, Try.ntmps80
    go_wp2
    go_ret
    exact ⟨rfl, rfl⟩
theorem l00Max_r (a b r : Int) (w : World) (h : max a b = r) : Calls Try.prog 79 #[.int .i64 a, .int .i64 b] w fun e w' => e = .returned (.int .i64 r) ∧ w = w' := by
  subst h
  by_cases h : b < a
  · have E := Lib.hid (show max a b = a by omega)
    go_enter Try.func79, Try.ntmps79
    go_wp2
    go_ret
    exact ⟨ret_int E.out.symm, rfl⟩
  · have E := Lib.hid (show max a b = b by omega)
    go_enter Try.func79, Try.ntmps79
    go_wp2
    go_ret
    exact ⟨ret_int E.out.symm, rfl⟩
theorem l00Min_r (a b r : Int) (w : World) (h : min a b = r) : Calls Try.prog 80 #[.int .i64 a, .int .i64 b] w fun e w' => e = .returned (.int .i64 r) ∧ w = w' := by
  subst h; exact l00Min_x a b w
theorem spec_IsText_b (s : ByteArray) (r : Bool) (w : World) (hs : s.size ≤ maxLen) (h : textB s = r) : Calls Try.prog 65 #[.string s] w fun e w' => e = .returned (.bool r) ∧ w = w' := by
  subst h; exact spec_IsText_any s w hs
theorem l08Query_b (A : Option Addr) (n c : Nat) (xs : List ByteArray) (r : Bool) (w : World) (h : Row strv w w.heap.size A n xs) (hn : n ≤ 1048576) (hsz : ∀ s ∈ xs, s.size ≤ maxLen) (hq : queryB xs = r) :
    Calls Try.prog 75 #[.slice A n c] w fun e w' => e = .returned (.bool r) ∧ Below w.heap.size w w' := by
  subst hq; exact l08Query_any A n c xs w h hn hsz
theorem spec_SnippetOf_no (A : Option Addr) (n c : Nat) (xs : List ByteArray) (s : ByteArray) (wide : Int) (w : World) (h : Row strv w w.heap.size A n xs) (hn : n ≤ 1048576) (hsz : ∀ s ∈ xs, s.size ≤ maxLen)
    (hs : s.size ≤ maxLen) (hno : textB s = false ∨ queryB xs = false ∨ wide < 0 ∨ 80 < wide) :
    Calls Try.prog 30 #[.string s, .slice A n c, .int .i64 wide] w fun e w' => e = .returned (.tuple #[.string ⟨#[]⟩, .bool false]) ∧ Below w.heap.size w w' := by
  cases t0 : textB s with
  | false =>
    clear hno
    go_enter Try.func30, Try.ntmps30
    go_wp2_with (go_at_call 65; refine (spec_IsText_b _ _ _ hs t0).mono ?_; rintro e w' ⟨rfl, rfl⟩)
    go_ret2
    exact ⟨rfl, Below.refl _ _⟩
  | true =>
    cases q0 : queryB xs with
    | false =>
      clear hno
      go_enter Try.func30, Try.ntmps30
      go_wp2_with (first | (go_at_call 65; refine (spec_IsText_b _ _ _ hs t0).mono ?_; rintro e w' ⟨rfl, rfl⟩) | (go_at_call 75; refine (l08Query_b A n c xs _ _ h hn hsz q0).mono ?_; rintro e w2 ⟨rfl, hb⟩))
      go_ret2
      exact ⟨rfl, hb⟩
    | true =>
      have hw : ¬ (0 ≤ wide ∧ wide ≤ 80) := by
        rcases hno with h | h | h | h
        · exact absurd (t0.symm.trans h) (by decide)
        · exact absurd (q0.symm.trans h) (by decide)
        · omega
        · omega
      clear hno
      have HW := Lib.hid hw
      clear hw
      go_enter Try.func30, Try.ntmps30
      go_wp2_with (first | (go_at_call 65; refine (spec_IsText_b _ _ _ hs t0).mono ?_; rintro e w' ⟨rfl, rfl⟩) | (go_at_call 75; refine (l08Query_b A n c xs _ _ h hn hsz q0).mono ?_; rintro e w2 ⟨rfl, hb⟩) | (go_at_call 78; refine (l00In_no _ _ _ _ HW.out).mono ?_; rintro e w' ⟨rfl, rfl⟩))
      go_ret2
      exact ⟨rfl, hb⟩
set_option maxHeartbeats 3200000 in
theorem spec_SnippetOf_yes (A : Option Addr) (n c : Nat) (xs : List ByteArray) (s : ByteArray) (wide : Nat) (w : World) (h : Row strv w w.heap.size A n xs) (hn : n ≤ 1048576) (hsz : ∀ s ∈ xs, s.size ≤ maxLen)
    (hs : s.size ≤ maxLen) (ht : textB s = true) (hq : queryB xs = true) (hw : wide ≤ 80) :
    Calls Try.prog 30 #[.string s, .slice A n c, .int .i64 wide] w fun e w' => e = .returned (.tuple #[.string (snipR xs s wide).1, .bool (snipR xs s wide).2]) ∧ Below w.heap.size w w' := by
  have hz := textB_size ht
  have HT := Lib.hid ht
  have HQ := Lib.hid hq
  have HH := Lib.hid h
  have HSZ := Lib.hid hsz
  clear ht hq hsz
  go_enter Try.func30, Try.ntmps30
  go_wp2_with (first | (go_at_call 65; refine (spec_IsText_b _ _ _ hs HT.out).mono ?_; rintro e w' ⟨rfl, rfl⟩) | (go_at_call 75; refine (l08Query_b A n c xs _ _ h hn HSZ.out HQ.out).mono ?_; rintro e w2 ⟨rfl, hb⟩; clear h) | (go_at_call 78; refine (l00In_yes _ _ _ _ ⟨by omega, by omega⟩).mono ?_; rintro e w' ⟨rfl, rfl⟩))
  go_loopw [8] (fun i wr => ∃ k : Nat, k ≤ s.size + 1 ∧ i = .int .i64 k ∧ Hid ((rTo s k).2 = [] ∧ (rTo s k).1.filter (hitR xs) = []) ∧ Below w.heap.size w wr) (fun i _ => s.size + 1 - (intOf i).toNat)
  case atStart => exact ⟨0, by omega, rfl, Lib.hid ⟨rfl, rfl⟩, hb⟩
  case round =>
    obtain ⟨k, hk, rfl, HC, hbel⟩ := hrel
    clear hb
    have hbs := hbel.size
    by_cases hlt : k < s.size
    · have hE := endOf_le s k (by omega)
      have hG := endOf_ge s k
      by_cases he : endOf s k = k
      · have HS := Lib.hid (rTo_skip s k HC.out.1 he)
        have HE := Lib.hid he
        clear he hE hG
        go_wp2_with (go_at_call 70; refine (l06End_any s k _ (by omega) (by omega)).mono ?_; rintro e w' ⟨he, rfl⟩; rw [HE.out] at he; subst he)
        go_roundw
        case rel => exact ⟨k + 1, by omega, by go_num, Lib.hid (by rw [HS.out]; exact HC.out), hbel⟩
        case measure => simp [intOf]; omega
      · have hge := endOf_lt he
        have HS := Lib.hid (rTo_run s k HC.out.1 hge)
        have HX := Lib.hid (lows_extract s k (endOf s k) hG hE)
        have HZ := Lib.hid (size_extract_in s k (endOf s k) hE)
        have hls : (s.extract k (endOf s k)).size ≤ 1048576 := by rw [HZ.out]; omega
        have HLL := Lib.hid (lows_len s k (endOf s k))
        have HPX := Lib.hid (show (rTo s (endOf s k + 1)).1 <+: runsL s by have := rTo_prefix s (endOf s k + 1) (s.size - endOf s k); rwa [show endOf s k + 1 + (s.size - endOf s k) = s.size + 1 by omega] at this)
        generalize hee : endOf s k = e1 at *
        have HEE := Lib.hid hee
        have hne : (k : Int) < (e1 : Int) := by omega
        clear hee he
        cases hh : hasS xs (strOfNums (lows s k e1)) with
        | false =>
          have HF := Lib.hid (show (rTo s (e1 + 1)).1.filter (hitR xs) = [] by rw [HS.out]; rw [filter_snoc_no (show hitR xs (k, lows s k e1) = false from hh)]; exact HC.out.2)
          go_wp2_with fail
          go_at_call 70; refine (l06End_any s k _ (by omega) (by omega)).mono ?_; rintro e w' ⟨he, rfl⟩; rw [HEE.out] at he; subst he
          go_wp2_with fail
          go_at_call 71; refine (l06Word_any _ _ hls).mono ?_; rw [HX.out]; rintro e w2 ⟨rfl, hb2⟩
          have hbel := hbel.trans (hb2.mono hbs)
          have hbs := hbel.size
          clear hb2
          go_wp2_with fail
          go_at_call 68; refine (l06Has_any _ _ _ xs _ _ (words_to HH.out hbel) hn).mono ?_; rw [hh]; rintro e w3 ⟨rfl, rfl⟩
          clear hh
          go_wp2
          go_roundw
          case rel => exact ⟨e1 + 1, by omega, by go_num, Lib.hid ⟨by rw [HS.out], HF.out⟩, hbel⟩
          case measure => simp [intOf]; omega
        | true =>
          have HR := Lib.hid (show snipR xs s wide = (s.extract (k - wide) (min s.size (e1 + wide)), true) by
            obtain ⟨t, ht⟩ := HPX.out
            have hf : hitsL xs s = (k, lows s k e1) :: t.filter (hitR xs) := by
              unfold hitsL
              rw [← ht, HS.out, List.filter_append, filter_snoc_yes (show hitR xs (k, lows s k e1) = true from hh), HC.out.2]
              rfl
            unfold snipR
            rw [hf]
            simp only [HLL.out]
            rw [show k + (e1 - k) = e1 by omega])
          have hmx : max (0 : Int) ((k : Int) - (wide : Int)) = ((k - wide : Nat) : Int) := by omega
          have hmn : min (s.size : Int) ((e1 : Int) + (wide : Int)) = ((min s.size (e1 + wide) : Nat) : Int) := by omega
          have hlo : k - wide ≤ min s.size (e1 + wide) := by omega
          have hhi : min s.size (e1 + wide) ≤ s.size := by omega
          have HMX := Lib.hid hmx
          have HMN := Lib.hid hmn
          clear hmx hmn
          generalize k - wide = lo at *
          generalize min s.size (e1 + wide) = hi at *
          go_wp2_with fail
          go_at_call 70; refine (l06End_any s k _ (by omega) (by omega)).mono ?_; rintro e w' ⟨he, rfl⟩; rw [HEE.out] at he; subst he
          go_wp2_with fail
          go_at_call 71; refine (l06Word_any _ _ hls).mono ?_; rw [HX.out]; rintro e w2 ⟨rfl, hb2⟩
          have hbel := hbel.trans (hb2.mono hbs)
          have hbs := hbel.size
          clear hb2
          go_wp2_with fail
          go_at_call 68; refine (l06Has_any _ _ _ xs _ _ (words_to HH.out hbel) hn).mono ?_; rw [hh]; rintro e w3 ⟨rfl, rfl⟩
          clear hh
          go_wp2_with fail
          go_at_call 79; refine (l00Max_r _ _ _ _ HMX.out).mono ?_; rintro e w4 ⟨rfl, rfl⟩
          go_wp2_with fail
          go_at_call 80; refine (l00Min_r _ _ _ _ HMN.out).mono ?_; rintro e w5 ⟨rfl, rfl⟩
          go_wp2
          go_ret2
          exact ⟨ret_snip HR.out, hbel⟩
    · have HL := Lib.hid (rTo_last s k HC.out.1 (by omega) hk)
      have HR := Lib.hid (show snipR xs s wide = (⟨#[]⟩, false) by
        have : hitsL xs s = [] := by unfold hitsL; rw [← HL.out]; exact HC.out.2
        unfold snipR; rw [this])
      go_wp2
      go_ret2
      exact ⟨ret_snip HR.out, hbel⟩
end Go.Proofs.Yteeodjbionjlmaa
