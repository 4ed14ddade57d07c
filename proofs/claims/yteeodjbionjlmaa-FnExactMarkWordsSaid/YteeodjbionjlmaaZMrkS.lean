import Derived.Test.YteeodjbionjlmaaChecked
import Derived.WalkKit
import Derived.ProofKit
import Derived.OpenShut
import Derived.ShutString
import Derived.ChangeOld
import Derived.Below
import Derived.Lib.Hide
import Derived.WalkSpells
import Derived.WalkLawsBesides
import Derived.Maps.AppendAt
import Derived.Test.YteeodjbionjlmaaJyh
import Derived.Test.YteeodjbionjlmaaZSnpS
import Derived.Test.YteeodjbionjlmaaZFndS
namespace Go.Proofs.Yteeodjbionjlmaa
open Go.ChangeShapes Go.WideShapes Go.ChangeAt Go.RowKit
open Go.ChangeMaps (open_string shut_string)
set_option linter.unusedVariables false
set_option maxRecDepth 100000
def markF (r : ByteArray) : ByteArray := (⟨#[91]⟩ : ByteArray) ++ r ++ (⟨#[93]⟩ : ByteArray)
theorem markF_size (r : ByteArray) : (markF r).size ≤ r.size + 2 := by
  unfold markF; rw [ByteArray.size_append, ByteArray.size_append]
  show 1 + r.size + 1 ≤ _; omega
theorem mrk_size {s : ByteArray} {f : ByteArray → ByteArray} (hf : ∀ r, (f r).size ≤ r.size + 2) (p : Nat × List Int → Bool) (k : Nat) (hk : k ≤ s.size) (hs : s.size ≤ 80) : (mrk s f p k).size ≤ 10000 := by
  have h1 := ((clo_ok s k hk).1.filter p)
  have h2 := chg_size hf _ _ rfl h1
  have h3 : ((clo s k).filter p).length ≤ 82 := by
    refine Nat.le_trans (List.length_filter_le _ _) ?_
    unfold clo rstep
    have := (rTo_bd s k).1
    rw [if_neg (by decide)]
    split <;> simp <;> omega
  have h4 : (s.size + 2) * ((clo s k).filter p).length ≤ 82 * 82 := Nat.mul_le_mul (by omega) h3
  unfold mrk
  rw [ByteArray.size_append, ByteArray.size_extract]
  omega
def markM (xs : List ByteArray) (s : ByteArray) : ByteArray × Bool := if textB s = true ∧ queryB xs = true then (chgAll s markF (hitsL xs s), true) else (⟨#[]⟩, false)
theorem spec_MarkWords_no (A : Option Addr) (n c : Nat) (xs : List ByteArray) (s : ByteArray) (w : World) (h : Row strv w w.heap.size A n xs) (hn : n ≤ 1048576) (hsz : ∀ s ∈ xs, s.size ≤ maxLen) (hs : s.size ≤ maxLen) (hc : ¬ (textB s = true ∧ queryB xs = true)) :
    Calls Try.prog 28 #[.string s, .slice A n c] w fun e w' => e = .returned (.tuple #[.string ⟨#[]⟩, .bool false]) ∧ Below w.heap.size w w' := by
  cases t0 : textB s with
  | false =>
    clear hc
    go_enter Try.func28, Try.ntmps28
    go_wp2_with (go_at_call 65; refine (spec_IsText_b _ _ _ hs t0).mono ?_; rintro e w' ⟨rfl, rfl⟩)
    go_ret2
    exact ⟨rfl, Below.refl _ _⟩
  | true =>
    have q0 : queryB xs = false := by cases q : queryB xs; rfl; exact absurd ⟨t0, q⟩ hc
    clear hc
    go_enter Try.func28, Try.ntmps28
    go_wp2_with (first | (go_at_call 65; refine (spec_IsText_b _ _ _ hs t0).mono ?_; rintro e w' ⟨rfl, rfl⟩) | (go_at_call 75; refine (l08Query_b A n c xs _ _ h hn hsz q0).mono ?_; rintro e w2 ⟨rfl, hb⟩))
    go_ret2
    exact ⟨rfl, hb⟩
set_option maxHeartbeats 3200000 in
theorem spec_MarkWords_yes (A : Option Addr) (n c : Nat) (xs : List ByteArray) (s : ByteArray) (w : World) (h : Row strv w w.heap.size A n xs) (hn : n ≤ 1048576) (hsz : ∀ s ∈ xs, s.size ≤ maxLen) (hs : s.size ≤ maxLen) (ht : textB s = true) (hq : queryB xs = true) :
    Calls Try.prog 28 #[.string s, .slice A n c] w fun e w' => e = .returned (.tuple #[.string (chgAll s markF (hitsL xs s)), .bool true]) ∧ Below w.heap.size w w' := by
  have hz := textB_size ht
  have HH := Lib.hid h
  have HMS := Lib.hid (fun k (hk : k ≤ s.size) => mrk_size (s := s) markF_size (hitR xs) k hk hz)
  go_enter Try.func28, Try.ntmps28
  go_wp2_with (first | (go_at_call 65; refine (spec_IsText_b _ _ _ hs ht).mono ?_; rintro e w' ⟨rfl, rfl⟩) | (go_at_call 75; refine (l08Query_b A n c xs _ _ h hn hsz hq).mono ?_; rintro e w2 ⟨rfl, hb⟩; clear h))
  go_loopw [6, 7] (fun o i wr => ∃ k : Nat, k ≤ s.size ∧ i = .int .i64 k ∧ o = .string (mrk s markF (hitR xs) k) ∧ Hid ((rTo s k).2 = [] ∨ endOf s k = k) ∧ Below w.heap.size w wr) (fun _ i _ => s.size - (intOf i).toNat)
  case atStart => exact ⟨0, Nat.zero_le _, rfl, by rw [mrk_zero]; rfl, Lib.hid (.inl rfl), hb⟩
  case round =>
    obtain ⟨k, hk, rfl, rfl, HC, hbel⟩ := hrel
    clear hb
    have hbs := hbel.size
    have hms := HMS.out k hk
    by_cases hlt : k < s.size
    · have hE := endOf_le s k (by omega)
      have hG := endOf_ge s k
      by_cases he : endOf s k = k
      · have HN := Lib.hid (mrk_next (f := markF) (p := hitR xs) he hlt)
        have HX := Lib.hid (clo_next he).1
        have HE := Lib.hid he
        have hx1 : (s.extract k (k + 1)).size = 1 := by rw [size_extract_in s k (k + 1) (by omega)]; omega
        clear he hE hG
        generalize mrk s markF (hitR xs) k = out at *
        have hsum : out.size + (s.extract k (k + 1)).size ≤ 9223372036854775807 := by omega
        go_wp2_with (go_at_call 70; refine (l06End_any s k _ (by omega) (by omega)).mono ?_; rintro e w' ⟨he, rfl⟩; rw [HE.out] at he; subst he)
        go_roundw
        case rel => exact ⟨k + 1, by omega, by go_num, by rw [HN.out], Lib.hid (.inl HX.out), hbel⟩
        case measure => simp [intOf]; omega
      · have hge := endOf_lt he
        have hcur : (rTo s k).2 = [] := by rcases HC.out with h | h; exact h; exact absurd h he
        have HN := Lib.hid (mrk_run (f := markF) (p := hitR xs) hcur hge hlt)
        have HST := Lib.hid (clo_run hcur hge).1
        have HX := Lib.hid (lows_extract s k (endOf s k) hG hE)
        have hls : (s.extract k (endOf s k)).size = endOf s k - k := size_extract_in s k (endOf s k) hE
        generalize hee : endOf s k = e1 at *
        have HEE := Lib.hid hee
        have hne : ¬ ((e1 : Int) = (k : Int)) := by omega
        clear hee he hcur
        generalize mrk s markF (hitR xs) k = out at *
        generalize hrr : s.extract k e1 = run at *
        have HRR := Lib.hid hrr
        clear hrr
        cases hh : hasS xs (strOfNums (lows s k e1)) with
        | false =>
          have HN2 := Lib.hid (show mrk s markF (hitR xs) e1 = out ++ run by rw [HN.out, if_neg (by show ¬ hasS xs (strOfNums (lows s k e1)) = true; rw [hh]; simp)])
          have hsum : out.size + run.size ≤ 9223372036854775807 := by omega
          go_wp2_with fail
          go_at_call 70; refine (l06End_any s k _ (by omega) (by omega)).mono ?_; rintro e w' ⟨he, rfl⟩; rw [HEE.out] at he; subst he
          go_wp2_with fail
          rw [HRR.out]
          go_at_call 71; refine (l06Word_any _ _ (by omega)).mono ?_; rw [HX.out]; rintro e w2 ⟨rfl, hb2⟩
          have hbel := hbel.trans (hb2.mono hbs)
          have hbs := hbel.size
          clear hb2
          go_wp2_with fail
          go_at_call 68; refine (l06Has_any _ _ _ xs _ _ (words_to HH.out hbel) hn).mono ?_; rw [hh]; rintro e w3 ⟨rfl, rfl⟩
          clear hh
          go_wp2
          go_roundw
          case rel => exact ⟨e1, by omega, by go_num, by rw [HN2.out], Lib.hid (.inr HST.out), hbel⟩
          case measure => simp [intOf]; omega
        | true =>
          have HN2 := Lib.hid (show mrk s markF (hitR xs) e1 = out ++ markF run by rw [HN.out, if_pos (show hitR xs (k, lows s k e1) = true from hh)])
          have hs1 : (⟨#[91]⟩ : ByteArray).size + run.size ≤ 9223372036854775807 := by show 1 + run.size ≤ _; omega
          have hs2 : ((⟨#[91]⟩ : ByteArray) ++ run).size + (⟨#[93]⟩ : ByteArray).size ≤ 9223372036854775807 := by rw [ByteArray.size_append]; show 1 + run.size + 1 ≤ _; omega
          have hs3 : out.size + ((⟨#[91]⟩ : ByteArray) ++ run ++ (⟨#[93]⟩ : ByteArray)).size ≤ 9223372036854775807 := by rw [ByteArray.size_append, ByteArray.size_append]; show out.size + (1 + run.size + 1) ≤ _; omega
          go_wp2_with fail
          go_at_call 70; refine (l06End_any s k _ (by omega) (by omega)).mono ?_; rintro e w' ⟨he, rfl⟩; rw [HEE.out] at he; subst he
          go_wp2_with fail
          rw [HRR.out]
          go_at_call 71; refine (l06Word_any _ _ (by omega)).mono ?_; rw [HX.out]; rintro e w2 ⟨rfl, hb2⟩
          have hbel := hbel.trans (hb2.mono hbs)
          have hbs := hbel.size
          clear hb2
          go_wp2_with fail
          go_at_call 68; refine (l06Has_any _ _ _ xs _ _ (words_to HH.out hbel) hn).mono ?_; rw [hh]; rintro e w3 ⟨rfl, rfl⟩
          clear hh
          go_wp2
          go_roundw
          case rel => exact ⟨e1, by omega, by go_num, by rw [HN2.out]; rfl, Lib.hid (.inr HST.out), hbel⟩
          case measure => simp [intOf]; omega
    · have hke : k = s.size := by omega
      subst hke
      have HR := Lib.hid (mrk_end s markF (hitR xs))
      rw [HR.out]
      go_wp2
      go_ret2
      exact ⟨rfl, hbel⟩
end Go.Proofs.Yteeodjbionjlmaa
