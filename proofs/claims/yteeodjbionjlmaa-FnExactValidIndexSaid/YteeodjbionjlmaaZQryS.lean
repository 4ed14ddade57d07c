import Derived.Test.YteeodjbionjlmaaChecked
import Derived.WalkKit
import Derived.ProofKit
import Derived.OpenShut
import Derived.ShutString
import Derived.ChangeOld
import Derived.Below
import Derived.Lib.Hide
import Derived.WalkSpells
import Derived.WalkLawsBesides
import Derived.Deep.QuietTactic
import Derived.BigQuiet
import Derived.Test.YteeodjbionjlmaaZQryP
import Derived.Test.YteeodjbionjlmaaZEndS
import Derived.Test.YteeodjbionjlmaaZCalmQ
namespace Go.Proofs.Yteeodjbionjlmaa
open Go.ChangeShapes Go.WideShapes Go.ChangeAt Go.RowKit
open Go.ChangeMaps (open_string shut_string)
set_option linter.unusedVariables false
set_option maxRecDepth 100000
theorem l06Low_b (b r : Int) (w : World) (h0 : 0 ≤ b) (h1 : b < 256) (h : lowC b = r) : Calls Try.prog 125 #[.int .u8 b] w fun e w' => e = .returned (.int .u8 r) ∧ w = w' := by
  subst h; exact l06Low_any b w h0 h1
set_option maxHeartbeats 3200000 in
theorem l08Word_any (s : ByteArray) (w : World) (hs : s.size ≤ maxLen) :
    Calls Try.prog 98 #[.string s] w fun e w' => e = .returned (.bool (qwB s)) ∧ Below w.heap.size w w' := by
  unfold maxLen at hs
  by_cases h1 : 1 ≤ s.size
  · by_cases h2 : s.size ≤ 80
    · go_enter Try.func98, Try.ntmps98
      go_wp2
      go_loopw [3] (fun i wr => ∃ k : Nat, k ≤ s.size ∧ i = .int .i64 k ∧ Hid (AllTo wdC s k) ∧ Below w.heap.size w wr) (fun i _ => s.size - (intOf i).toNat)
      case atStart => exact ⟨0, Nat.zero_le _, rfl, Lib.hid (AllTo.zero _ _), Below.refl _ _⟩
      case round =>
        obtain ⟨k, hk, rfl, HA, hbel⟩ := hrel
        have hbs := hbel.size
        by_cases hlt : k < s.size
        · have hc : s[k].toNat < 256 := s[k].toNat_lt
          cases hw : wdC s[k] with
          | true =>
            obtain ⟨e1, e2⟩ := wdC_low hw
            have HS := Lib.hid (HA.out.succ hlt hw)
            have e0 : ((s[k].toNat : Int) == 0) = false := by simpa using e2
            clear hw
            go_wp2
            refine wp_region_calm (w0 := wr) (by kernel_rfl) (by kernel_rfl) (Below.refl _ _).drew ?_
            repeat (go_big_quiet_step (((go_at_call 125; exact calm_same (l06Low_b _ _ _ (by omega) (by omega) e1)))))
            refine wpQuiet_nil ?_
            intro _ hw'
            obtain ⟨s7, hw''⟩ := hw'
            subst hw''
            have hb7 := hbel.trans (s7.hb.mono hbs)
            go_wp2
            go_roundw
            case rel => exact ⟨k + 1, by omega, by go_num, HS, hb7⟩
            case measure => simp [intOf]; omega
          | false =>
            have hbad := wdC_bad hw
            have HB := Lib.hid (qwB_bad hlt hw)
            clear hw
            by_cases hz : (s[k].toNat : Int) = 0
            · clear hbad
              go_wp2
              refine wp_region_calm (w0 := wr) (by kernel_rfl) (by kernel_rfl) (Below.refl _ _).drew ?_
              repeat (go_big_quiet_step (((go_at_call 125; exact calm_same (l06Low_any _ _ (by omega) (by omega))))))
              refine wpQuiet_nil ?_
              intro _ hw'
              obtain ⟨s7, hw''⟩ := hw'
              subst hw''
              have hb7 := hbel.trans (s7.hb.mono hbs)
              go_wp2
              go_ret
              exact ⟨ret_bool HB.out.symm, hb7⟩
            · have hne : ¬ (lowC (s[k].toNat : Int) = (s[k].toNat : Int)) := by rcases hbad with h | h; exact absurd h hz; exact h
              clear hbad
              obtain ⟨r, hr⟩ : ∃ r, lowC (s[k].toNat : Int) = r := ⟨_, rfl⟩
              rw [hr] at hne
              have e0 : ((s[k].toNat : Int) == 0) = false := by simpa using hz
              have e1 : (r != (s[k].toNat : Int)) = true := by simpa using hne
              go_wp2
              refine wp_region_calm (w0 := wr) (by kernel_rfl) (by kernel_rfl) (Below.refl _ _).drew ?_
              repeat (go_big_quiet_step (((go_at_call 125; exact calm_same (l06Low_b _ _ _ (by omega) (by omega) hr)))))
              refine wpQuiet_nil ?_
              intro _ hw'
              obtain ⟨s7, hw''⟩ := hw'
              subst hw''
              have hb7 := hbel.trans (s7.hb.mono hbs)
              go_wp2
              go_ret
              exact ⟨ret_bool HB.out.symm, hb7⟩
        · have HE := Lib.hid (qwB_in HA.out (by omega) ⟨h1, h2⟩)
          go_wp2
          go_ret
          exact ⟨ret_bool HE.out.symm, hbel⟩
    · have HB := Lib.hid (qwB_out (s := s) (by omega))
      go_enter Try.func98, Try.ntmps98
      go_wp2
      go_ret
      exact ⟨ret_bool HB.out.symm, Below.refl _ _⟩
  · have HB := Lib.hid (qwB_out (s := s) (by omega))
    go_enter Try.func98, Try.ntmps98
    go_wp2
    go_ret
    exact ⟨ret_bool HB.out.symm, Below.refl _ _⟩
theorem l08Word_b (s : ByteArray) (r : Bool) (w : World) (hs : s.size ≤ maxLen) (h : qwB s = r) : Calls Try.prog 98 #[.string s] w fun e w' => e = .returned (.bool r) ∧ Below w.heap.size w w' := by
  subst h; exact l08Word_any s w hs
set_option maxHeartbeats 1600000 in
theorem l08Query_any (A : Option Addr) (n c : Nat) (xs : List ByteArray) (w : World) (h : Row strv w w.heap.size A n xs) (hn : n ≤ 1048576) (hsz : ∀ s ∈ xs, s.size ≤ maxLen) :
    Calls Try.prog 75 #[.slice A n c] w fun e w' => e = .returned (.bool (queryB xs)) ∧ Below w.heap.size w w' := by
  have HL := Lib.hid h.1
  by_cases hl : 1 ≤ n ∧ n ≤ 8
  · have HM := Lib.hid hl
    obtain ⟨hl1, hl2⟩ := hl
    go_enter Try.func75, Try.ntmps75
    go_wp2
    go_loopw [3] (fun i wr => ∃ k : Nat, k ≤ n ∧ i = .int .i64 k ∧ Hid ((xs.take k).all qwB = true) ∧ Below w.heap.size w wr) (fun i _ => n - (intOf i).toNat)
    case atStart => exact ⟨0, by omega, rfl, Lib.hid rfl, Below.refl _ _⟩
    case round =>
      obtain ⟨k, hk, rfl, HCH, hbel⟩ := hrel
      have hbs := hbel.size
      by_cases hlt : k < n
      · obtain ⟨b, off, z, rfl, hb, hz, c0⟩ := h.at_ hlt
        have HZ := Lib.hid hz; clear hz
        have hs := hsz z (List.mem_of_getElem? HZ.out)
        have d0 := (hbel.cell (p := ⟨b, off + k, none⟩) hb).trans c0
        clear c0
        have HH := Lib.hid h; clear h
        cases t0 : qwB z with
        | false =>
          have HF := Lib.hid (show queryB xs = false by
            rw [queryB_eq, show xs.all qwB = false from List.all_eq_false.2 ⟨z, List.mem_of_getElem? HZ.out, by rw [t0]; simp⟩, Bool.and_false])
          go_wp2_with fail
          go_at_call 98; refine (l08Word_b _ _ _ hs t0).mono ?_; rintro e w2 ⟨rfl, hb2⟩
          have hb2 := hbel.trans (hb2.mono hbs)
          clear hbel
          go_wp2
          go_ret
          exact ⟨ret_bool HF.out.symm, hb2⟩
        | true =>
          have HST := Lib.hid (show (xs.take (k + 1)).all qwB = true by rw [takeX HZ.out, List.all_append, HCH.out]; simp [t0])
          go_wp2_with fail
          go_at_call 98; refine (l08Word_b _ _ _ hs t0).mono ?_; rintro e w2 ⟨rfl, hb2⟩
          have hb2 := hbel.trans (hb2.mono hbs)
          clear hbel
          go_wp2
          go_roundw
          case rel => exact ⟨k + 1, by omega, by go_num, HST, hb2⟩
          case measure => simp [intOf]; omega
      · have HE := Lib.hid (show queryB xs = true by
          rw [queryB_eq, HL.out, decide_eq_true HM.out, Bool.true_and]
          have := HCH.out
          rwa [List.take_of_length_le (by have := HL.out; omega)] at this)
        go_wp2
        go_ret
        exact ⟨ret_bool HE.out.symm, hbel⟩
  · have HE := Lib.hid (show queryB xs = false by rw [queryB_eq, HL.out, decide_eq_false hl, Bool.false_and])
    rcases (show n < 1 ∨ (1 ≤ n ∧ 8 < n) by omega) with h1 | ⟨h1, h2⟩
    all_goals
      clear hl
      go_enter Try.func75, Try.ntmps75
      go_wp2
      go_ret
      exact ⟨ret_bool HE.out.symm, Below.refl _ _⟩
end Go.Proofs.Yteeodjbionjlmaa
