import Derived.Test.YtbamhnbmddopgaaDoorChecked
import Derived.WalkKit
import Derived.ProofKit
import Derived.OpenShut
import Derived.ShutString
import Derived.ChangeOld
import Derived.Below
import Derived.Lib.Hide
import Derived.Test.YtbamhnbmddopgaaDoorValS
import Derived.Test.YtbamhnbmddopgaaDoorJoinS
import Derived.Test.YtbamhnbmddopgaaDoorMentQ
import Derived.Test.YtbamhnbmddopgaaDoorIsTextC
namespace Go.Proofs.YtbamhnbmddopgaaDoor
open Go.ChangeShapes Go.WideShapes Go.ChangeAt Go.RowKit
open Go.ChangeMaps (open_string shut_string)
set_option linter.unusedVariables false
set_option maxRecDepth 100000
theorem digC_iff (b : UInt8) : digC b = true ↔ 48 ≤ b.toNat ∧ b.toNat ≤ 57 := by
  simp [digC, UInt8.le_iff_toNat_le]
theorem l01Digit_b (b : UInt8) (v : Bool) (h : digC b = v) (w : World) : Calls Tryd.prog 41 #[.int .u8 b.toNat] w fun e w' => e = .returned (.bool v) ∧ w = w' := by
  have hb := b.toNat_lt
  cases v with
  | true =>
    obtain ⟨h1, h2⟩ := (digC_iff b).1 h
    clear h
    go_enter Tryd.func41, Tryd.ntmps41
    go_wp2
    go_ret
    exact ⟨by first | rfl | (simp; omega), rfl⟩
  | false =>
    have hn : ¬ (48 ≤ b.toNat ∧ b.toNat ≤ 57) := fun hc => by rw [(digC_iff b).2 hc] at h; cases h
    clear h
    rcases (show b.toNat < 48 ∨ 57 < b.toNat by omega) with h1 | h1
    all_goals
      clear hn
      go_enter Tryd.func41, Tryd.ntmps41
      go_wp2
      go_ret
      exact ⟨by first | rfl | (simp; omega), rfl⟩
theorem l01Member_b (n : Int) (v : Bool) (h : decide (1 ≤ n ∧ n ≤ 1000) = v) (w : World) : Calls Tryd.prog 43 #[.int .i64 n] w fun e w' => e = .returned (.bool v) ∧ w = w' := by
  cases v with
  | true =>
    obtain ⟨h1, h2⟩ := of_decide_eq_true h
    clear h
    go_enter Tryd.func43, Tryd.ntmps43
    go_wp2
    go_ret
    exact ⟨by first | rfl | (simp; omega), rfl⟩
  | false =>
    have hn := of_decide_eq_false h
    clear h
    rcases (show n < 1 ∨ 1000 < n by omega) with h1 | h1
    all_goals
      clear hn
      go_enter Tryd.func43, Tryd.ntmps43
      go_wp2
      go_ret
      exact ⟨by first | rfl | (simp; omega), rfl⟩
theorem own_down {w : World} {b b' e size n : Nat} {v : Value} {xs : List Value} (h : w.ownsRow b e size v n xs) (hb : b' ≤ b) : w.ownsRow b' e size v n xs := by
  refine ⟨h.1, ?_⟩
  rcases h.2 with h | ⟨g, cap, cur, hv, hg, r⟩
  · exact .inl h
  · exact .inr ⟨g, cap, cur, hv, Nat.le_trans hb hg, r⟩
theorem at_byte (s : ByteArray) (i : Nat) (h : i < s.size) : (tl s)[i]? = some s[i] := by
  unfold tl
  rw [List.getElem?_eq_getElem (by simpa using h)]
  simp [ByteArray.getElem_eq_getElem_data]
set_option maxHeartbeats 3200000 in
theorem l01Mentions_any (s : ByteArray) (w : World) (hs : s.size ≤ 1048576) :
    Calls Tryd.prog 18 #[.string s] w fun e w' => OneRow w (foldP (mentsL (tl s)) []) e w' := by
  obtain ⟨F, hF⟩ : ∃ F, foldP (mentsL (tl s)) [] = F := ⟨_, rfl⟩
  rw [hF]
  have HF := Lib.hid hF
  clear hF
  have HL := Lib.hid (show (tl s).length = s.size by simp [tl])
  have HX := Lib.hid (tl_extract s)
  have HA := Lib.hid (at_byte s)
  go_enter Tryd.func18, Tryd.ntmps18
  go_wp2
  go_loopw [3, 4] (fun v i wr => ∃ (k : Nat) (os : List Int), k ≤ s.size ∧ i = .int .i64 k ∧ os.length ≤ k ∧ wr.ownsRow w.heap.size 2 1 v os.length (os.map i64v) ∧ foldP (mentsL ((tl s).drop k)) os = F ∧ Below w.heap.size w wr) (fun _ i _ => s.size - (intOf i).toNat)
  case atStart => exact ⟨0, [], by omega, rfl, by simp, World.ownsRow_made w #[] 0 (Nat.le_refl _) (by decide) rfl, by rw [List.drop_zero]; exact HF.out, (Below.refl _ _).alloc (Nat.le_refl _) _⟩
  case round =>
    obtain ⟨k, os, hk, rfl, hol, hown, hfo, hbel⟩ := hrel
    have hbs := hbel.size
    have HO := Lib.hid hfo
    clear hfo
    by_cases hkn : k < s.size
    · have hab := HA.out k hkn
      have hb256 : s[k].toNat < 256 := s[k].toNat_lt
      by_cases h64 : s[k].toNat = 64
      · have hb : s[k] = 64 := UInt8.toNat_inj.1 (by rw [h64]; rfl)
        rw [hb] at hab
        have HB := Lib.hid hab
        have hto1 : k + 1 ≤ toOf (tl s) k := by unfold toOf; omega
        have hto2 : toOf (tl s) k ≤ s.size := by have := toOf_le (l := tl s) (i := k) (by have := HL.out; omega); have := HL.out; omega
        obtain ⟨T, hT⟩ : ∃ T, toOf (tl s) k = T := ⟨_, rfl⟩
        have HT := Lib.hid hT
        rw [hT] at hto1 hto2
        clear hT hab hb
        go_wp2
        go_loopw [5] (fun t w2 => ∃ j : Nat, k + 1 ≤ j ∧ j ≤ T ∧ t = .int .i64 j ∧ w2 = wr) (fun t _ => T - (intOf t).toNat)
        case atStart => exact ⟨k + 1, by omega, hto1, by go_num, rfl⟩
        case round =>
          obtain ⟨j, hj1, hj2, rfl, rfl⟩ := hrel
          by_cases hjT : j < T
          · have hjs : j < s.size := by omega
            have hd : digC s[j] = true := by
              obtain ⟨b, h1, h2⟩ := to_digit (l := tl s) (i := k) hj1 (by rw [HT.out]; exact hjT)
              rw [HA.out j hjs] at h1
              injection h1 with h1
              rw [h1]; exact h2
            go_wp2_with (go_at_call 41; refine (l01Digit_b _ _ hd _).mono ?_; rintro e w' ⟨rfl, rfl⟩)
            go_roundw
            case rel => exact ⟨j + 1, by omega, by omega, by go_num, by first | rfl | trivial⟩
            case measure => simp [intOf]; omega
          · have hje : j = T := by omega
            subst hje
            have hsz : (s.extract (k + 1) j).size = j - (k + 1) := by simp [ByteArray.size_extract]; omega
            have htl : tl (s.extract (k + 1) j) = behindL (tl s) k := by have := HX.out k hkn; rw [HT.out] at this; exact this
            have hstop : ∀ h : j < s.size, digC s[j] = false := fun h => by
              refine to_stop (l := tl s) (i := k) ?_
              rw [HT.out]; exact HA.out j h
            have hex : (⟨(behindL (tl s) k).toArray⟩ : ByteArray) = s.extract (k + 1) j := tl_inj (by rw [htl]; simp [tl])
            obtain ⟨S9, hS9⟩ : ∃ S9, s.extract (k + 1) j = S9 := ⟨_, rfl⟩
            have HS9 := Lib.hid hS9
            rw [hS9] at hex hsz
            clear htl hS9
            have i1 : (0 : Int) ≤ ((k : Int) + 1) := by omega
            have i2 : ((k : Int) + 1) ≤ (j : Int) := by omega
            have i3 : (j : Int) ≤ (s.size : Int) := by omega
            cases hm : mentOf (behindL (tl s) k) with
            | some n =>
              obtain ⟨hn1, hn2, hn3⟩ := mentOf_some hm
              rw [hex] at hn3
              have HN := Lib.hid (ments_some HB.out hm)
              have hmb : decide (1 ≤ n ∧ n ≤ 1000) = true := decide_eq_true ⟨hn1, hn2⟩
              have cV := l01Value_yes n S9 (by omega) (by omega) hn3
              obtain ⟨A2, m2, c2, rfl, hmm⟩ := own_shapeS hown
              subst hmm
              by_cases hjs : j < s.size
              · have hd := hstop hjs
                clear hstop hm hex
                go_wp2_with (first | (go_at_call 41; refine (l01Digit_b _ _ hd _).mono ?_; rintro e w' ⟨rfl, rfl⟩) | fail)
                rw [HS9.out]
                go_at_call 42; refine (cV _).mono ?_; rintro e w3 ⟨rfl, hbv⟩
                have hown3 := own_below hown hbv (Nat.le_refl _)
                have hbel3 := hbel.trans (hbv.mono hbs)
                have hbs3 := hbel3.size
                clear hown hbel hbv
                go_wp2_with (go_at_call 43; refine (l01Member_b _ _ hmb _).mono ?_; rintro e w' ⟨rfl, rfl⟩)
                go_at_call 44; refine (l00Put_any A2 os.length c2 os n _ (Row.of_own_any hown3) (by omega)).mono ?_; rintro e w4 ⟨A3, m3, c3, rfl, ho4, hb4⟩
                have hbel4 := hbel3.trans (hb4.mono hbs3)
                have hpl := putL_len n os
                have hm3 : m3 = (putL n os).length := by simpa using ho4.1.symm
                go_wp2
                go_roundw
                case rel => exact ⟨k + 1, putL n os, by omega, by go_num, by omega, own_down (by rw [← hm3]; exact ho4) hbs3, by rw [← foldP_cons, ← HN.out]; exact HO.out, hbel4⟩
                case measure => simp [intOf]; omega
              · clear hstop hm hex
                go_wp2_with fail
                rw [HS9.out]
                go_at_call 42; refine (cV _).mono ?_; rintro e w3 ⟨rfl, hbv⟩
                have hown3 := own_below hown hbv (Nat.le_refl _)
                have hbel3 := hbel.trans (hbv.mono hbs)
                have hbs3 := hbel3.size
                clear hown hbel hbv
                go_wp2_with (go_at_call 43; refine (l01Member_b _ _ hmb _).mono ?_; rintro e w' ⟨rfl, rfl⟩)
                go_at_call 44; refine (l00Put_any A2 os.length c2 os n _ (Row.of_own_any hown3) (by omega)).mono ?_; rintro e w4 ⟨A3, m3, c3, rfl, ho4, hb4⟩
                have hbel4 := hbel3.trans (hb4.mono hbs3)
                have hpl := putL_len n os
                have hm3 : m3 = (putL n os).length := by simpa using ho4.1.symm
                go_wp2
                go_roundw
                case rel => exact ⟨k + 1, putL n os, by omega, by go_num, by omega, own_down (by rw [← hm3]; exact ho4) hbs3, by rw [← foldP_cons, ← HN.out]; exact HO.out, hbel4⟩
                case measure => simp [intOf]; omega
            | none =>
              have HN := Lib.hid (ments_none HB.out hm)
              by_cases hI : ∃ n : Int, -1000000000 ≤ n ∧ n ≤ 1000000000 ∧ strOfNums (decL n) = S9
              · obtain ⟨n, hn0, hn1, hn2⟩ := hI
                have hmb : decide (1 ≤ n ∧ n ≤ 1000) = false := decide_eq_false fun hc => by rw [mentOf_of hc.1 hc.2 (by rw [hex]; exact hn2)] at hm; cases hm
                have cV := l01Value_yes n S9 hn0 hn1 hn2
                by_cases hjs : j < s.size
                · have hd := hstop hjs
                  clear hstop hm hex
                  go_wp2_with (first | (go_at_call 41; refine (l01Digit_b _ _ hd _).mono ?_; rintro e w' ⟨rfl, rfl⟩) | fail)
                  rw [HS9.out]
                  go_at_call 42; refine (cV _).mono ?_; rintro e w3 ⟨rfl, hbv⟩
                  have hown3 := own_below hown hbv (Nat.le_refl _)
                  have hbel3 := hbel.trans (hbv.mono hbs)
                  clear hown hbel hbv
                  go_wp2_with (go_at_call 43; refine (l01Member_b _ _ hmb _).mono ?_; rintro e w' ⟨rfl, rfl⟩)
                  go_roundw
                  case rel => exact ⟨k + 1, os, by omega, by go_num, by omega, hown3, by rw [← HN.out]; exact HO.out, hbel3⟩
                  case measure => simp [intOf]; omega
                · clear hstop hm hex
                  go_wp2_with fail
                  rw [HS9.out]
                  go_at_call 42; refine (cV _).mono ?_; rintro e w3 ⟨rfl, hbv⟩
                  have hown3 := own_below hown hbv (Nat.le_refl _)
                  have hbel3 := hbel.trans (hbv.mono hbs)
                  clear hown hbel hbv
                  go_wp2_with (go_at_call 43; refine (l01Member_b _ _ hmb _).mono ?_; rintro e w' ⟨rfl, rfl⟩)
                  go_roundw
                  case rel => exact ⟨k + 1, os, by omega, by go_num, by omega, hown3, by rw [← HN.out]; exact HO.out, hbel3⟩
                  case measure => simp [intOf]; omega
              · have cV := l01Value_no S9 (by unfold maxLen; omega) (fun n h0 h1 h2 => hI ⟨n, h0, h1, h2⟩)
                by_cases hjs : j < s.size
                · have hd := hstop hjs
                  clear hstop hm hex hI
                  go_wp2_with (first | (go_at_call 41; refine (l01Digit_b _ _ hd _).mono ?_; rintro e w' ⟨rfl, rfl⟩) | fail)
                  rw [HS9.out]
                  go_at_call 42; refine (cV _).mono ?_; rintro e w3 ⟨rfl, hbv⟩
                  have hown3 := own_below hown hbv (Nat.le_refl _)
                  have hbel3 := hbel.trans (hbv.mono hbs)
                  clear hown hbel hbv
                  go_wp2
                  go_roundw
                  case rel => exact ⟨k + 1, os, by omega, by go_num, by omega, hown3, by rw [← HN.out]; exact HO.out, hbel3⟩
                  case measure => simp [intOf]; omega
                · clear hstop hm hex hI
                  go_wp2_with fail
                  rw [HS9.out]
                  go_at_call 42; refine (cV _).mono ?_; rintro e w3 ⟨rfl, hbv⟩
                  have hown3 := own_below hown hbv (Nat.le_refl _)
                  have hbel3 := hbel.trans (hbv.mono hbs)
                  clear hown hbel hbv
                  go_wp2
                  go_roundw
                  case rel => exact ⟨k + 1, os, by omega, by go_num, by omega, hown3, by rw [← HN.out]; exact HO.out, hbel3⟩
                  case measure => simp [intOf]; omega
      · have hb : s[k] ≠ 64 := fun e => h64 (by rw [e]; rfl)
        have HN := Lib.hid (ments_other hab hb)
        have hne : ((s[k].toNat : Int) != 64) = true := by simp; omega
        clear hab hb
        go_wp2
        go_roundw
        case rel => exact ⟨k + 1, os, by omega, by go_num, by omega, hown, by rw [← HN.out]; exact HO.out, hbel⟩
        case measure => simp [intOf]; omega
    · have hke : k = s.size := by omega
      subst hke
      have hfin : os = F := by have := HO.out; rw [ments_end (by rw [HL.out]; omega)] at this; exact this
      subst hfin
      go_wp2
      go_ret
      obtain ⟨A2, m2, c2, rfl, hmm⟩ := own_shapeS hown
      rw [← hmm] at hown
      exact ⟨A2, m2, c2, rfl, hown, hbel⟩
end Go.Proofs.YtbamhnbmddopgaaDoor
