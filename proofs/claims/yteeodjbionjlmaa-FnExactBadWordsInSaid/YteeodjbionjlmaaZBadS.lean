import Derived.Test.YteeodjbionjlmaaChecked
import Derived.WalkKit
import Derived.ProofKit
import Derived.OpenShut
import Derived.ShutString
import Derived.ChangeOld
import Derived.Below
import Derived.Lib.Hide
import Derived.WalkSpells
import Derived.WalkLawsBesides
import Derived.Maps.AppendAt
import Derived.Scope
import Derived.Test.YteeodjbionjlmaaZBadI
import Derived.Test.YteeodjbionjlmaaZFndS
import Derived.Test.YteeodjbionjlmaaZWrdS
import Derived.Test.YteeodjbionjlmaaZSnpS
namespace Go.Proofs.Yteeodjbionjlmaa
open Go.ChangeShapes Go.WideShapes Go.ChangeAt Go.RowKit
open Go.ChangeMaps (open_string shut_string)
set_option linter.unusedVariables false
set_option maxRecDepth 100000
theorem badL_all (s : ByteArray) (xs : List ByteArray) : (badL s xs).length ≤ xs.length := List.length_filter_le _ _
theorem found_bad {s : ByteArray} {xs : List ByteArray} {z : ByteArray} (hz : z ∈ xs) : hasS (foundL xs (runsL s)) z = hasS (wordsL s) z := by
  rw [Bool.eq_iff_iff, hasS_iff, hasS_iff, wordsL_runs]
  unfold foundL
  rw [List.mem_map, List.mem_map]
  constructor
  · rintro ⟨x, hx, rfl⟩; exact ⟨x, (List.mem_filter.1 hx).1, rfl⟩
  · rintro ⟨x, hx, rfl⟩; exact ⟨x, List.mem_filter.2 ⟨hx, hasS_yes hz⟩, rfl⟩
theorem bad_pos (s : ByteArray) (xs : List ByteArray) : decide (0 < (foundL xs (runsL s)).length) = decide (0 < (badL s xs).length) := by
  have h : 0 < (foundL xs (runsL s)).length ↔ 0 < (badL s xs).length := by
    constructor
    · intro h
      obtain ⟨z, hz⟩ := List.exists_mem_of_length_pos h
      obtain ⟨x, hx, rfl⟩ := List.mem_map.1 (show z ∈ ((runsL s).filter (hitR xs)).map wordOf from hz)
      have hm : wordOf x ∈ xs := (hasS_iff _ _).1 (List.mem_filter.1 hx).2
      exact List.length_pos_of_mem (List.mem_filter.2 ⟨hm, by rw [← found_bad hm]; exact hasS_yes hz⟩)
    · intro h
      obtain ⟨z, hz⟩ := List.exists_mem_of_length_pos h
      have h2 := List.mem_filter.1 (show z ∈ xs.filter (hasS (wordsL s)) from hz)
      exact List.length_pos_of_mem ((hasS_iff _ _).1 (by rw [found_bad h2.1]; exact h2.2))
  by_cases h1 : 0 < (foundL xs (runsL s)).length
  · rw [decide_eq_true h1, decide_eq_true (h.1 h1)]
  · rw [decide_eq_false h1, decide_eq_false (fun h2 => h1 (h.2 h2))]
theorem l06Words_r (A : Option Addr) (n c : Nat) (xs : List ByteArray) (r : Bool) (w : World) (h : Row strv w w.heap.size A n xs) (hn : n ≤ 1048576) (hsz : ∀ s ∈ xs, s.size ≤ maxLen) (hr : wordsB xs = r) :
    Calls Try.prog 66 #[.slice A n c] w fun e w' => e = .returned (.bool r) ∧ Below w.heap.size w w' := by
  subst hr; exact l06Words_any A n c xs w h hn hsz
theorem impl_IsText_b (s : ByteArray) (r : Bool) (w : World) (hs : s.size ≤ maxLen) (h : textB s = r) : Calls Try.prog 62 #[.string s] w fun e w' => e = .returned (.bool r) ∧ w = w' := by
  subst h; exact impl_IsText_any s w hs
theorem impl_Words_r (A : Option Addr) (n c : Nat) (xs : List ByteArray) (r : Bool) (w : World) (h : Row strv w w.heap.size A n xs) (hn : n ≤ 1048576) (hsz : ∀ s ∈ xs, s.size ≤ maxLen) (hr : wordsB xs = r) :
    Calls Try.prog 69 #[.slice A n c] w fun e w' => e = .returned (.bool r) ∧ Below w.heap.size w w' := by
  subst hr; exact impl_AreBadWords_any A n c xs w h hn hsz
theorem spec_BadWordsIn_no (A : Option Addr) (n c : Nat) (xs : List ByteArray) (s : ByteArray) (w : World) (h : Row strv w w.heap.size A n xs) (hn : n ≤ 1048576) (hsz : ∀ s ∈ xs, s.size ≤ maxLen) (hs : s.size ≤ maxLen) (hc : ¬ (textB s = true ∧ wordsB xs = true)) :
    Calls Try.prog 24 #[.string s, .slice A n c] w fun e w' => e = .returned (.tuple #[.slice none 0 0, .bool false]) ∧ Below w.heap.size w w' := by
  cases t0 : textB s with
  | false =>
    clear hc
    go_enter Try.func24, Try.ntmps24
    go_wp2_with (go_at_call 65; refine (spec_IsText_b _ _ _ hs t0).mono ?_; rintro e w' ⟨rfl, rfl⟩)
    go_ret2
    exact ⟨rfl, Below.refl _ _⟩
  | true =>
    have q0 : wordsB xs = false := by cases q : wordsB xs; rfl; exact absurd ⟨t0, q⟩ hc
    clear hc
    go_enter Try.func24, Try.ntmps24
    go_wp2_with (first | (go_at_call 65; refine (spec_IsText_b _ _ _ hs t0).mono ?_; rintro e w' ⟨rfl, rfl⟩) | (go_at_call 66; refine (l06Words_r A n c xs _ _ h hn hsz q0).mono ?_; rintro e w2 ⟨rfl, hb⟩))
    go_ret2
    exact ⟨rfl, hb⟩
theorem impl_BadWordsIn_no (A : Option Addr) (n c : Nat) (xs : List ByteArray) (s : ByteArray) (w : World) (h : Row strv w w.heap.size A n xs) (hn : n ≤ 1048576) (hsz : ∀ s ∈ xs, s.size ≤ maxLen) (hs : s.size ≤ maxLen) (hc : ¬ (textB s = true ∧ wordsB xs = true)) :
    Calls Try.prog 25 #[.string s, .slice A n c] w fun e w' => e = .returned (.tuple #[.slice none 0 0, .bool false]) ∧ Below w.heap.size w w' := by
  cases t0 : textB s with
  | false =>
    clear hc
    go_enter Try.func25, Try.ntmps25
    go_wp2
    refine wp_scope_straight ?_
    go_wp2_with (go_at_call 62; refine (impl_IsText_b _ _ _ hs t0).mono ?_; rintro e w' ⟨rfl, rfl⟩)
    simp only [Exit.noGoto]
    go_ret2
    exact ⟨rfl, Below.refl _ _⟩
  | true =>
    have q0 : wordsB xs = false := by cases q : wordsB xs; rfl; exact absurd ⟨t0, q⟩ hc
    clear hc
    go_enter Try.func25, Try.ntmps25
    go_wp2
    refine wp_scope_straight ?_
    go_wp2_with (first | (go_at_call 62; refine (impl_IsText_b _ _ _ hs t0).mono ?_; rintro e w' ⟨rfl, rfl⟩) | (go_at_call 69; refine (impl_Words_r A n c xs _ _ h hn hsz q0).mono ?_; rintro e w2 ⟨rfl, hb⟩))
    simp only [Exit.noGoto]
    go_ret2
    exact ⟨rfl, hb⟩
set_option maxHeartbeats 3200000 in
theorem spec_BadWordsIn_yes (A : Option Addr) (n c : Nat) (xs : List ByteArray) (s : ByteArray) (w : World) (h : Row strv w w.heap.size A n xs) (hn : n ≤ 1048576) (hsz : ∀ s ∈ xs, s.size ≤ maxLen) (hs : s.size ≤ maxLen) (hc : textB s = true ∧ wordsB xs = true) :
    Calls Try.prog 24 #[.string s, .slice A n c] w fun e w' => WYes w (badL s xs) e w' := by
  obtain ⟨t0, q0⟩ := hc
  have hz := textB_size t0
  have HL := Lib.hid h.1
  obtain ⟨i0, hi, hz0, hz1, hz2⟩ := info_parts Try.info_str
  have hfl : (foundL xs (runsL s)).length ≤ 1048576 := by have := foundL_len xs (runsL s); have := runsL_len s; omega
  have HFB := Lib.hid (fun z (hz : z ∈ xs) => found_bad (s := s) hz)
  generalize hff : foundL xs (runsL s) = fs at *
  have HFF := Lib.hid hff
  clear hff
  go_enter Try.func24, Try.ntmps24
  go_wp2_with (first | (go_at_call 65; refine (spec_IsText_b _ _ _ hs t0).mono ?_; rintro e w' ⟨rfl, rfl⟩) | (go_at_call 66; refine (l06Words_r A n c xs _ _ h hn hsz q0).mono ?_; rintro e w2 ⟨rfl, hb⟩))
  have h2 := h.to hb
  go_wp2_with fail
  go_at_call 67; refine (l06Found_any A n c xs s _ h2 hn (by omega)).mono ?_; rintro e w3 ⟨Af, mf, cf, rfl, hof, hbn⟩
  rw [HFF.out] at hof
  have hmf : mf = fs.length := by simpa using hof.1.symm
  subst hmf
  have hbs := hb.size
  have hb3 := hb.trans (hbn.mono hbs)
  clear hb hbn h2
  go_wp2
  go_loopw [7, 8] (fun v i wr => ∃ k : Nat, k ≤ n ∧ i = .int .i64 k ∧ wr.ownsRow w3.heap.size 9 1 v (badL s (xs.take k)).length ((badL s (xs.take k)).map strv) ∧ Below w3.heap.size w3 wr) (fun _ i _ => n - (intOf i).toNat)
  case atStart => exact ⟨0, Nat.zero_le _, rfl, World.ownsRow_made w3 #[] 0 (Nat.le_refl _) (by decide) rfl, (Below.refl _ _).alloc (Nat.le_refl _) _⟩
  case round =>
    obtain ⟨k, hk, rfl, hown, hbel⟩ := hrel
    have hbs3 := hbel.size
    have hbs4 := hb3.size
    have hbl := badL_len s xs k
    by_cases hlt : k < n
    · obtain ⟨b, off, z, rfl, hb, hzz, c0⟩ := h.at_ hlt
      have HZ := Lib.hid hzz
      have d0 := (hbel.cell (p := ⟨b, off + k, none⟩) (by show b < _; omega)).trans ((hb3.cell (p := ⟨b, off + k, none⟩) hb).trans c0)
      have HFZ := Lib.hid (HFB.out z (List.mem_of_getElem? hzz))
      have HST := Lib.hid (badL_step (s := s) hzz)
      have HRF := Lib.hid ((Row.of_own_any hof).to hbel)
      clear hzz c0
      cases hh : hasS (wordsL s) z with
      | false =>
        have HS2 := Lib.hid (show badL s (xs.take (k + 1)) = badL s (xs.take k) by rw [HST.out, hh]; simp)
        go_wp2_with fail
        go_at_call 68; refine (l06Has_any _ _ _ fs _ _ HRF.out hfl).mono ?_; rw [HFZ.out, hh]; rintro e w5 ⟨rfl, rfl⟩
        clear hh
        go_wp2
        go_roundw
        case rel => exact ⟨k + 1, by omega, by go_num, by rw [HS2.out]; exact hown, hbel⟩
        case measure => simp [intOf]; omega
      | true =>
        have HS2 := Lib.hid (show badL s (xs.take (k + 1)) = badL s (xs.take k) ++ [z] by rw [HST.out, hh]; simp)
        go_wp2_with fail
        go_at_call 68; refine (l06Has_any _ _ _ fs _ _ HRF.out hfl).mono ?_; rw [HFZ.out, hh]; rintro e w5 ⟨rfl, rfl⟩
        clear hh
        go_wp2_with (at_builtin; refine wpList_append_own _ rfl _ _ 22 rfl w3.heap.size 9 i0 (.string ByteArray.empty) 1 16 Try.underlying22 hi hz0 hz1 hz2 rfl (by decide) _ _ _ rfl (hown.alloc _) ⟨wr.heap.size, 0, none⟩ 1 1 [.string z] rfl rfl ?q1 ?q2 ?q3 ?q4 ?q5 ?_)
        case q1 => exact cell_one_new _ _ _
        case q2 => intro u hu; simp at hu; subst hu; rfl
        case q3 => unfold maxLen; omega
        case q4 => omega
        case q5 => simp; omega
        intro v' w5 hown' hgrow _
        have hbel' : Below w3.heap.size w3 w5 := (hbel.alloc hbs3 _).grown hgrow (by simp; omega) (fun g hg => (hown.lt g hg).1)
        clear hgrow hown hbel
        go_wp2
        go_roundw
        case rel => exact ⟨k + 1, by omega, by go_num, by rw [HS2.out, List.map_append, List.length_append]; exact hown', hbel'⟩
        case measure => simp [intOf]; omega
    · have hke : k = n := by omega
      have HT2 := Lib.hid (show xs.take k = xs by rw [hke, ← HL.out, List.take_length])
      rw [HT2.out] at hown
      have hown := own_weaken hown hbs4
      obtain ⟨A2, m2, c2, rfl, hmm⟩ := own_shapeS hown
      subst hmm
      go_wp2
      go_ret2
      exact ⟨A2, _, c2, rfl, hown, hb3.trans (hbel.mono hbs4)⟩
end Go.Proofs.Yteeodjbionjlmaa
