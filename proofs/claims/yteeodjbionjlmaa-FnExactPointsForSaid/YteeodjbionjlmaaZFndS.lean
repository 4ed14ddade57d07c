import Derived.Test.YteeodjbionjlmaaChecked
import Derived.WalkKit
import Derived.ProofKit
import Derived.OpenShut
import Derived.ShutString
import Derived.ChangeOld
import Derived.Below
import Derived.Lib.Hide
import Derived.WalkSpells
import Derived.WalkLawsBesides
import Derived.Maps.AppendAt
import Derived.Test.YteeodjbionjlmaaZEndS
namespace Go.Proofs.Yteeodjbionjlmaa
open Go.ChangeShapes Go.WideShapes Go.ChangeAt Go.RowKit
open Go.ChangeMaps (open_string shut_string)
set_option linter.unusedVariables false
set_option maxRecDepth 100000
/-- what the runs that are among the words are, as words -/
def wordOf (x : Nat × List Int) : ByteArray := strOfNums x.2
def hitR (xs : List ByteArray) (x : Nat × List Int) : Bool := hasS xs (wordOf x)
def foundL (xs : List ByteArray) (l : List (Nat × List Int)) : List ByteArray := (l.filter (hitR xs)).map wordOf
theorem foundL_snoc (xs : List ByteArray) (l : List (Nat × List Int)) (x : Nat × List Int) : foundL xs (l ++ [x]) = foundL xs l ++ (if hitR xs x then [wordOf x] else []) := by
  unfold foundL
  rw [List.filter_append, List.map_append]
  congr 1
  by_cases h : hitR xs x = true
  · rw [List.filter_cons_of_pos h, if_pos h]; rfl
  · rw [List.filter_cons_of_neg h, if_neg h]; rfl
theorem foundL_len (xs : List ByteArray) (l : List (Nat × List Int)) : (foundL xs l).length ≤ l.length := by
  unfold foundL; rw [List.length_map]; exact List.length_filter_le _ _
theorem words_to {w wr : World} {A : Option Addr} {n : Nat} {xs : List ByteArray} (h : Row strv w w.heap.size A n xs) (hb : Below w.heap.size w wr) : Row strv wr wr.heap.size A n xs := h.to hb
set_option maxHeartbeats 1600000 in
theorem l06Found_any (A : Option Addr) (n c : Nat) (xs : List ByteArray) (s : ByteArray) (w : World) (h : Row strv w w.heap.size A n xs) (hn : n ≤ 1048576) (hs : s.size ≤ 1048576) :
    Calls Try.prog 67 #[.string s, .slice A n c] w fun e w' => ∃ a m d, e = .returned (.slice a m d) ∧ w'.ownsRow w.heap.size 9 1 (.slice a m d) m ((foundL xs (runsL s)).map strv) ∧ Below w.heap.size w w' := by
  obtain ⟨i0, hi, hz0, hz1, hz2⟩ := info_parts Try.info_str
  go_enter Try.func67, Try.ntmps67
  go_wp2
  go_loopw [5, 6] (fun v i wr => ∃ k : Nat, k ≤ s.size + 1 ∧ i = .int .i64 k ∧ Hid ((rTo s k).2 = []) ∧ wr.ownsRow w.heap.size 9 1 v (foundL xs (rTo s k).1).length ((foundL xs (rTo s k).1).map strv) ∧ Below w.heap.size w wr) (fun _ i _ => s.size + 1 - (intOf i).toNat)
  case atStart => exact ⟨0, by omega, rfl, Lib.hid rfl, World.ownsRow_made w #[] 0 (Nat.le_refl _) (by decide) rfl, (Below.refl _ _).alloc (Nat.le_refl _) _⟩
  case round =>
    obtain ⟨k, hk, rfl, HC, hown, hbel⟩ := hrel
    have hbs := hbel.size
    by_cases hlt : k < s.size
    · have hE := endOf_le s k (by omega)
      have hG := endOf_ge s k
      have hlen := Nat.le_trans (foundL_len xs (rTo s k).1) (rTo_bd s k).1
      by_cases he : endOf s k = k
      · have HS := Lib.hid (rTo_skip s k HC.out he)
        have HE := Lib.hid he
        clear he hE hG
        go_wp2_with (go_at_call 70; refine (l06End_any s k _ hs (by omega)).mono ?_; rintro e w' ⟨he, rfl⟩; rw [HE.out] at he; subst he)
        go_roundw
        case rel => exact ⟨k + 1, by omega, by go_num, Lib.hid (by rw [HS.out]; exact HC.out), by rw [HS.out]; exact hown, hbel⟩
        case measure => simp [intOf]; omega
      · have hge := endOf_lt he
        have HS := Lib.hid (rTo_run s k HC.out hge)
        have HX := Lib.hid (lows_extract s k (endOf s k) hG hE)
        have HZ := Lib.hid (size_extract_in s k (endOf s k) hE)
        have hls : (s.extract k (endOf s k)).size ≤ 1048576 := by rw [HZ.out]; omega
        have HF := Lib.hid (foundL_snoc xs (rTo s k).1 (k, lows s k (endOf s k)))
        generalize hee : endOf s k = e1 at *
        have HEE := Lib.hid hee
        have hne : ¬ ((e1 : Int) = (k : Int)) := by omega
        clear hee he
        cases hh : hasS xs (strOfNums (lows s k e1)) with
        | false =>
          have HT := Lib.hid (show foundL xs (rTo s (e1 + 1)).1 = foundL xs (rTo s k).1 by rw [HS.out, HF.out, if_neg (by unfold hitR wordOf; simp only; rw [hh]; simp)]; simp)
          go_wp2_with fail
          go_at_call 70; refine (l06End_any s k _ hs (by omega)).mono ?_; rintro e w' ⟨he, rfl⟩; rw [HEE.out] at he; subst he
          go_wp2_with fail
          go_at_call 71; refine (l06Word_any _ _ hls).mono ?_; rw [HX.out]; rintro e w2 ⟨rfl, hb2⟩
          have hown := own_below hown hb2 (Nat.le_refl _)
          have hbel := hbel.trans (hb2.mono hbs)
          have hbs := hbel.size
          clear hb2
          go_wp2_with fail
          go_at_call 68; refine (l06Has_any _ _ _ xs _ _ (words_to h hbel) hn).mono ?_; rw [hh]; rintro e w3 ⟨rfl, rfl⟩
          clear hh
          go_wp2
          go_roundw
          case rel => exact ⟨e1 + 1, by omega, by go_num, Lib.hid (by rw [HS.out]), by rw [HT.out]; exact hown, hbel⟩
          case measure => simp [intOf]; omega
        | true =>
          have HT := Lib.hid (show foundL xs (rTo s (e1 + 1)).1 = foundL xs (rTo s k).1 ++ [strOfNums (lows s k e1)] by rw [HS.out, HF.out, if_pos (by unfold hitR wordOf; exact hh)]; rfl)
          go_wp2_with fail
          go_at_call 70; refine (l06End_any s k _ hs (by omega)).mono ?_; rintro e w' ⟨he, rfl⟩; rw [HEE.out] at he; subst he
          go_wp2_with fail
          go_at_call 71; refine (l06Word_any _ _ hls).mono ?_; rw [HX.out]; rintro e w2 ⟨rfl, hb2⟩
          have hown := own_below hown hb2 (Nat.le_refl _)
          have hbel := hbel.trans (hb2.mono hbs)
          have hbs := hbel.size
          clear hb2
          go_wp2_with fail
          go_at_call 68; refine (l06Has_any _ _ _ xs _ _ (words_to h hbel) hn).mono ?_; rw [hh]; rintro e w3 ⟨rfl, rfl⟩
          clear hh
          go_wp2_with (at_builtin; refine wpList_append_own _ rfl _ _ 22 rfl w.heap.size 9 i0 (.string ByteArray.empty) 1 16 Try.underlying22 hi hz0 hz1 hz2 rfl (by decide) _ _ _ rfl (hown.alloc _) ⟨w2.heap.size, 0, none⟩ 1 1 [.string (strOfNums (lows s k e1))] rfl rfl ?q1 ?q2 ?q3 ?q4 ?q5 ?_)
          case q1 => exact cell_one_new _ _ _
          case q2 => intro u hu; simp at hu; subst hu; rfl
          case q3 => unfold maxLen; omega
          case q4 => omega
          case q5 => simp; omega
          intro v' w5 hown' hgrow _
          have hbel' : Below w.heap.size w w5 := (hbel.alloc hbs _).grown hgrow (by simp; omega) (fun g hg => (hown.lt g hg).1)
          clear hgrow hown hbel
          go_wp2
          go_roundw
          case rel => exact ⟨e1 + 1, by omega, by go_num, Lib.hid (by rw [HS.out]), by rw [HT.out, List.map_append, List.length_append]; exact hown', hbel'⟩
          case measure => simp [intOf]; omega
    · have HL := Lib.hid (rTo_last s k HC.out (by omega) hk)
      rw [HL.out] at hown
      obtain ⟨A2, m2, c2, rfl, hmm⟩ := own_shapeS hown
      rw [← hmm] at hown
      go_wp2
      go_ret
      exact ⟨A2, m2, c2, rfl, hown, hbel⟩
end Go.Proofs.Yteeodjbionjlmaa
