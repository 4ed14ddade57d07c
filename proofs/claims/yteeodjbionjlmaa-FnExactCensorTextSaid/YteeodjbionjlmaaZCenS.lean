import Derived.Test.YteeodjbionjlmaaChecked
import Derived.WalkKit
import Derived.ProofKit
import Derived.OpenShut
import Derived.ShutString
import Derived.ChangeOld
import Derived.Below
import Derived.Lib.Hide
import Derived.WalkSpells
import Derived.WalkLawsBesides
import Derived.Lib.ConvBytes
import Derived.Test.YteeodjbionjlmaaJyi
import Derived.Test.YteeodjbionjlmaaZCenC
import Derived.Test.YteeodjbionjlmaaJyg
import Derived.Test.YteeodjbionjlmaaZFndS
namespace Go.Proofs.Yteeodjbionjlmaa
open Go.ChangeShapes Go.WideShapes Go.ChangeAt Go.RowKit
open Go.ChangeMaps (open_string shut_string)
set_option linter.unusedVariables false
set_option maxRecDepth 100000
/-- block g holds the bytes of b, and more behind them, as a conversion has laid them -/
def CenRow (g N : Nat) (pad : List Int) (X : World) (b : ByteArray) : Prop := X.heap[g]? = some (.cells ((nums b ++ pad).map (Value.int .u8)).toArray 5 (N, N + 1)) ∧ N = b.size + pad.length
theorem CenRow.cell {g N : Nat} {pad : List Int} {X : World} {b : ByteArray} (h : CenRow g N pad X b) (i : Nat) (hi : i < b.size) : X.cell? ⟨g, i, none⟩ = some (.int .u8 ((nums b).getD i 0)) := by
  have hl := nums_len b
  simp only [World.cell?, h.1]
  simp [List.getElem?_append, hl, hi, List.getD]
theorem CenRow.frozen {g N : Nat} {pad : List Int} {X : World} {b : ByteArray} (h : CenRow g N pad X b) (i : Nat) (hi : i < b.size) : X.frozen? ⟨g, i, none⟩ = false := by
  have h2 := h.2
  simp only [World.frozen?, h.1]
  simp; omega
theorem CenRow.lt {g N : Nat} {pad : List Int} {X : World} {b : ByteArray} (h : CenRow g N pad X b) : g < X.heap.size := (Array.getElem?_eq_some_iff.1 h.1).1
theorem CenRow.below {g N : Nat} {pad : List Int} {X Y : World} {b : ByteArray} (h : CenRow g N pad X b) (hb : Below X.heap.size X Y) : CenRow g N pad Y b := ⟨(hb.block g h.lt).trans h.1, h.2⟩
theorem CenRow.star {g N i : Nat} {pad : List Int} {X : World} {A s : ByteArray} (h : CenRow g N pad X (A ++ s.extract i s.size)) (hA : A.size = i) (hi : i < s.size) : CenRow g N pad (X.setCell ⟨g, i, none⟩ (.int .u8 42)) (A ++ stars 1 ++ s.extract (i + 1) s.size) := by
  have h2 := h.2
  have hs1 : (A ++ s.extract i s.size).size = s.size := by rw [ByteArray.size_append, ByteArray.size_extract]; omega
  have hs2 : (A ++ stars 1 ++ s.extract (i + 1) s.size).size = s.size := by rw [ByteArray.size_append, ByteArray.size_append, stars_size, ByteArray.size_extract]; omega
  refine ⟨?_, by rw [hs2, ← hs1]; exact h2⟩
  have hn := nums_star A s i hA hi
  obtain ⟨hlt, hk⟩ := Array.getElem?_eq_some_iff.1 h.1
  show (X.heap.modify g _)[g]? = _
  rw [Array.getElem?_eq_getElem (by rw [Array.size_modify]; exact hlt), Array.getElem_modify_self, hk]
  simp only [Option.isSome_none, Bool.false_eq_true, if_false]
  rw [← hn]
  have hl := nums_len (A ++ s.extract i s.size)
  congr 2
  apply Array.ext'
  simp only [Array.toList_setIfInBounds]
  rw [← List.map_set, List.set_append_left _ _ (by rw [hl, hs1]; exact hi)]
theorem cenRow_new (w : World) (s : ByteArray) : CenRow w.heap.size (Lib.bytesCells w 5 s).size (List.replicate (grownCap w s.size 0 5 - s.size) 0) (Lib.bytesWorld w 5 s) s := by
  have e : Lib.bytesCells w 5 s = ((nums s ++ List.replicate (grownCap w s.size 0 5 - s.size) 0).map (Value.int .u8)).toArray := by
    unfold Lib.bytesCells nums
    apply Array.ext'
    simp [Function.comp_def]
  constructor
  · rw [Lib.bytesWorld_at_new]; rw [← e]
  · unfold Lib.bytesCells; simp
def cenM (xs : List ByteArray) (s : ByteArray) : ByteArray × Bool := if textB s = true ∧ wordsB xs = true then (chgAll s cenF (hitsL xs s), true) else (⟨#[]⟩, false)
theorem spec_CensorText_no (A : Option Addr) (n c : Nat) (xs : List ByteArray) (s : ByteArray) (w : World) (h : Row strv w w.heap.size A n xs) (hn : n ≤ 1048576) (hsz : ∀ s ∈ xs, s.size ≤ maxLen) (hs : s.size ≤ maxLen) (hc : ¬ (textB s = true ∧ wordsB xs = true)) :
    Calls Try.prog 26 #[.string s, .slice A n c] w fun e w' => e = .returned (.tuple #[.string ⟨#[]⟩, .bool false]) ∧ Below w.heap.size w w' := by
  cases t0 : textB s with
  | false =>
    clear hc
    go_enter Try.func26, Try.ntmps26
    go_wp2_with (go_at_call 65; refine (spec_IsText_b _ _ _ hs t0).mono ?_; rintro e w' ⟨rfl, rfl⟩)
    go_ret2
    exact ⟨rfl, Below.refl _ _⟩
  | true =>
    have q0 : wordsB xs = false := by cases q : wordsB xs; rfl; exact absurd ⟨t0, q⟩ hc
    clear hc
    go_enter Try.func26, Try.ntmps26
    go_wp2_with (first | (go_at_call 65; refine (spec_IsText_b _ _ _ hs t0).mono ?_; rintro e w' ⟨rfl, rfl⟩) | (go_at_call 66; refine (l06Words_r A n c xs _ _ h hn hsz q0).mono ?_; rintro e w2 ⟨rfl, hb⟩))
    go_ret2
    exact ⟨rfl, hb⟩
set_option maxHeartbeats 3200000 in
theorem spec_CensorText_yes (A : Option Addr) (n c : Nat) (xs : List ByteArray) (s : ByteArray) (w : World) (h : Row strv w w.heap.size A n xs) (hn : n ≤ 1048576) (hsz : ∀ s ∈ xs, s.size ≤ maxLen) (hs : s.size ≤ maxLen) (ht : textB s = true) (hq : wordsB xs = true) :
    Calls Try.prog 26 #[.string s, .slice A n c] w fun e w' => e = .returned (.tuple #[.string (chgAll s cenF (hitsL xs s)), .bool true]) ∧ Below w.heap.size w w' := by
  have hz := textB_size ht
  have HH := Lib.hid h
  go_enter Try.func26, Try.ntmps26
  go_wp2_with fail
  go_at_call 65; refine (spec_IsText_b _ _ _ hs ht).mono ?_; rintro e w' ⟨rfl, rfl⟩
  go_wp2_with fail
  go_at_call 66; refine (l06Words_r A n c xs _ _ h hn hsz hq).mono ?_; rintro e w2 ⟨rfl, hb⟩
  have hcv := Lib.run_convert_string_bytes (P := Try.prog) w2 9 82 5 s Try.underlying9 Try.underlying82 Try.underlying5
  have hrow := cenRow_new w2 s
  have hbv : Below w2.heap.size w2 (Lib.bytesWorld w2 5 s) := ⟨rfl, rfl, rfl, by rw [Lib.bytesWorld_size]; omega, fun k hk => Lib.bytesWorld_at_old w2 _ s k hk⟩
  clear h
  generalize Lib.bytesWorld w2 5 s = V at *
  generalize (Lib.bytesCells w2 5 s).size = N at *
  generalize List.replicate (grownCap w2 s.size 0 5 - s.size) (0 : Int) = pad at *
  generalize grownCap w2 s.size 0 5 = cap at *
  have hs2 := hb.size
  have hbV := hb.trans (hbv.mono hs2)
  go_wp2
  clear hcv
  go_loopw [7] (fun i wr => ∃ k : Nat, k ≤ s.size + 1 ∧ i = .int .i64 k ∧ Hid ((rTo s k).2 = []) ∧ CenRow w2.heap.size N pad wr (cnt s (hitR xs) k) ∧ Below w.heap.size w wr) (fun i _ => s.size + 1 - (intOf i).toNat)
  case atStart => exact ⟨0, by omega, rfl, Lib.hid rfl, by rw [cnt_zero]; exact hrow, hbV⟩
  case round =>
    obtain ⟨k, hk, rfl, HC, hr, hbel⟩ := hrel
    clear hrow hbV hbv hb
    have hbs := hbel.size
    by_cases hlt : k < s.size
    · have hE := endOf_le s k (by omega)
      have hG := endOf_ge s k
      by_cases he : endOf s k = k
      · have HS := Lib.hid (rTo_skip s k HC.out he)
        have HE := Lib.hid he
        have HN := Lib.hid (cnt_next (p := hitR xs) he (by omega))
        clear he hE hG
        go_wp2_with (go_at_call 70; refine (l06End_any s k _ (by omega) (by omega)).mono ?_; rintro e w' ⟨he, rfl⟩; rw [HE.out] at he; subst he)
        go_roundw
        case rel => exact ⟨k + 1, by omega, by go_num, Lib.hid (by rw [HS.out]; exact HC.out), by rw [HN.out]; exact hr, hbel⟩
        case measure => simp [intOf]; omega
      · have hge := endOf_lt he
        have HS := Lib.hid (rTo_run s k HC.out hge)
        have HX := Lib.hid (lows_extract s k (endOf s k) hG hE)
        have HZ := Lib.hid (size_extract_in s k (endOf s k) hE)
        have hls : (s.extract k (endOf s k)).size ≤ 1048576 := by rw [HZ.out]; omega
        have HNX := Lib.hid (cnt_next (p := hitR xs) (clo_run HC.out hge).1 hE)
        have HM := Lib.hid (fun hp => cnt_miss (p := hitR xs) HC.out hge hlt hp)
        have HL := Lib.hid (fun hp => cin_last (p := hitR xs) HC.out hge hlt hp)
        generalize hee : endOf s k = e1 at *
        have HEE := Lib.hid hee
        have hne : ¬ ((e1 : Int) = (k : Int)) := by omega
        clear hee he
        cases hh : hasS xs (strOfNums (lows s k e1)) with
        | false =>
          have HNN := Lib.hid (show cnt s (hitR xs) (e1 + 1) = cnt s (hitR xs) k by rw [HNX.out]; exact HM.out hh)
          go_wp2_with fail
          go_at_call 70; refine (l06End_any s k _ (by omega) (by omega)).mono ?_; rintro e w' ⟨he, rfl⟩; rw [HEE.out] at he; subst he
          go_wp2_with fail
          go_at_call 71; refine (l06Word_any _ _ hls).mono ?_; rw [HX.out]; rintro e w3 ⟨rfl, hb2⟩
          have hr := hr.below hb2
          have hbel := hbel.trans (hb2.mono hbs)
          have hbs := hbel.size
          clear hb2
          go_wp2_with fail
          go_at_call 68; refine (l06Has_any _ _ _ xs _ _ (words_to HH.out hbel) hn).mono ?_; rw [hh]; rintro e w4 ⟨rfl, rfl⟩
          clear hh
          go_wp2
          go_roundw
          case rel => exact ⟨e1 + 1, by omega, by go_num, Lib.hid (by rw [HS.out]), by rw [HNN.out]; exact hr, hbel⟩
          case measure => simp [intOf]; omega
        | true =>
          have HNN := Lib.hid (show cnt s (hitR xs) (e1 + 1) = cin s (hitR xs) k e1 ++ s.extract e1 s.size by rw [HNX.out]; exact HL.out hh)
          rw [cin_first hlt] at hr
          go_wp2_with fail
          go_at_call 70; refine (l06End_any s k _ (by omega) (by omega)).mono ?_; rintro e w' ⟨he, rfl⟩; rw [HEE.out] at he; subst he
          go_wp2_with fail
          go_at_call 71; refine (l06Word_any _ _ hls).mono ?_; rw [HX.out]; rintro e w3 ⟨rfl, hb2⟩
          have hr := hr.below hb2
          have hbel := hbel.trans (hb2.mono hbs)
          have hbs := hbel.size
          clear hb2
          go_wp2_with fail
          go_at_call 68; refine (l06Has_any _ _ _ xs _ _ (words_to HH.out hbel) hn).mono ?_; rw [hh]; rintro e w4 ⟨rfl, rfl⟩
          clear hh
          go_wp2
          go_loopw [9] (fun i wr2 => ∃ j : Nat, k + 1 ≤ j ∧ j ≤ e1 ∧ i = .int .i64 j ∧ CenRow w2.heap.size N pad wr2 (cin s (hitR xs) k j ++ s.extract j s.size) ∧ Below w.heap.size w wr2) (fun i _ => s.size + 1 - (intOf i).toNat)
          case atStart => exact ⟨k + 1, Nat.le_refl _, by omega, by go_num, hr, hbel⟩
          case round =>
            obtain ⟨j, hj1, hj2, rfl, hr2, hbel2⟩ := hrel
            clear hr hbel
            have hbs2 := hbel2.size
            by_cases hjl : j < e1
            · have hcs := cin_size (s := s) (p := hitR xs) hlt hj1
              have hsz3 : (cin s (hitR xs) k j ++ s.extract j s.size).size = s.size := by rw [ByteArray.size_append, hcs, ByteArray.size_extract]; omega
              have dj := hr2.cell j (by omega)
              have fj := hr2.frozen j (by omega)
              have hst := hr2.star hcs (by omega)
              rw [← cin_next hj1] at hst
              have HST := Lib.hid hst
              have hb4 : Below w.heap.size w (wr.setCell ⟨w2.heap.size, j, none⟩ (.int .u8 42)) := hbel2.setCell (by show w.heap.size ≤ w2.heap.size; exact hs2) _
              clear hst hr2
              go_wp2
              go_roundw
              case rel => exact ⟨j + 1, by omega, by omega, by go_num, HST.out, hb4⟩
              case measure => simp [intOf]; omega
            · have hje : j = e1 := by omega
              subst hje
              have HR2 := Lib.hid hr2
              clear hr2
              go_wp2
              go_roundw
              case rel => exact ⟨j + 1, by omega, by go_num, Lib.hid (by rw [HS.out]), by rw [HNN.out]; exact HR2.out, hbel2⟩
              case measure => simp [intOf]; omega
    · have HL := Lib.hid (show cnt s (hitR xs) k = chgAll s cenF (hitsL xs s) by
        unfold cnt
        rw [show min k s.size = s.size by omega, mrk_end]
        rw [show s.extract s.size s.size = ByteArray.empty from by simp]
        simp [hitsL])
      have hcz := cnt_size s (hitR xs) k
      have hcv := run_convert_bytes_arg (P := Try.prog) (w := wr) 82 5 Try.underlying82 Try.underlying5 w2.heap.size 0 s.size cap (nums (cnt s (hitR xs) k)) (by rw [nums_len, hcz]) (fun i hi => by rw [Nat.zero_add]; exact hr.cell i (by omega)) 9 Try.underlying9
      rw [strOf_nums, HL.out] at hcv
      clear hr
      go_wp2
      go_ret2
      exact ⟨rfl, hbel⟩
end Go.Proofs.Yteeodjbionjlmaa
