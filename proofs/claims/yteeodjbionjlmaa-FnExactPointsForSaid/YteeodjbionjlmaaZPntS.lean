import Derived.Test.YteeodjbionjlmaaChecked
import Derived.WalkKit
import Derived.ProofKit
import Derived.OpenShut
import Derived.ShutString
import Derived.ChangeOld
import Derived.Below
import Derived.Lib.Hide
import Derived.WalkSpells
import Derived.WalkLawsBesides
import Derived.Maps.AppendAt
import Derived.Deep.QuietTactic
import Derived.BigQuiet
import Derived.Test.YteeodjbionjlmaaZFndS
import Derived.Test.YteeodjbionjlmaaZRnsI
import Derived.Test.YteeodjbionjlmaaZWordsI
import Derived.Test.YteeodjbionjlmaaZPtsQ
import Derived.Test.YteeodjbionjlmaaZMsgV
import Derived.Test.YteeodjbionjlmaaZCalmQ
namespace Go.Proofs.Yteeodjbionjlmaa
open Go.ChangeShapes Go.WideShapes Go.ChangeAt Go.RowKit
open Go.ChangeMaps (open_string shut_string)
set_option linter.unusedVariables false
set_option maxRecDepth 100000
theorem wordsL_of (s : ByteArray) : wordsL s = (runsL s).map wordOf := wordsL_runs s
theorem wordsTo_snoc (l : List (Nat × List Int)) (x : Nat × List Int) : (l ++ [x]).map wordOf = l.map wordOf ++ [wordOf x] := by simp
set_option maxHeartbeats 1600000 in
theorem l08Words_any (s : ByteArray) (w : World) (hs : s.size ≤ 1048576) :
    Calls Try.prog 135 #[.string s] w fun e w' => ∃ a m d, e = .returned (.slice a m d) ∧ w'.ownsRow w.heap.size 9 1 (.slice a m d) m ((wordsL s).map strv) ∧ Below w.heap.size w w' := by
  obtain ⟨i0, hi, hz0, hz1, hz2⟩ := info_parts Try.info_str
  go_enter Try.func135, Try.ntmps135
  go_wp2
  go_loopw [3, 4] (fun v i wr => ∃ k : Nat, k ≤ s.size + 1 ∧ i = .int .i64 k ∧ Hid ((rTo s k).2 = []) ∧ wr.ownsRow w.heap.size 9 1 v (rTo s k).1.length (((rTo s k).1.map wordOf).map strv) ∧ Below w.heap.size w wr) (fun _ i _ => s.size + 1 - (intOf i).toNat)
  case atStart => exact ⟨0, by omega, rfl, Lib.hid rfl, World.ownsRow_made w #[] 0 (Nat.le_refl _) (by decide) rfl, (Below.refl _ _).alloc (Nat.le_refl _) _⟩
  case round =>
    obtain ⟨k, hk, rfl, HC, hown, hbel⟩ := hrel
    have hbs := hbel.size
    by_cases hlt : k < s.size
    · have hE := endOf_le s k (by omega)
      have hG := endOf_ge s k
      have hlen := (rTo_bd s k).1
      by_cases he : endOf s k = k
      · have HS := Lib.hid (rTo_skip s k HC.out he)
        have HE := Lib.hid he
        clear he hE hG
        go_wp2_with (go_at_call 70; refine (l06End_any s k _ hs (by omega)).mono ?_; rintro e w' ⟨he, rfl⟩; rw [HE.out] at he; subst he)
        go_roundw
        case rel => exact ⟨k + 1, by omega, by go_num, Lib.hid (by rw [HS.out]; exact HC.out), by rw [HS.out]; exact hown, hbel⟩
        case measure => simp [intOf]; omega
      · have hge := endOf_lt he
        have HS := Lib.hid (rTo_run s k HC.out hge)
        have HX := Lib.hid (lows_extract s k (endOf s k) hG hE)
        have HZ := Lib.hid (size_extract_in s k (endOf s k) hE)
        have hls : (s.extract k (endOf s k)).size ≤ 1048576 := by rw [HZ.out]; omega
        generalize hee : endOf s k = e1 at *
        have HEE := Lib.hid hee
        have hne : (k : Int) < (e1 : Int) := by omega
        clear hee he
        go_wp2_with fail
        go_at_call 70; refine (l06End_any s k _ hs (by omega)).mono ?_; rintro e w' ⟨he, rfl⟩; rw [HEE.out] at he; subst he
        go_wp2_with fail
        go_at_call 71; refine (l06Word_any _ _ hls).mono ?_; rw [HX.out]; rintro e w2 ⟨rfl, hb2⟩
        have hown := own_below hown hb2 (Nat.le_refl _)
        have hbel := hbel.trans (hb2.mono hbs)
        have hbs := hbel.size
        clear hb2
        go_wp2_with (at_builtin; refine wpList_append_own _ rfl _ _ 22 rfl w.heap.size 9 i0 (.string ByteArray.empty) 1 16 Try.underlying22 hi hz0 hz1 hz2 rfl (by decide) _ _ _ rfl (hown.alloc _) ⟨w2.heap.size, 0, none⟩ 1 1 [.string (strOfNums (lows s k e1))] rfl rfl ?q1 ?q2 ?q3 ?q4 ?q5 ?_)
        case q1 => exact cell_one_new _ _ _
        case q2 => intro u hu; simp at hu; subst hu; rfl
        case q3 => unfold maxLen; omega
        case q4 => omega
        case q5 => simp; omega
        intro v' w5 hown' hgrow _
        have hbel' : Below w.heap.size w w5 := (hbel.alloc hbs _).grown hgrow (by simp; omega) (fun g hg => (hown.lt g hg).1)
        clear hgrow hown hbel
        go_wp2
        go_roundw
        case rel => exact ⟨e1 + 1, by omega, by go_num, Lib.hid (by rw [HS.out]), by rw [HS.out, wordsTo_snoc, List.map_append, List.length_append]; rw [List.map_map]; exact hown', hbel'⟩
        case measure => simp [intOf]; omega
    · have HL := Lib.hid (rTo_last s k HC.out (by omega) hk)
      rw [HL.out, ← wordsL_of] at hown
      obtain ⟨A2, m2, c2, rfl, hmm⟩ := own_shapeS hown
      rw [← hmm] at hown
      go_wp2
      go_ret
      exact ⟨A2, m2, c2, rfl, hown, hbel⟩
theorem hits_count (xs : List ByteArray) (s : ByteArray) : ((wordsL s).filter (hasS xs)).length = ((runsL s).filter (hitR xs)).length := by
  rw [wordsL_of, List.filter_map, List.length_map]
  rfl
theorem hasR_any (A : Option Addr) (n c : Nat) (xs : List ByteArray) (z : ByteArray) (r : Bool) (w : World) (h : Row strv w w.heap.size A n xs) (hn : n ≤ 1048576) (hr : hasS xs z = r) :
    Calls Try.prog 68 #[.slice A n c, .string z] w fun e w' => e = .returned (.bool r) ∧ w = w' := by subst hr; exact l06Has_any A n c xs z w h hn
set_option maxHeartbeats 3200000 in
theorem l08Points_any (g : Nat) (m : Mg) (cs : Array Value) (la : Option Addr) (lc : Nat) (A : Option Addr) (n c : Nat) (xs : List ByteArray) (t : Int) (w : World) (hcs : cs = #[.int .i64 m.num, .int .i64 m.sdr, .int .i64 m.tick, .string m.text, .int .i64 m.edits, .bool m.gone, .int .i64 m.reply, .slice la m.likes.length lc])
    (k0 : Blk w g 41 cs) (h : Row strv w w.heap.size A n xs) (hn : n ≤ 1048576) (hs : m.text.size ≤ 80) (hl : m.likes.length ≤ 20) (ht0 : 0 ≤ m.tick) (ht1 : m.tick ≤ t) (ht2 : t ≤ 1000000) :
    Calls Try.prog 84 #[.pointer (some ⟨g, 0, none⟩), .slice A n c, .int .i64 t] w fun e w' => e = .returned (.int .i64 (pntsR m ((runsL m.text).filter (hitR xs)).length t)) ∧ Below w.heap.size w w' := by
  subst hcs
  have hg := k0.lt
  have l3 := k0.cell 3
  go_enter Try.func84, Try.ntmps84
  go_wp2_with fail
  go_at_call 135; refine (l08Words_any m.text _ (by omega)).mono ?_; rintro e w2 ⟨a2, m2, c2, rfl, how, hb⟩
  have hm2 : m2 = (wordsL m.text).length := by simpa using how.1.symm
  have hL1 : (wordsL m.text).length ≤ 81 := by rw [wordsL_of, List.length_map]; have := runsL_len m.text; omega
  have HCN := Lib.hid (hits_count xs m.text)
  subst hm2
  generalize hww : wordsL m.text = ws at *
  clear hww l3
  go_wp2
  go_loopw [8, 9] (fun q i wr => ∃ k : Nat, k ≤ ws.length ∧ i = .int .i64 k ∧ q = .int .i64 (((ws.take k).filter (hasS xs)).length : Nat) ∧ wr = w2) (fun _ i _ => ws.length - (intOf i).toNat)
  case atStart => exact ⟨0, Nat.zero_le _, rfl, rfl, rfl⟩
  case round =>
    obtain ⟨k, hk, rfl, rfl, rfl⟩ := hrel
    have hcl : ((ws.take k).filter (hasS xs)).length ≤ 81 := Nat.le_trans (List.length_filter_le _ _) (by rw [List.length_take]; omega)
    by_cases hlt : k < ws.length
    · obtain ⟨b, off, z, rfl, hb2, hzz, c0⟩ := (Row.of_own_any how).at_ hlt
      have HST := Lib.hid (show (ws.take (k + 1)).filter (hasS xs) = (ws.take k).filter (hasS xs) ++ [z].filter (hasS xs) by rw [List.take_add_one, hzz, List.filter_append]; rfl)
      clear hzz
      cases hh : hasS xs z with
      | false =>
        have HS2 := Lib.hid (show ((ws.take (k + 1)).filter (hasS xs)).length = ((ws.take k).filter (hasS xs)).length by rw [HST.out]; simp [hh])
        go_wp2_with fail
        go_at_call 68; refine (hasR_any A n c xs z _ _ (h.to hb) hn hh).mono ?_; rintro e w5 ⟨rfl, rfl⟩
        clear hh
        go_wp2
        go_roundw
        case rel => exact ⟨k + 1, by omega, by go_num, by rw [HS2.out], by first | rfl | trivial⟩
        case measure => simp [intOf]; omega
      | true =>
        have HS2 := Lib.hid (show ((ws.take (k + 1)).filter (hasS xs)).length = ((ws.take k).filter (hasS xs)).length + 1 by rw [HST.out]; simp [hh])
        go_wp2_with fail
        go_at_call 68; refine (hasR_any A n c xs z _ _ (h.to hb) hn hh).mono ?_; rintro e w5 ⟨rfl, rfl⟩
        clear hh
        go_wp2
        go_roundw
        case rel => exact ⟨k + 1, by omega, by go_num, by rw [HS2.out]; go_num, by first | rfl | trivial⟩
        case measure => simp [intOf]; omega
    · have hke : k = ws.length := by omega
      have HCK := Lib.hid (show ((ws.take k).filter (hasS xs)).length = ((runsL m.text).filter (hitR xs)).length by rw [hke, List.take_length]; exact HCN.out)
      have k2 := k0.below hb hg
      have g2 : ∀ s : Gr wr, s.u.cell? ⟨g, 2, none⟩ = some (.int .i64 m.tick) := fun s => (s.hb.cell (p := ⟨g, 2, none⟩) k2.lt).trans (k2.cell 2)
      have g7 : ∀ s : Gr wr, s.u.cell? ⟨g, 7, none⟩ = some (.slice la m.likes.length lc) := fun s => (s.hb.cell (p := ⟨g, 7, none⟩) k2.lt).trans (k2.cell 7)
      rw [HCK.out] at hcl
      rw [HCK.out]
      generalize hgh : ((runsL m.text).filter (hitR xs)).length = hits at *
      have HGH := Lib.hid hgh
      clear hgh
      have HP := Lib.hid (show pntsR m hits t = if hits = 0 then 0 else max 0 (10 * (hits : Int) + 5 * (m.likes.length : Int) - (t - m.tick).tdiv 100) from rfl)
      obtain ⟨q, hq⟩ : ∃ q : Int, (t - m.tick).tdiv 100 = q := ⟨_, rfl⟩
      have hq0 : 0 ≤ q := by rw [← hq]; exact Int.tdiv_nonneg (by omega) (by omega)
      have hq1 : q ≤ 1000000 := by rw [← hq]; exact Int.le_trans (Int.tdiv_le_self _ (by omega)) (by omega)
      have HQ := Lib.hid hq
      clear k2 how hke
      go_wp2
      refine wp_region_calm (w0 := wr) (by kernel_rfl) (by kernel_rfl) (Below.refl _ _).drew ?_
      repeat (go_big_quiet_step ((fail)))
      refine wpQuiet_nil ?_
      intro _ hw'
      obtain ⟨s7, hw''⟩ := hw'
      subst hw''
      have hb7 := hb.trans (s7.hb.mono hb.size)
      clear g2 g7
      by_cases hz : hits = 0
      · have HR := Lib.hid (show (0 : Int) = pntsR m hits t by rw [HP.out, if_pos hz])
        have hbz : ((hits : Int) == 0) = true := by simpa using hz
        go_wp2
        go_ret
        exact ⟨ret_int (by rw [HGH.out]; exact HR.out), hb7⟩
      · have hbz : ((hits : Int) == 0) = false := by simpa using hz
        by_cases hp : 10 * (hits : Int) + 5 * (m.likes.length : Int) - q < 1
        · have HR := Lib.hid (show (0 : Int) = pntsR m hits t by rw [HP.out, if_neg hz, HQ.out]; omega)
          go_wp2
          go_ret
          exact ⟨ret_int (by rw [HGH.out]; exact HR.out), hb7⟩
        · have HR := Lib.hid (show 10 * (hits : Int) + 5 * (m.likes.length : Int) - q = pntsR m hits t by rw [HP.out, if_neg hz, HQ.out]; omega)
          go_wp2
          go_ret
          exact ⟨ret_int (by rw [HGH.out]; exact HR.out), hb7⟩
end Go.Proofs.Yteeodjbionjlmaa
