import Derived.Test.YtgomffcdoglbfaaChecked
import Derived.WalkKit
import Derived.ProofKit
import Derived.OpenShut
import Derived.ShutString
import Derived.ChangeOld
import Derived.Below
import Derived.Lib.Hide
import Derived.Deep.Onto
import Derived.Lib.SmallJoins
import Derived.Test.YtgomffcdoglbfaaZPresM
import Derived.Test.YtgomffcdoglbfaaZSeenS
import Derived.Test.YtgomffcdoglbfaaZUnrP
namespace Go.Proofs.Ytgomffcdoglbfaa
open Go.ChangeShapes Go.WideShapes Go.ChangeAt Go.RowKit
open Go.ChangeMaps (open_string shut_string)
set_option linter.unusedVariables false
set_option maxRecDepth 100000
set_option maxHeartbeats 6400000 in
theorem l05Unread_any (G1 G2 : Nat) (A1 A2 A3 : Option Addr) (n1 c1 n2 c2 n3 c3 : Nat) (hs ts ks : List Bn) (x : Int) (A : Option Addr) (n c : Nat) (rs : List Rm) (t : Int) (w : World) (hp : Blk w G1 31 #[.slice A1 n1 c1, .slice A2 n2 c2, .slice A3 n3 c3]) (hl : Blk w G2 52 #[.int .i64 x, .slice A n c]) (h : PresAt w w.heap.size A1 n1 A2 n2 A3 n3 hs ts ks) (hn : n1 + n2 + n3 ≤ 1048576) (hL : LogAt w w.heap.size A n rs) (hf : fitL (mgs rs)) :
    Calls Try.prog 64 #[.pointer (some ⟨G1, 0, none⟩), .pointer (some ⟨G2, 0, none⟩), .int .i64 t] w fun e w' => ∃ A' n' c', e = .returned (.slice A' n' c') ∧ w'.ownsRow w.heap.size 2 1 (.slice A' n' c') n' ((pickL (unrB (numOf ks t 0) t) (mgs rs)).map i64v) ∧ Below w.heap.size w w' := by
  have hnn := fit_n hL hf
  have HF := Lib.hid hf
  have HLn := Lib.hid (show (mgs rs).length = n by rw [mgs_len, hL.len])
  obtain ⟨i0, hi, hz0, hz1, hz2⟩ := info_parts Try.info_i64
  obtain ⟨mk, hmk⟩ : ∃ z, numOf ks t 0 = z := ⟨_, rfl⟩
  have HMK := Lib.hid hmk
  rw [hmk]
  clear hf hmk
  go_enter Try.func64, Try.ntmps64
  go_wp2_with fail
  have hb0 : Below w.heap.size w (w.alloc (.cells #[] 2)) := (Below.refl _ _).alloc (Nat.le_refl _) _
  have hown0 : (w.alloc (.cells #[] 2)).ownsRow w.heap.size 2 1 (.slice (some ⟨w.heap.size, 0, none⟩) 0 0) 0 ((pickL (unrB mk t) ((mgs rs).take 0)).map i64v) := by
    simp only [pickL, List.take_zero, List.filter_nil, List.map_nil]; exact World.ownsRow_made w #[] 0 (Nat.le_refl _) (by decide) rfl
  have hp0 := hp.below hb0 hp.lt
  have hl0 := hl.below hb0 hl.lt
  have h0 := h.to hb0
  generalize w.alloc (.cells #[] 2) = W at *
  go_at_call 55; refine (l05Mark_any _ _ _ _ _ _ _ _ _ _ _ _ _ _ _ hp0 h0 hn).mono ?_; rintro e w' ⟨rfl, rfl⟩
  rw [HMK.out]
  have q1 := hl0.cell 1
  have q1l := hl0.lt
  clear h0 hp0
  go_wp2
  clear q1 q1l
  go_loopw [7, 20] (fun v i wr => ∃ (k : Nat) (u : Value), k ≤ n ∧ i = .int .i64 k ∧ v = u ∧ wr.ownsRow w.heap.size 2 1 u (pickL (unrB mk t) ((mgs rs).take k)).length ((pickL (unrB mk t) ((mgs rs).take k)).map i64v) ∧ Below w.heap.size w wr) (fun _ i _ => n - (intOf i).toNat)
  case atStart => exact ⟨0, _, by omega, rfl, rfl, hown0, hb0⟩
  case round =>
    obtain ⟨k, u, hk, rfl, rfl, hown, hbel⟩ := hrel
    clear hown0 hb0 hl0
    have l1 := (hl.below hbel hl.lt).cell 1
    have llt := (hl.below hbel hl.lt).lt
    by_cases hlt : k < n
    · have hlt' : decide ((k : Int) < (n : Int)) = true := decide_eq_true (by omega)
      obtain ⟨b, off, r, rfl, hb, hz, hr, c0, c1, c2, c3, c4, c5, c6, c7⟩ := (hL.below hbel).atr hlt
      have HZ := Lib.hid (mgs_at hz)
      have hbs := hbel.size
      have hkl := pick_le (p := unrB mk t) (ms := mgs rs) (k := k)
      clear hz hr hL h hp hl
      obtain ⟨gg, hgg⟩ : ∃ z, r.m.gone = z := ⟨_, rfl⟩
      have HG := Lib.hid hgg
      rw [hgg] at c5
      clear hgg
      by_cases h1 : mk < r.m.num
      · have h1' : decide (mk < r.m.num) = true := decide_eq_true h1
        have H1 := Lib.hid h1
        cases gg with
        | true =>
          have HQ := Lib.hid (show unrB mk t r.m = false by simp [unrB, HG.out])
          have HT := Lib.hid (pick_no HZ.out HQ.out)
          go_wp2
          go_roundw
          case rel => exact ⟨k + 1, _, by omega, by go_num, rfl, by rw [HT.out]; exact hown.alloc _, hbel.alloc hbs _⟩
          case measure => simp [intOf]; omega
        | false =>
          by_cases h2 : r.m.sdr = t
          · have h2' : (r.m.sdr == t) = true := by simp [h2]
            have h2'' : (r.m.sdr != t) = false := by simp [h2]
            have H2 := Lib.hid h2
            clear h2
            have HQ := Lib.hid (show unrB mk t r.m = false by simp [unrB, H2.out])
            have HT := Lib.hid (pick_no HZ.out HQ.out)
            go_wp2
            go_roundw
            case rel => exact ⟨k + 1, _, by omega, by go_num, rfl, by rw [HT.out]; exact hown.alloc _, hbel.alloc hbs _⟩
            case measure => simp [intOf]; omega
          · have h2' : (r.m.sdr == t) = false := by simp [h2]
            have h2'' : (r.m.sdr != t) = true := by simp [h2]
            have H2 := Lib.hid h2
            clear h2
            have HQ := Lib.hid (show unrB mk t r.m = true by simp [unrB, H1.out, HG.out, H2.out])
            have HT := Lib.hid (pick_yes HZ.out HQ.out)
            have HL2 := Lib.hid (pick_len HZ.out HQ.out)
            go_wp2_with (at_builtin; refine wpList_append_own _ rfl _ _ 39 rfl w.heap.size 2 i0 (.int .i64 0) 1 8 Try.underlying39 hi hz0 hz1 hz2 rfl (by decide) _ _ _ rfl ((hown.alloc _).alloc _) ⟨wr.heap.size + 1, 0, none⟩ 1 1 [.int .i64 r.m.num] rfl rfl (cell_newY _ _ _ _ (by simp)) (by intro u hu; simp at hu; subst hu; rfl) (by unfold maxLen; omega) (by omega) (by simp; omega) ?_; intro v' w5 hown' hgrow _)
            have hbel' : Below w.heap.size w w5 := ((hbel.alloc hbs _).alloc (by simp; omega) _).grown hgrow (by simp; omega) (fun g hg => (hown.lt g hg).1)
            clear hgrow hown hbel
            go_roundw
            case rel => exact ⟨k + 1, v', by omega, by go_num, rfl, by rw [HL2.out, HT.out, List.map_append]; exact hown', hbel'⟩
            case measure => simp [intOf]; omega
      · have h1' : decide (mk < r.m.num) = false := decide_eq_false h1
        have H1 := Lib.hid h1
        have HQ := Lib.hid (show unrB mk t r.m = false by simp [unrB, H1.out])
        have HT := Lib.hid (pick_no HZ.out HQ.out)
        go_wp2
        go_roundw
        case rel => exact ⟨k + 1, _, by omega, by go_num, rfl, by rw [HT.out]; exact hown.alloc _, hbel.alloc hbs _⟩
        case measure => simp [intOf]; omega
    · have hlt' : decide ((k : Int) < (n : Int)) = false := decide_eq_false (by omega)
      have hkn : k = n := by omega
      subst hkn
      rw [List.take_of_length_le (by have := HLn.out; omega)] at hown
      have HO := Lib.hid hown
      clear hown
      rcases HO.out.2 with ⟨hv, hv0⟩ | ⟨g', cap', cur', hv, _⟩
      · subst hv
        go_wp2
        go_ret
        exact ⟨_, _, _, rfl, by have := HO.out; rwa [hv0] at this, hbel⟩
      · subst hv
        go_wp2
        go_ret
        exact ⟨_, _, _, rfl, HO.out, hbel⟩
set_option maxHeartbeats 3200000 in
theorem spec_UnreadOf_any (A1 A2 A3 : Option Addr) (n1 c1 n2 c2 n3 c3 : Nat) (hs ts ks : List Bn) (x : Int) (A : Option Addr) (n c : Nat) (rs : List Rm) (t : Int) (w : World) (h : PresAt w w.heap.size A1 n1 A2 n2 A3 n3 hs ts ks) (hn : n1 + n2 + n3 ≤ 1048576) (hL : LogAt w w.heap.size A n rs) (hf : fitL (mgs rs)) :
    Calls Try.prog 28 #[.agg #[.slice A1 n1 c1, .slice A2 n2 c2, .slice A3 n3 c3], .agg #[.int .i64 x, .slice A n c], .int .i64 t] w fun e w' => NumsOut ((presB hs ts ks && idB t) && logB x (mgs rs)) (pickL (unrB (numOf ks t 0) t) (mgs rs)) w e w' := by
  have HF := Lib.hid hf
  go_enter Try.func28, Try.ntmps28
  go_wp2_with fail
  obtain ⟨k0, k1, hb0⟩ := two_boxes w 31 52 #[.slice A1 n1 c1, .slice A2 n2 c2, .slice A3 n3 c3] #[.int .i64 x, .slice A n c]
  have h := h.to hb0
  have hL := hL.to hb0
  generalize ((w.alloc (.cells #[.slice A1 n1 c1, .slice A2 n2 c2, .slice A3 n3 c3] 31)).alloc (.cells #[.int .i64 x, .slice A n c] 52)) = W at *
  clear hf
  cases tp : presB hs ts ks with
  | false =>
    go_at_call 44; refine (l05Is_b _ _ _ _ _ _ _ _ _ _ _ _ _ _ _ k0 h hn tp).mono ?_; rintro e w1 ⟨rfl, hb1⟩
    have hb0 := hb0.trans (hb1.mono hb0.size)
    go_wp2
    all_goals exact bodyPost_ret (v := .tuple #[.slice none 0 0, .bool false]) (by simp [results, Try.results28, go_sem]) rfl (by rw [tp, Bool.false_and, Bool.false_and]; exact numsOut_no hb0)
  | true =>
    go_at_call 44; refine (l05Is_b _ _ _ _ _ _ _ _ _ _ _ _ _ _ _ k0 h hn tp).mono ?_; rintro e w1 ⟨rfl, hb1⟩
    have h := h.to hb1; have hL := hL.to hb1; have k0 := k0.below hb1 k0.lt; have k1 := k1.below hb1 k1.lt; have hb0 := hb0.trans (hb1.mono hb0.size)
    clear hb1
    go_wp2_with fail
    cases tl : logB x (mgs rs) with
    | false =>
      go_at_call 63; refine (l03Is_any (w.heap.size + 1) x A n c _ rs _ (k1.cell 0) (k1.cell 1) hL HF.out).mono ?_; rw [tl]; rintro e w2 ⟨rfl, hq⟩
      have hb0 := hb0.trans (Below.mono (drew_below hq) hb0.size)
      clear hq
      go_wp2
      all_goals exact bodyPost_ret (v := .tuple #[.slice none 0 0, .bool false]) (by simp [results, Try.results28, go_sem]) rfl (by rw [tl, Bool.and_false]; exact numsOut_no hb0)
    | true =>
      go_at_call 63; refine (l03Is_any (w.heap.size + 1) x A n c _ rs _ (k1.cell 0) (k1.cell 1) hL HF.out).mono ?_; rw [tl]; rintro e w2 ⟨rfl, hq⟩
      have hb1 := drew_below hq
      have h := h.to hb1; have hL := hL.to hb1; have k0 := k0.below hb1 k0.lt; have k1 := k1.below hb1 k1.lt; have hb0 := hb0.trans (hb1.mono hb0.size)
      clear hb1 hq
      cases tm : idB t with
      | false =>
        go_wp2_with (go_at_call 54; refine (l01Mem_b _ _ _ tm).mono ?_; rintro e w' ⟨rfl, rfl⟩)
        all_goals exact bodyPost_ret (v := .tuple #[.slice none 0 0, .bool false]) (by simp [results, Try.results28, go_sem]) rfl (by rw [tp, tm, Bool.and_false, Bool.false_and]; exact numsOut_no hb0)
      | true =>
        have HBB := Lib.hid (show ((presB hs ts ks && idB t) && logB x (mgs rs)) = true by rw [tp, tl, tm]; rfl)
        go_wp2_with (go_at_call 54; refine (l01Mem_b _ _ _ tm).mono ?_; rintro e w' ⟨rfl, rfl⟩)
        clear tp tl tm
        go_at_call 64; refine (l05Unread_any _ _ _ _ _ _ _ _ _ _ _ _ _ _ x A n c rs t _ k0 k1 h hn hL HF.out).mono ?_; rintro e w3 ⟨A', n', c', rfl, ho, hb1⟩
        have ho := World.ownsRow.mono ho hb0.size
        have hb0 := hb0.trans (hb1.mono hb0.size)
        go_wp2
        all_goals exact bodyPost_ret (v := .tuple #[.slice A' n' c', .bool true]) (by simp [results, Try.results28, go_sem]) rfl (by rw [HBB.out]; exact ⟨_, _, _, _, rfl, by simp, ho, hb0⟩)
end Go.Proofs.Ytgomffcdoglbfaa
