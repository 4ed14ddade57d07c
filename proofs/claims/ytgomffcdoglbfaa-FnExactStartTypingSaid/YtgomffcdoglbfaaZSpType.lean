import Derived.Test.YtgomffcdoglbfaaChecked
import Derived.WalkKit
import Derived.ProofKit
import Derived.OpenShut
import Derived.ShutString
import Derived.ChangeOld
import Derived.Below
import Derived.Lib.Hide
import Derived.Test.YtgomffcdoglbfaaZPresO
import Derived.Test.YtgomffcdoglbfaaJp
import Derived.Test.YtgomffcdoglbfaaZListE
namespace Go.Proofs.Ytgomffcdoglbfaa
open Go.ChangeShapes Go.WideShapes Go.ChangeAt Go.RowKit
open Go.ChangeMaps (open_string shut_string)
set_option linter.unusedVariables false
set_option maxRecDepth 100000
theorem l05Until_any (A : Option Addr) (n c : Nat) (hs : List Bn) (t : Int) (w : World) (hr : SRow 2 bnC w w.heap.size A n hs) (hn : n ≤ 1048576) :
    Calls Try.prog 80 #[.slice A n c, .int .i64 t] w fun e w' => e = .returned (.int .i64 (numOf hs t (-1))) ∧ w = w' := by
  have HL := Lib.hid hr.1
  go_enter Try.func80, Try.ntmps80
  go_wp2
  go_loop [8] (fun i => ∃ k : Nat, k ≤ n ∧ i = .int .i64 k ∧ Hid (NoIn t hs k)) (fun i => n - (intOf i).toNat)
  case atStart => exact ⟨0, by omega, rfl, Lib.hid (NoIn.zero t hs)⟩
  case round =>
    obtain ⟨k, hk, rfl, HN⟩ := hrel
    by_cases hlt : k < n
    · obtain ⟨b, off, z, rfl, _, hz, c0, c1⟩ := hr.atbn hlt
      have HZ := Lib.hid hz
      clear hz hr
      by_cases he : z.id = t
      · have he' : (z.id == t) = true := by simp [he]
        have HE := Lib.hid he
        clear he
        go_wp2
        go_ret
        exact ⟨ret_int (numOf_at HN.out HZ.out HE.out).symm, rfl⟩
      · have he' : (z.id == t) = false := by simp [he]
        have HN' := Lib.hid (HN.out.succ HZ.out he)
        clear he
        go_wp2
        go_round
        case rel => exact ⟨k + 1, by omega, by go_num, HN'⟩
        case measure => simp [intOf]; omega
    · have HF := Lib.hid (numOf_none (d := -1) HN.out (by have := HL.out; omega))
      go_wp2
      go_ret
      exact ⟨ret_int HF.out.symm, rfl⟩
set_option maxHeartbeats 6400000 in
theorem l05Type_any (G : Nat) (a1 a2 a3 : Addr) (n1 c1 n2 c2 n3 c3 : Nat) (hs ts ks : List Bn) (t : Int) (at_ : Int) (w : World) (k : Blk w G 31 #[.slice (some a1) n1 c1, .slice (some a2) n2 c2, .slice (some a3) n3 c3]) (h : PresAt w w.heap.size (some a1) n1 (some a2) n2 (some a3) n3 hs ts ks) (hn : n1 + n2 + n3 ≤ 1048576) (tb : presB hs ts ks = true) :
    Calls Try.prog 85 #[.pointer (some ⟨G, 0, none⟩), .int .i64 t, .int .i64 at_] w fun e w' => PresOutS (giveR (idB t && (tickB at_ && (liveB hs t at_ && (presB hs (tellB ts t (at_ + 6)) ks)))) ⟨hs, (tellB ts t (at_ + 6)), ks⟩) (idB t && (tickB at_ && (liveB hs t at_ && (presB hs (tellB ts t (at_ + 6)) ks)))) w e w' := by
  have HTB := Lib.hid tb
  have HLe := Lib.hid (And.intro h.1.1 (And.intro h.2.1.1 h.2.2.1))
  have hGw := k.lt
  go_enter Try.func85, Try.ntmps85
  go_wp2_with fail
  obtain ⟨k1, hb0⟩ := one_box w 31 #[.slice none 0 0, .slice none 0 0, .slice none 0 0]
  have k := k.below hb0 hGw
  have h := h.to hb0
  generalize w.alloc (.cells #[.slice none 0 0, .slice none 0 0, .slice none 0 0] 31) = W at *
  clear tb
  cases t0 : idB t with
  | false =>
    have pf0 := k.cell 0; have pfl := k.lt
    have r0 := k1.cell 0; have r1 := k1.cell 1; have r2 := k1.cell 2; have f0 := k1.frozen 0; have f1 := k1.frozen 1; have f2 := k1.frozen 2
    go_wp2_with (first | (go_at_call 54; refine (l01Mem_b _ _ _ t0).mono ?_; rintro e w' ⟨rfl, rfl⟩))
    exact bodyPost_ret (v := .tuple #[.agg #[.slice none 0 0, .slice none 0 0, .slice none 0 0], .bool false]) (by simp [results, Try.results85, go_sem, r0, r1, r2]) rfl (by rw [show (idB t && (tickB at_ && (liveB hs t at_ && (presB hs (tellB ts t (at_ + 6)) ks)))) = false by simp [t0]]; exact presOutS_no (below_3 hb0 (Nat.le_refl _) _ _ _ _ _ _))
  | true =>
    cases t1 : tickB at_ with
    | false =>
      have pf0 := k.cell 0; have pfl := k.lt
      have r0 := k1.cell 0; have r1 := k1.cell 1; have r2 := k1.cell 2; have f0 := k1.frozen 0; have f1 := k1.frozen 1; have f2 := k1.frozen 2
      go_wp2_with (first | (go_at_call 54; refine (l01Mem_b _ _ _ t0).mono ?_; rintro e w' ⟨rfl, rfl⟩) | (go_at_call 103; refine (l01Tick_b _ _ _ t1).mono ?_; rintro e w' ⟨rfl, rfl⟩))
      exact bodyPost_ret (v := .tuple #[.agg #[.slice none 0 0, .slice none 0 0, .slice none 0 0], .bool false]) (by simp [results, Try.results85, go_sem, r0, r1, r2]) rfl (by rw [show (idB t && (tickB at_ && (liveB hs t at_ && (presB hs (tellB ts t (at_ + 6)) ks)))) = false by simp [t0, t1]]; exact presOutS_no (below_3 hb0 (Nat.le_refl _) _ _ _ _ _ _))
    | true =>
      cases t2 : liveB hs t at_ with
      | false =>
        have t2' := over_false t1 t2
        have pf0 := k.cell 0; have pfl := k.lt
        have r0 := k1.cell 0; have r1 := k1.cell 1; have r2 := k1.cell 2; have f0 := k1.frozen 0; have f1 := k1.frozen 1; have f2 := k1.frozen 2
        go_wp2_with (first | (go_at_call 54; refine (l01Mem_b _ _ _ t0).mono ?_; rintro e w' ⟨rfl, rfl⟩) | (go_at_call 103; refine (l01Tick_b _ _ _ t1).mono ?_; rintro e w' ⟨rfl, rfl⟩) | (go_at_call 80; refine (l05Until_any _ _ _ _ _ _ h.1 (by omega)).mono ?_; rintro e w' ⟨rfl, rfl⟩))
        exact bodyPost_ret (v := .tuple #[.agg #[.slice none 0 0, .slice none 0 0, .slice none 0 0], .bool false]) (by simp [results, Try.results85, go_sem, r0, r1, r2]) rfl (by rw [show (idB t && (tickB at_ && (liveB hs t at_ && (presB hs (tellB ts t (at_ + 6)) ks)))) = false by simp [t0, t1, t2]]; exact presOutS_no (below_3 hb0 (Nat.le_refl _) _ _ _ _ _ _))
      | true =>
        have t2' := over_true t1 t2
        have HC := Lib.hid (show (idB t && (tickB at_ && (liveB hs t at_ && (presB hs (tellB ts t (at_ + 6)) ks)))) = presB hs (tellB ts t (at_ + 6)) ks by simp [t0, t1, t2])
        have hd0 : 0 ≤ at_ ∧ at_ ≤ 1000000 := by simpa [tickB] using t1
        obtain ⟨hd4, hd5⟩ := hd0
        have pf0 := k.cell 0; have pfl := k.lt
        go_wp2_with (first | (go_at_call 54; refine (l01Mem_b _ _ _ t0).mono ?_; rintro e w' ⟨rfl, rfl⟩) | (go_at_call 103; refine (l01Tick_b _ _ _ t1).mono ?_; rintro e w' ⟨rfl, rfl⟩) | (go_at_call 80; refine (l05Until_any _ _ _ _ _ _ h.1 (by omega)).mono ?_; rintro e w' ⟨rfl, rfl⟩))
        clear pf0 pfl
        go_at_call 81; refine (l05Own_any _ _ _ _ _ _ _ _ _ _ _ _ _ W k h hn).mono ?_; rintro e W2 ⟨B1, d1, B2, d2, B3, d3, rfl, hO, hb1⟩
        have k := k.below hb1 k.lt; have h := h.to hb1
        have k1l := k1.lt; have k1 := k1.below hb1 k1l
        have zW := hb0.size
        have hb0 := hb0.trans (hb1.mono hb0.size)
        have zW1 := hb1.size
        clear hb1
        obtain ⟨q1, hbx⟩ := one_box W2 31 #[.slice B1 n1 d1, .slice B2 n2 d2, .slice B3 n3 d3]
        have kl := k.lt; have k := k.below hbx kl; have k1 := k1.below hbx k1.lt; have h := h.to hbx
        have l1 := k.cell 1; have kl := k.lt
        have hr := presOkS HTB.out
        have q1l := q1.lt
        go_wp2_with fail
        generalize W2.alloc (.cells #[.slice B1 n1 d1, .slice B2 n2 d2, .slice B3 n3 d3] 31) = X at *
        go_at_call 104; refine (l05Put_any _ _ _ _ _ _ _ h.2.1 hr.2.1 (by omega)).mono ?_; rintro e W3 ⟨A4, m4, c4, rfl, rfl, ho4, hb4⟩
        have q1 := q1.below hb4 q1l; have k1 := k1.below hb4 k1.lt
        have hb3 := hbx.trans (hb4.mono hbx.size)
        have g1 := q1.cell 1; have gf := q1.frozen 1; have gl := q1.lt
        have qY := q1.set_ 1 (.slice A4 (tellB ts t (at_ + 6)).length c4)
        have hY := hb3.setCell (p := ⟨W2.heap.size, 1, none⟩) (Nat.le_refl _) (.slice A4 (tellB ts t (at_ + 6)).length c4)
        have hOY := hO.below hY (Nat.le_refl _)
        have hoY := ownsRow_setCell_below ho4 (a := ⟨W2.heap.size, 1, none⟩) q1l (.slice A4 (tellB ts t (at_ + 6)).length c4)
        have k1 := k1.far (p := ⟨W2.heap.size, 1, none⟩) (by show w.heap.size ≠ W2.heap.size; omega) (.slice A4 (tellB ts t (at_ + 6)).length c4)
        have hb0 := hb0.trans (hY.mono hb0.size)
        have y0 := qY.cell 0; have y1 := qY.cell 1; have y2 := qY.cell 2
        simp at y0 y1 y2
        clear hbx hb4 hb3 hY hO ho4 q1 k h l1 kl
        go_wp2_with fail
        generalize W3.setCell ⟨W2.heap.size, 1, none⟩ (.slice A4 (tellB ts t (at_ + 6)).length c4) = Y at *
        have hP : PresAt Y Y.heap.size _ _ _ _ _ _ _ _ _ := ⟨hOY.at_.1, SRow.of_own_any bnC_len (by omega) hoY, hOY.at_.2.2⟩
        have hlt := tellB_le (xs := ts) (t := t) (m := (at_ + 6)) (Nat.le_refl _)
        obtain ⟨e1, e2, e3⟩ := HLe.out
        have hln := presLenS HTB.out
        have hn7 : n1 + (tellB ts t (at_ + 6)).length + n3 ≤ 1048576 := by omega
        cases tr : presB hs (tellB ts t (at_ + 6)) ks with
        | false =>
          go_at_call 105; refine (l05Give_no _ _ _ _ _ _ _ _ _ _ _ _ _ hP hn7 tr).mono ?_; rintro e w6 ⟨rfl, hb6⟩
          have k1 := k1.below hb6 k1.lt
          have hb0 := hb0.trans (hb6.mono hb0.size)
          have r0 := k1.cell 0; have r1 := k1.cell 1; have r2 := k1.cell 2; have f0 := k1.frozen 0; have f1 := k1.frozen 1; have f2 := k1.frozen 2
          go_wp2
          exact bodyPost_ret (v := .tuple #[.agg #[.slice none 0 0, .slice none 0 0, .slice none 0 0], .bool false]) (by simp [results, Try.results85, go_sem, r0, r1, r2]) rfl (by rw [HC.out, tr]; exact presOutS_no (below_3 hb0 (Nat.le_refl _) _ _ _ _ _ _))
        | true =>
          go_at_call 105; refine (l05Give_yes _ _ _ _ _ _ _ _ _ _ _ _ _ hP hn7 tr).mono ?_; rintro e w6 ⟨rfl, hb6⟩
          have k1 := k1.below hb6 k1.lt
          have hO6 : PresOwnS Y W.heap.size _ _ _ _ _ _ _ _ _ _ _ _ := ⟨World.ownsRow.mono hOY.1 (by omega), World.ownsRow.mono hoY (by omega), World.ownsRow.mono hOY.2.2 (by omega)⟩
          have hO6 := hO6.below hb6 (Nat.le_refl _)
          have hb0 := hb0.trans (hb6.mono hb0.size)
          have r0 := k1.cell 0; have r1 := k1.cell 1; have r2 := k1.cell 2; have f0 := k1.frozen 0; have f1 := k1.frozen 1; have f2 := k1.frozen 2
          go_wp2
          refine bodyPost_ret (v := .tuple #[.agg #[.slice B1 n1 d1, .slice A4 (tellB ts t (at_ + 6)).length c4, .slice B3 n3 d3], .bool true]) (by simp [results, Try.results85, go_sem, r0, r1, r2]) rfl ?_
          rw [HC.out, tr]
          exact ⟨_, _, _, _, _, _, _, _, _, rfl, (hO6.set3 k1l _ _ _ _ _ _).mono zW, below_3 hb0 (Nat.le_refl _) _ _ _ _ _ _, hn7⟩
set_option maxHeartbeats 6400000 in
theorem spec_StartTyping_raw (a1 a2 a3 : Addr) (n1 c1 n2 c2 n3 c3 : Nat) (hs ts ks : List Bn) (t : Int) (at_ : Int) (w : World) (h : PresAt w w.heap.size (some a1) n1 (some a2) n2 (some a3) n3 hs ts ks) (hn : n1 + n2 + n3 ≤ 1048576) :
    Calls Try.prog 40 #[.agg #[.slice (some a1) n1 c1, .slice (some a2) n2 c2, .slice (some a3) n3 c3], .int .i64 t, .int .i64 at_] w fun e w' => PresOutS (giveR (presB hs ts ks && (idB t && (tickB at_ && (liveB hs t at_ && (presB hs (tellB ts t (at_ + 6)) ks))))) ⟨hs, (tellB ts t (at_ + 6)), ks⟩) (presB hs ts ks && (idB t && (tickB at_ && (liveB hs t at_ && (presB hs (tellB ts t (at_ + 6)) ks))))) w e w' := by
  go_enter Try.func40, Try.ntmps40
  go_wp2_with fail
  obtain ⟨k0, k1, hb0⟩ := two_boxes w 31 31 #[.slice (some a1) n1 c1, .slice (some a2) n2 c2, .slice (some a3) n3 c3] #[.slice none 0 0, .slice none 0 0, .slice none 0 0]
  have h := h.to hb0
  generalize ((w.alloc (.cells #[.slice (some a1) n1 c1, .slice (some a2) n2 c2, .slice (some a3) n3 c3] 31)).alloc (.cells #[.slice none 0 0, .slice none 0 0, .slice none 0 0] 31)) = W at *
  cases tb : presB hs ts ks with
  | false =>
    go_at_call 44; refine (l05Is_b _ _ _ _ _ _ _ _ _ _ _ _ _ _ _ k0 h hn tb).mono ?_; rintro e w1 ⟨rfl, hb1⟩
    have k1 := k1.below hb1 k1.lt
    have hb0 := hb0.trans (hb1.mono hb0.size)
    have r0 := k1.cell 0; have r1 := k1.cell 1; have r2 := k1.cell 2; have f0 := k1.frozen 0; have f1 := k1.frozen 1; have f2 := k1.frozen 2
    go_wp2
    exact bodyPost_ret (v := .tuple #[.agg #[.slice none 0 0, .slice none 0 0, .slice none 0 0], .bool false]) (by simp [results, Try.results40, go_sem, r0, r1, r2]) rfl (by rw [tb, Bool.false_and]; exact presOutS_no (below_3 hb0 (Nat.le_succ _) _ _ _ _ _ _))
  | true =>
    go_at_call 44; refine (l05Is_b _ _ _ _ _ _ _ _ _ _ _ _ _ _ _ k0 h hn tb).mono ?_; rintro e w1 ⟨rfl, hb1⟩
    have k0 := k0.below hb1 k0.lt; have k1l := k1.lt; have k1 := k1.below hb1 k1l; have h := h.to hb1
    have zW := hb0.size
    have zW1 := hb1.size
    have hb0 := hb0.trans (hb1.mono hb0.size)
    clear hb1
    go_wp2_with fail
    go_at_call 85; refine (l05Type_any _ _ _ _ _ _ _ _ _ _ _ _ _ _ _ _ k0 h hn tb).mono ?_; rintro e w2 ⟨B1, m1, d1, B2, m2, d2, B3, m3, d3, rfl, hO, hb2, hn2⟩
    have k1 := k1.below hb2 k1.lt
    have hb0 := hb0.trans (hb2.mono hb0.size)
    have r0 := k1.cell 0; have r1 := k1.cell 1; have r2 := k1.cell 2; have f0 := k1.frozen 0; have f1 := k1.frozen 1; have f2 := k1.frozen 2
    go_wp2
    exact bodyPost_ret (v := .tuple #[.agg #[.slice B1 m1 d1, .slice B2 m2 d2, .slice B3 m3 d3], .bool (idB t && (tickB at_ && (liveB hs t at_ && (presB hs (tellB ts t (at_ + 6)) ks))))]) (by simp [results, Try.results40, go_sem, r0, r1, r2]) rfl (by rw [tb, Bool.true_and]; exact ⟨_, _, _, _, _, _, _, _, _, rfl, (hO.set3 (by show w.heap.size + 1 < w1.heap.size; omega) _ _ _ _ _ _).mono (by omega), below_3 hb0 (Nat.le_succ _) _ _ _ _ _ _, hn2⟩)
theorem spec_StartTyping_any (a1 a2 a3 : Addr) (n1 c1 n2 c2 n3 c3 : Nat) (hs ts ks : List Bn) (t : Int) (at_ : Int) (w : World) (h : PresAt w w.heap.size (some a1) n1 (some a2) n2 (some a3) n3 hs ts ks) (hn : n1 + n2 + n3 ≤ 1048576) :
    Calls Try.prog 40 #[.agg #[.slice (some a1) n1 c1, .slice (some a2) n2 c2, .slice (some a3) n3 c3], .int .i64 t, .int .i64 at_] w fun e w' => PresOutS (giveR (okR hs ts ks (tickB at_ && liveB hs t at_) ⟨hs, (tellB ts t (at_ + 6)), ks⟩) ⟨hs, (tellB ts t (at_ + 6)), ks⟩) (okR hs ts ks (tickB at_ && liveB hs t at_) ⟨hs, (tellB ts t (at_ + 6)), ks⟩) w e w' := by
  rw [← type_ok]
  exact spec_StartTyping_raw _ _ _ _ _ _ _ _ _ _ _ _ _ _ w h hn
end Go.Proofs.Ytgomffcdoglbfaa
