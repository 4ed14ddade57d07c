import Derived.Test.YtgomffcdoglbfaaChecked
import Derived.WalkKit
import Derived.ProofKit
import Derived.OpenShut
import Derived.ShutString
import Derived.ChangeOld
import Derived.Below
import Derived.Lib.Hide
import Derived.Test.YtgomffcdoglbfaaZPresO
import Derived.Test.YtgomffcdoglbfaaJp
import Derived.Test.YtgomffcdoglbfaaZListE
namespace Go.Proofs.Ytgomffcdoglbfaa
open Go.ChangeShapes Go.WideShapes Go.ChangeAt Go.RowKit
open Go.ChangeMaps (open_string shut_string)
set_option linter.unusedVariables false
set_option maxRecDepth 100000
set_option maxHeartbeats 6400000 in
theorem l05Beat_any (G : Nat) (a1 a2 a3 : Addr) (n1 c1 n2 c2 n3 c3 : Nat) (hs ts ks : List Bn) (t : Int) (at_ : Int) (d : Int) (w : World) (k : Blk w G 31 #[.slice (some a1) n1 c1, .slice (some a2) n2 c2, .slice (some a3) n3 c3]) (h : PresAt w w.heap.size (some a1) n1 (some a2) n2 (some a3) n3 hs ts ks) (hn : n1 + n2 + n3 ≤ 1048576) (tb : presB hs ts ks = true) :
    Calls Try.prog 71 #[.pointer (some ⟨G, 0, none⟩), .int .i64 t, .int .i64 at_, .int .i64 d] w fun e w' => PresOutS (giveR (idB t && (tickB at_ && (durB d && (presB (tellB hs t (at_ + d)) ts ks)))) ⟨(tellB hs t (at_ + d)), ts, ks⟩) (idB t && (tickB at_ && (durB d && (presB (tellB hs t (at_ + d)) ts ks)))) w e w' := by
  have HTB := Lib.hid tb
  have HLe := Lib.hid (And.intro h.1.1 (And.intro h.2.1.1 h.2.2.1))
  have hGw := k.lt
  go_enter Try.func71, Try.ntmps71
  go_wp2_with fail
  obtain ⟨k1, hb0⟩ := one_box w 31 #[.slice none 0 0, .slice none 0 0, .slice none 0 0]
  have k := k.below hb0 hGw
  have h := h.to hb0
  generalize w.alloc (.cells #[.slice none 0 0, .slice none 0 0, .slice none 0 0] 31) = W at *
  clear tb
  cases t0 : idB t with
  | false =>
    have r0 := k1.cell 0; have r1 := k1.cell 1; have r2 := k1.cell 2; have f0 := k1.frozen 0; have f1 := k1.frozen 1; have f2 := k1.frozen 2
    go_wp2_with (first | (go_at_call 54; refine (l01Mem_b _ _ _ t0).mono ?_; rintro e w' ⟨rfl, rfl⟩))
    exact bodyPost_ret (v := .tuple #[.agg #[.slice none 0 0, .slice none 0 0, .slice none 0 0], .bool false]) (by simp [results, Try.results71, go_sem, r0, r1, r2]) rfl (by rw [show (idB t && (tickB at_ && (durB d && (presB (tellB hs t (at_ + d)) ts ks)))) = false by simp [t0]]; exact presOutS_no (below_3 hb0 (Nat.le_refl _) _ _ _ _ _ _))
  | true =>
    cases t1 : tickB at_ with
    | false =>
      have r0 := k1.cell 0; have r1 := k1.cell 1; have r2 := k1.cell 2; have f0 := k1.frozen 0; have f1 := k1.frozen 1; have f2 := k1.frozen 2
      go_wp2_with (first | (go_at_call 54; refine (l01Mem_b _ _ _ t0).mono ?_; rintro e w' ⟨rfl, rfl⟩) | (go_at_call 103; refine (l01Tick_b _ _ _ t1).mono ?_; rintro e w' ⟨rfl, rfl⟩))
      exact bodyPost_ret (v := .tuple #[.agg #[.slice none 0 0, .slice none 0 0, .slice none 0 0], .bool false]) (by simp [results, Try.results71, go_sem, r0, r1, r2]) rfl (by rw [show (idB t && (tickB at_ && (durB d && (presB (tellB hs t (at_ + d)) ts ks)))) = false by simp [t0, t1]]; exact presOutS_no (below_3 hb0 (Nat.le_refl _) _ _ _ _ _ _))
    | true =>
      cases t2 : durB d with
      | false =>
        have t2' : decide (1 ≤ d ∧ d ≤ 1000) = false := t2
        have r0 := k1.cell 0; have r1 := k1.cell 1; have r2 := k1.cell 2; have f0 := k1.frozen 0; have f1 := k1.frozen 1; have f2 := k1.frozen 2
        go_wp2_with (first | (go_at_call 54; refine (l01Mem_b _ _ _ t0).mono ?_; rintro e w' ⟨rfl, rfl⟩) | (go_at_call 103; refine (l01Tick_b _ _ _ t1).mono ?_; rintro e w' ⟨rfl, rfl⟩) | (go_at_call 58; refine (l00In_b _ _ _ _ _ t2').mono ?_; rintro e w' ⟨rfl, rfl⟩))
        exact bodyPost_ret (v := .tuple #[.agg #[.slice none 0 0, .slice none 0 0, .slice none 0 0], .bool false]) (by simp [results, Try.results71, go_sem, r0, r1, r2]) rfl (by rw [show (idB t && (tickB at_ && (durB d && (presB (tellB hs t (at_ + d)) ts ks)))) = false by simp [t0, t1, t2]]; exact presOutS_no (below_3 hb0 (Nat.le_refl _) _ _ _ _ _ _))
      | true =>
        have t2' : decide (1 ≤ d ∧ d ≤ 1000) = true := t2
        have HC := Lib.hid (show (idB t && (tickB at_ && (durB d && (presB (tellB hs t (at_ + d)) ts ks)))) = presB (tellB hs t (at_ + d)) ts ks by simp [t0, t1, t2])
        have hd1 : 1 ≤ d ∧ d ≤ 1000 := of_decide_eq_true t2
        have hd0 : 0 ≤ at_ ∧ at_ ≤ 1000000 := by simpa [tickB] using t1
        obtain ⟨hd2, hd3⟩ := hd1
        obtain ⟨hd4, hd5⟩ := hd0
        go_wp2_with (first | (go_at_call 54; refine (l01Mem_b _ _ _ t0).mono ?_; rintro e w' ⟨rfl, rfl⟩) | (go_at_call 103; refine (l01Tick_b _ _ _ t1).mono ?_; rintro e w' ⟨rfl, rfl⟩) | (go_at_call 58; refine (l00In_b _ _ _ _ _ t2').mono ?_; rintro e w' ⟨rfl, rfl⟩))
        go_at_call 81; refine (l05Own_any _ _ _ _ _ _ _ _ _ _ _ _ _ W k h hn).mono ?_; rintro e W2 ⟨B1, d1, B2, d2, B3, d3, rfl, hO, hb1⟩
        have k := k.below hb1 k.lt; have h := h.to hb1
        have k1l := k1.lt; have k1 := k1.below hb1 k1l
        have zW := hb0.size
        have hb0 := hb0.trans (hb1.mono hb0.size)
        have zW1 := hb1.size
        clear hb1
        obtain ⟨q1, hbx⟩ := one_box W2 31 #[.slice B1 n1 d1, .slice B2 n2 d2, .slice B3 n3 d3]
        have kl := k.lt; have k := k.below hbx kl; have k1 := k1.below hbx k1.lt; have h := h.to hbx
        have l0 := k.cell 0; have kl := k.lt
        have hr := presOkS HTB.out
        have q1l := q1.lt
        go_wp2_with fail
        generalize W2.alloc (.cells #[.slice B1 n1 d1, .slice B2 n2 d2, .slice B3 n3 d3] 31) = X at *
        go_at_call 104; refine (l05Put_any _ _ _ _ _ _ _ h.1 hr.1 (by omega)).mono ?_; rintro e W3 ⟨A4, m4, c4, rfl, rfl, ho4, hb4⟩
        have q1 := q1.below hb4 q1l; have k1 := k1.below hb4 k1.lt
        have hb3 := hbx.trans (hb4.mono hbx.size)
        have g0 := q1.cell 0; have gf := q1.frozen 0; have gl := q1.lt
        have qY := q1.set_ 0 (.slice A4 (tellB hs t (at_ + d)).length c4)
        have hY := hb3.setCell (p := ⟨W2.heap.size, 0, none⟩) (Nat.le_refl _) (.slice A4 (tellB hs t (at_ + d)).length c4)
        have hOY := hO.below hY (Nat.le_refl _)
        have hoY := ownsRow_setCell_below ho4 (a := ⟨W2.heap.size, 0, none⟩) q1l (.slice A4 (tellB hs t (at_ + d)).length c4)
        have k1 := k1.far (p := ⟨W2.heap.size, 0, none⟩) (by show w.heap.size ≠ W2.heap.size; omega) (.slice A4 (tellB hs t (at_ + d)).length c4)
        have hb0 := hb0.trans (hY.mono hb0.size)
        have y0 := qY.cell 0; have y1 := qY.cell 1; have y2 := qY.cell 2
        simp at y0 y1 y2
        clear hbx hb4 hb3 hY hO ho4 q1 k h l0 kl
        go_wp2_with fail
        generalize W3.setCell ⟨W2.heap.size, 0, none⟩ (.slice A4 (tellB hs t (at_ + d)).length c4) = Y at *
        have hP : PresAt Y Y.heap.size _ _ _ _ _ _ _ _ _ := ⟨SRow.of_own_any bnC_len (by omega) hoY, hOY.at_.2.1, hOY.at_.2.2⟩
        have hlt := tellB_le (xs := hs) (t := t) (m := (at_ + d)) (Nat.le_refl _)
        obtain ⟨e1, e2, e3⟩ := HLe.out
        have hln := presLenS HTB.out
        have hn7 : (tellB hs t (at_ + d)).length + n2 + n3 ≤ 1048576 := by omega
        cases tr : presB (tellB hs t (at_ + d)) ts ks with
        | false =>
          go_at_call 105; refine (l05Give_no _ _ _ _ _ _ _ _ _ _ _ _ _ hP hn7 tr).mono ?_; rintro e w6 ⟨rfl, hb6⟩
          have k1 := k1.below hb6 k1.lt
          have hb0 := hb0.trans (hb6.mono hb0.size)
          have r0 := k1.cell 0; have r1 := k1.cell 1; have r2 := k1.cell 2; have f0 := k1.frozen 0; have f1 := k1.frozen 1; have f2 := k1.frozen 2
          go_wp2
          exact bodyPost_ret (v := .tuple #[.agg #[.slice none 0 0, .slice none 0 0, .slice none 0 0], .bool false]) (by simp [results, Try.results71, go_sem, r0, r1, r2]) rfl (by rw [HC.out, tr]; exact presOutS_no (below_3 hb0 (Nat.le_refl _) _ _ _ _ _ _))
        | true =>
          go_at_call 105; refine (l05Give_yes _ _ _ _ _ _ _ _ _ _ _ _ _ hP hn7 tr).mono ?_; rintro e w6 ⟨rfl, hb6⟩
          have k1 := k1.below hb6 k1.lt
          have hO6 : PresOwnS Y W.heap.size _ _ _ _ _ _ _ _ _ _ _ _ := ⟨World.ownsRow.mono hoY (by omega), World.ownsRow.mono hOY.2.1 (by omega), World.ownsRow.mono hOY.2.2 (by omega)⟩
          have hO6 := hO6.below hb6 (Nat.le_refl _)
          have hb0 := hb0.trans (hb6.mono hb0.size)
          have r0 := k1.cell 0; have r1 := k1.cell 1; have r2 := k1.cell 2; have f0 := k1.frozen 0; have f1 := k1.frozen 1; have f2 := k1.frozen 2
          go_wp2
          refine bodyPost_ret (v := .tuple #[.agg #[.slice A4 (tellB hs t (at_ + d)).length c4, .slice B2 n2 d2, .slice B3 n3 d3], .bool true]) (by simp [results, Try.results71, go_sem, r0, r1, r2]) rfl ?_
          rw [HC.out, tr]
          exact ⟨_, _, _, _, _, _, _, _, _, rfl, (hO6.set3 k1l _ _ _ _ _ _).mono zW, below_3 hb0 (Nat.le_refl _) _ _ _ _ _ _, hn7⟩
set_option maxHeartbeats 6400000 in
theorem spec_Heartbeat_raw (a1 a2 a3 : Addr) (n1 c1 n2 c2 n3 c3 : Nat) (hs ts ks : List Bn) (t : Int) (at_ : Int) (d : Int) (w : World) (h : PresAt w w.heap.size (some a1) n1 (some a2) n2 (some a3) n3 hs ts ks) (hn : n1 + n2 + n3 ≤ 1048576) :
    Calls Try.prog 33 #[.agg #[.slice (some a1) n1 c1, .slice (some a2) n2 c2, .slice (some a3) n3 c3], .int .i64 t, .int .i64 at_, .int .i64 d] w fun e w' => PresOutS (giveR (presB hs ts ks && (idB t && (tickB at_ && (durB d && (presB (tellB hs t (at_ + d)) ts ks))))) ⟨(tellB hs t (at_ + d)), ts, ks⟩) (presB hs ts ks && (idB t && (tickB at_ && (durB d && (presB (tellB hs t (at_ + d)) ts ks))))) w e w' := by
  go_enter Try.func33, Try.ntmps33
  go_wp2_with fail
  obtain ⟨k0, k1, hb0⟩ := two_boxes w 31 31 #[.slice (some a1) n1 c1, .slice (some a2) n2 c2, .slice (some a3) n3 c3] #[.slice none 0 0, .slice none 0 0, .slice none 0 0]
  have h := h.to hb0
  generalize ((w.alloc (.cells #[.slice (some a1) n1 c1, .slice (some a2) n2 c2, .slice (some a3) n3 c3] 31)).alloc (.cells #[.slice none 0 0, .slice none 0 0, .slice none 0 0] 31)) = W at *
  cases tb : presB hs ts ks with
  | false =>
    go_at_call 44; refine (l05Is_b _ _ _ _ _ _ _ _ _ _ _ _ _ _ _ k0 h hn tb).mono ?_; rintro e w1 ⟨rfl, hb1⟩
    have k1 := k1.below hb1 k1.lt
    have hb0 := hb0.trans (hb1.mono hb0.size)
    have r0 := k1.cell 0; have r1 := k1.cell 1; have r2 := k1.cell 2; have f0 := k1.frozen 0; have f1 := k1.frozen 1; have f2 := k1.frozen 2
    go_wp2
    exact bodyPost_ret (v := .tuple #[.agg #[.slice none 0 0, .slice none 0 0, .slice none 0 0], .bool false]) (by simp [results, Try.results33, go_sem, r0, r1, r2]) rfl (by rw [tb, Bool.false_and]; exact presOutS_no (below_3 hb0 (Nat.le_succ _) _ _ _ _ _ _))
  | true =>
    go_at_call 44; refine (l05Is_b _ _ _ _ _ _ _ _ _ _ _ _ _ _ _ k0 h hn tb).mono ?_; rintro e w1 ⟨rfl, hb1⟩
    have k0 := k0.below hb1 k0.lt; have k1l := k1.lt; have k1 := k1.below hb1 k1l; have h := h.to hb1
    have zW := hb0.size
    have zW1 := hb1.size
    have hb0 := hb0.trans (hb1.mono hb0.size)
    clear hb1
    go_wp2_with fail
    go_at_call 71; refine (l05Beat_any _ _ _ _ _ _ _ _ _ _ _ _ _ _ _ _ _ k0 h hn tb).mono ?_; rintro e w2 ⟨B1, m1, d1, B2, m2, d2, B3, m3, d3, rfl, hO, hb2, hn2⟩
    have k1 := k1.below hb2 k1.lt
    have hb0 := hb0.trans (hb2.mono hb0.size)
    have r0 := k1.cell 0; have r1 := k1.cell 1; have r2 := k1.cell 2; have f0 := k1.frozen 0; have f1 := k1.frozen 1; have f2 := k1.frozen 2
    go_wp2
    exact bodyPost_ret (v := .tuple #[.agg #[.slice B1 m1 d1, .slice B2 m2 d2, .slice B3 m3 d3], .bool (idB t && (tickB at_ && (durB d && (presB (tellB hs t (at_ + d)) ts ks))))]) (by simp [results, Try.results33, go_sem, r0, r1, r2]) rfl (by rw [tb, Bool.true_and]; exact ⟨_, _, _, _, _, _, _, _, _, rfl, (hO.set3 (by show w.heap.size + 1 < w1.heap.size; omega) _ _ _ _ _ _).mono (by omega), below_3 hb0 (Nat.le_succ _) _ _ _ _ _ _, hn2⟩)
theorem spec_Heartbeat_any (a1 a2 a3 : Addr) (n1 c1 n2 c2 n3 c3 : Nat) (hs ts ks : List Bn) (t : Int) (at_ : Int) (d : Int) (w : World) (h : PresAt w w.heap.size (some a1) n1 (some a2) n2 (some a3) n3 hs ts ks) (hn : n1 + n2 + n3 ≤ 1048576) :
    Calls Try.prog 33 #[.agg #[.slice (some a1) n1 c1, .slice (some a2) n2 c2, .slice (some a3) n3 c3], .int .i64 t, .int .i64 at_, .int .i64 d] w fun e w' => PresOutS (giveR (okR hs ts ks (tickB at_ && durB d) ⟨(tellB hs t (at_ + d)), ts, ks⟩) ⟨(tellB hs t (at_ + d)), ts, ks⟩) (okR hs ts ks (tickB at_ && durB d) ⟨(tellB hs t (at_ + d)), ts, ks⟩) w e w' := by
  rw [← beat_ok]
  exact spec_Heartbeat_raw _ _ _ _ _ _ _ _ _ _ _ _ _ _ _ w h hn
end Go.Proofs.Ytgomffcdoglbfaa
