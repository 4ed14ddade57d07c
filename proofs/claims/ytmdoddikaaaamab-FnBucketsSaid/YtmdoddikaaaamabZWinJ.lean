import Derived.Test.YtmdoddikaaaamabChecked
import Derived.WalkKit
import Derived.ProofKit
import Derived.OpenShut
import Derived.ShutString
import Derived.ChangeOld
import Derived.Below
import Derived.Lib.Hide
import Derived.Deep.QuietTactic
import Derived.BigQuiet
import Derived.Shelf.Abstract
import Derived.Test.YtmdoddikaaaamabZWinI
import Derived.Test.YtmdoddikaaaamabZBktV
namespace Go.Proofs.Ytmdoddikaaaamab
open Go.ChangeShapes Go.WideShapes Go.ChangeAt Go.RowKit
open Go.ChangeMaps (open_string shut_string)
set_option linter.unusedVariables false
set_option maxRecDepth 100000
theorem runW_len (win : Int) (m : Nat) (xs : List Int) (k : Nat) (hk : k ≤ xs.length) : (runG (stW win m) [] (xs.take k)).2.length ≤ k := by
  rw [runW_kept win m xs k hk]
  exact Nat.le_trans (kept_len _ _) (by simp; omega)
structure PreW (P : List Int) (t : Int) : Prop where
  h1 : 0 ≤ t ∧ t ≤ 1000000
  h2 : P.length ≤ 1000
theorem runCallsW_any (gp gm gw m : Nat) (win : Int) (B0 : Nat) (A : Option Addr) (n c : Nat) (xs : List Int) (w : World) (h : Row i64v w B0 A n xs) (hB0 : B0 ≤ w.heap.size) (hg : B0 ≤ gp) (hn : n ≤ 1048576)
    (k1 : Blk w gp 31 #[.slice none 0 0]) (k2 : Blk w gm 2 #[.int .i64 (m : Int)]) (k3 : Blk w gw 2 #[.int .i64 win]) (hw : 1 ≤ win ∧ win ≤ 1000000) (hm : 1 ≤ m ∧ m ≤ 256) (hne1 : gp ≠ gm) (hne2 : gp ≠ gw) :
    Calls Try.prog 115 #[.slice A n c, .func (.func 118) #[] #[.pointer (some ⟨gp, 0, none⟩), .pointer (some ⟨gm, 0, none⟩), .pointer (some ⟨gw, 0, none⟩)]] w (RunOut (ticksB xs) (runG (stW win m) [] xs).1 w.heap.size (fun w' => Below B0 w w' ∧ True ∧ w.heap.size ≤ w'.heap.size)) := by
  have lp := k1.lt; have lm := k2.lt; have lw := k3.lt
  have hI0 : WinAt w.heap.size gp gm gw m win [] w := ⟨none, 0, k1, World.ownsRow_nil _ _ _ _, k2, k3⟩
  have base := runCalls_any 118 #[.pointer (some ⟨gp, 0, none⟩), .pointer (some ⟨gm, 0, none⟩), .pointer (some ⟨gw, 0, none⟩)] (enters_of Try.func118 (by kernel_rfl) rfl) (stW win m) PreW (fun P W => WinAt w.heap.size gp gm gw m win P W) [] B0 A n c xs w h hB0 hn hI0
    (fun P t W hI hp hW => (RunWindow1_any w.heap.size gp gm gw m win P t W hI lp lm lw hne1 hne2 hW hp.h1 hw hm hp.h2).mono fun e W' ⟨he, hk, hb, hr, hs⟩ => ⟨he, hk, hb.mono hg, hr⟩)
    (fun P W W' bs v q ys hI hbs ho hgr => hI.keep hgr (far_ne ho (Nat.lt_of_lt_of_le lp hbs)) (fun A c o => own_typesC o ho (by decide)) (far_ne ho (Nat.lt_of_lt_of_le lm hbs)) (far_ne ho (Nat.lt_of_lt_of_le lw hbs)))
    (fun P W W' hI hbl => hI.below hbl)
    (fun ht k t hk => by
      have h1 := ht
      unfold ticksB rowG at h1
      obtain ⟨h2, h3⟩ := and_both h1
      have hkl : k < xs.length := (List.getElem?_eq_some_iff.1 hk).1
      have h4 : xs.length ≤ 256 := by simpa using h2
      have h5 := chG_ticks xs none h3 t (List.mem_of_getElem? hk)
      have h6 := runW_len win m xs k (by omega)
      exact ⟨by simpa [tickB] using h5, by omega⟩)
  refine base.mono fun e w' ⟨A', n', c', zs, he, hz, ho, h1, _, h3⟩ => ⟨A', n', c', zs, he, hz, ho, h1, trivial, h3⟩
/-- bools in memory of the answer's own, and whether they are told -/
def WinOut (r : Bool) (l : List Bool) (w : World) (e : Ending) (w' : World) : Prop :=
  ∃ A n c zs, e = .returned (.tuple #[.slice A n c, .bool r]) ∧ zs = (if r = true then l else []) ∧ w'.ownsRow w.heap.size 4 1 (.slice A n c) n (zs.map boolv) ∧ Below w.heap.size w w'
theorem winOut_no {l : List Bool} {w w' : World} (h : Below w.heap.size w w') : WinOut false l w (.returned (.tuple #[.slice none 0 0, .bool false])) w' :=
  ⟨none, 0, 0, [], rfl, rfl, World.ownsRow_nil _ _ _ _, h⟩
theorem okWin_no {xs : List Int} {win most : Int} (h : winB win most = false) : okWin xs win most = false := by simp [okWin, h]
theorem winB_parts {win most : Int} (h : winB win most = true) : (1 ≤ win ∧ win ≤ 1000000) ∧ 1 ≤ most ∧ most ≤ 256 := by
  simp [winB, spanB] at h
  omega
set_option maxHeartbeats 3200000 in
theorem impl_RunWindow_any (A : Option Addr) (n c : Nat) (xs : List Int) (win most : Int) (w : World) (h : Row i64v w w.heap.size A n xs) (hn : n ≤ 1048576) :
    Calls Try.prog 55 #[.slice A n c, .int .i64 win, .int .i64 most] w (WinOut (okWin xs win most) (runG (stW win most.toNat) [] xs).1 w) := by
  cases ts : spanB win with
  | false =>
    have E := Lib.hid (okWin_no (xs := xs) (show winB win most = false by unfold winB; rw [ts]; rfl))
    go_enter Try.func55, Try.ntmps55
    go_wp2_with fail
    obtain ⟨k3, k2, hb⟩ := two_boxes w 2 2 #[.int .i64 win] #[.int .i64 most]
    generalize (w.alloc (.cells #[.int .i64 win] 2)).alloc (.cells #[.int .i64 most] 2) = W at *
    go_at_call 117; refine (isSpan_b _ _ _ ts).mono ?_; rintro e w1 ⟨rfl, rfl⟩
    have a2 := k2.cell 0; have a3 := k3.cell 0; have l2 := k2.lt; have l3 := k3.lt; have hsz := hb.size
    go_wp2
    refine bodyPost_ret (v := .tuple #[.slice none 0 0, .bool false]) (by simp [results, Try.results55, go_sem]) rfl ?_
    rw [E.out]
    exact winOut_no hb
  | true =>
    by_cases h1 : most < 1
    · have h1' : decide (most < 1) = true := decide_eq_true h1
      have E := Lib.hid (okWin_no (xs := xs) (show winB win most = false by unfold winB; rw [decide_eq_false (show ¬ 1 ≤ most by omega)]; simp))
      go_enter Try.func55, Try.ntmps55
      go_wp2_with fail
      obtain ⟨k3, k2, hb⟩ := two_boxes w 2 2 #[.int .i64 win] #[.int .i64 most]
      generalize (w.alloc (.cells #[.int .i64 win] 2)).alloc (.cells #[.int .i64 most] 2) = W at *
      go_at_call 117; refine (isSpan_b _ _ _ ts).mono ?_; rintro e w1 ⟨rfl, rfl⟩
      have a2 := k2.cell 0; have a3 := k3.cell 0; have l2 := k2.lt; have l3 := k3.lt; have hsz := hb.size
      go_wp2
      refine bodyPost_ret (v := .tuple #[.slice none 0 0, .bool false]) (by simp [results, Try.results55, go_sem]) rfl ?_
      rw [E.out]
      exact winOut_no hb
    · have h1' : decide (most < 1) = false := decide_eq_false h1
      by_cases h2 : 256 < most
      · have h2' : decide (256 < most) = true := decide_eq_true h2
        have E := Lib.hid (okWin_no (xs := xs) (show winB win most = false by unfold winB; rw [decide_eq_false (show ¬ most ≤ 256 by omega)]; simp))
        go_enter Try.func55, Try.ntmps55
        go_wp2_with fail
        obtain ⟨k3, k2, hb⟩ := two_boxes w 2 2 #[.int .i64 win] #[.int .i64 most]
        generalize (w.alloc (.cells #[.int .i64 win] 2)).alloc (.cells #[.int .i64 most] 2) = W at *
        go_at_call 117; refine (isSpan_b _ _ _ ts).mono ?_; rintro e w1 ⟨rfl, rfl⟩
        have a2 := k2.cell 0; have a3 := k3.cell 0; have l2 := k2.lt; have l3 := k3.lt; have hsz := hb.size
        go_wp2
        refine bodyPost_ret (v := .tuple #[.slice none 0 0, .bool false]) (by simp [results, Try.results55, go_sem]) rfl ?_
        rw [E.out]
        exact winOut_no hb
      · have h2' : decide (256 < most) = false := decide_eq_false h2
        have HW := Lib.hid (show winB win most = true by unfold winB; rw [ts, decide_eq_true (show 1 ≤ most by omega), decide_eq_true (show most ≤ 256 by omega)]; rfl)
        obtain ⟨m, rfl⟩ : ∃ m : Nat, most = (m : Int) := ⟨most.toNat, by omega⟩
        have HT := Lib.hid (show (m : Int).toNat = m by omega)
        go_enter Try.func55, Try.ntmps55
        go_wp2_with fail
        obtain ⟨k3, k2, hb⟩ := two_boxes w 2 2 #[.int .i64 win] #[.int .i64 (m : Int)]
        generalize (w.alloc (.cells #[.int .i64 win] 2)).alloc (.cells #[.int .i64 (m : Int)] 2) = W at *
        go_at_call 117; refine (isSpan_b _ _ _ ts).mono ?_; rintro e w1 ⟨rfl, rfl⟩
        have a2 := k2.cell 0; have a3 := k3.cell 0; have l2 := k2.lt; have l3 := k3.lt; have hsz := hb.size
        go_wp2_with fail
        have k1 := Blk.new W 31 #[.slice none 0 0]
        have hbn := (Below.refl W.heap.size W).alloc (Nat.le_refl _) (.cells #[.slice none 0 0] 31)
        have k2 := k2.below hbn k2.lt; have k3 := k3.below hbn k3.lt; have hb := hb.trans (hbn.mono hb.size)
        have hW : w.heap.size + 1 < W.heap.size := l2
        generalize hV : W.alloc (.cells #[.slice none 0 0] 31) = V at *
        have hgp : ∃ z, W.heap.size = z := ⟨_, rfl⟩; obtain ⟨gp, hgp⟩ := hgp
        rw [hgp] at k1 hW ⊢
        have hq := winB_parts HW.out
        have HCC := Lib.hid (runCallsW_any gp (w.heap.size + 1) w.heap.size m win w.heap.size A n c xs V (h.below hb) hb.size (by omega) hn k1 k2 k3 hq.1 (by omega) (by omega) (by omega))
        clear a2 a3 l2 l3 hsz hq hbn
        go_at_call 115; refine HCC.out.mono ?_; rintro e W9 ⟨A9, n9, c9, zs, rfl, hzs, how, hb9, _, hs9⟩
        have HO := Lib.hid (World.ownsRow.mono how hb.size); have HZ := Lib.hid hzs; have HB := Lib.hid (hb.trans hb9)
        clear how hzs hb9 hb k1 k2 k3
        go_wp2
        refine bodyPost_ret (v := .tuple #[.slice A9 n9 c9, .bool (ticksB xs)]) (by simp [results, Try.results55, go_sem]) rfl ?_
        exact ⟨A9, n9, c9, zs, by unfold okWin; rw [HW.out, Bool.and_true], by unfold okWin; rw [HW.out, Bool.and_true, HT.out]; exact HZ.out, HO.out, HB.out⟩
end Go.Proofs.Ytmdoddikaaaamab
