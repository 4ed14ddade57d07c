import Derived.Test.YteeodjbionjlmaaChecked
import Derived.WalkKit
import Derived.ProofKit
import Derived.OpenShut
import Derived.ShutString
import Derived.ChangeOld
import Derived.Below
import Derived.Lib.Hide
import Derived.Shelf.Abstract
import Derived.OwnWalkIn
import Derived.TacticsInMore
import Derived.LoopNIn
import Derived.LoopIn
import Derived.RangeFuncBox
import Derived.RangeFuncNested
import Derived.RangeFuncLeaves
import Derived.RangeFuncBound
import Derived.RangeFuncCalls
import Derived.Maps.AppendAt
import Derived.Test.YteeodjbionjlmaaZPntS
import Derived.Test.YteeodjbionjlmaaZHitI
import Derived.Test.YteeodjbionjlmaaZQryI
import Derived.Test.YteeodjbionjlmaaZQryS
import Derived.Test.YteeodjbionjlmaaZSnpS
import Derived.Test.YteeodjbionjlmaaJyg
import Derived.Test.YteeodjbionjlmaaZMsgV
import Derived.Test.YteeodjbionjlmaaZSoundC
namespace Go.Proofs.Yteeodjbionjlmaa
open Go.ChangeShapes Go.WideShapes Go.ChangeAt Go.RowKit
open Go.ChangeMaps (open_string shut_string)
set_option linter.unusedVariables false
set_option maxRecDepth 100000
attribute [local go_sem] Oper.semAt_some
def pntC (xs : List ByteArray) (m : Mg) (t : Int) : Prop := (msgB m = true ∧ queryB xs = true) ∧ m.tick ≤ t ∧ t ≤ 1000000
instance (xs : List ByteArray) (m : Mg) (t : Int) : Decidable (pntC xs m t) := by unfold pntC; infer_instance
def pntM (xs : List ByteArray) (m : Mg) (t : Int) : Int × Bool := if pntC xs m t then (pntsR m (hitsL xs m.text).length t, true) else (0, false)
theorem msg_parts {m : Mg} (h : msgB m = true) : 0 ≤ m.tick ∧ textB m.text = true ∧ m.likes.length ≤ 20 := by
  unfold msgB likesB tickB at h
  simp only [Bool.and_eq_true, decide_eq_true_eq] at h
  exact ⟨h.2.2.1.1, h.2.2.2.1, h.2.2.2.2.2.2.1.1⟩
theorem ret_pnt {p : Int × Bool} {v : Int} {b : Bool} (h : p = (v, b)) : Ending.returned (.tuple #[.int .i64 v, .bool b]) = .returned (.tuple #[.int .i64 p.1, .bool p.2]) := by rw [h]
abbrev rmA (r : Rm) : Value := .agg #[.int .i64 r.m.num, .int .i64 r.m.sdr, .int .i64 r.m.tick, .string r.m.text, .int .i64 r.m.edits, .bool r.m.gone, .int .i64 r.m.reply, .slice r.la r.ln r.lc]
theorem spec_Message_r (r : Rm) (b : Bool) (w : World) (h : Row i64v w w.heap.size r.la r.ln r.m.likes) (hn : r.ln ≤ 1048576) (ht : r.m.text.size ≤ 1048576) (hb : msgB r.m = b) :
    Calls Try.prog 83 #[.agg #[.int .i64 r.m.num, .int .i64 r.m.sdr, .int .i64 r.m.tick, .string r.m.text, .int .i64 r.m.edits, .bool r.m.gone, .int .i64 r.m.reply, .slice r.la r.ln r.lc]] w fun e w' => e = .returned (.bool b) ∧ Below w.heap.size w w' := by
  subst hb; exact spec_ValidMessage_any r w h hn ht
theorem impl_Message_r (r : Rm) (b : Bool) (w : World) (h : Row i64v w w.heap.size r.la r.ln r.m.likes) (hn : r.ln ≤ 1048576) (ht : r.m.text.size ≤ 1048576) (hb : msgB r.m = b) :
    Calls Try.prog 85 #[.agg #[.int .i64 r.m.num, .int .i64 r.m.sdr, .int .i64 r.m.tick, .string r.m.text, .int .i64 r.m.edits, .bool r.m.gone, .int .i64 r.m.reply, .slice r.la r.ln r.lc]] w fun e w' => e = .returned (.bool b) ∧ Below w.heap.size w w' := by
  subst hb; exact impl_ValidMessage_any r w h hn ht
set_option maxHeartbeats 3200000 in
theorem spec_PointsFor_any (r : Rm) (A : Option Addr) (n c : Nat) (xs : List ByteArray) (t : Int) (w : World) (h0 : Row i64v w w.heap.size r.la r.ln r.m.likes) (hln : r.ln ≤ 1048576) (htx : r.m.text.size ≤ 1048576)
    (h : Row strv w w.heap.size A n xs) (hn : n ≤ 1048576) (hsz : ∀ s ∈ xs, s.size ≤ maxLen) :
    Calls Try.prog 33 #[rmA r, .slice A n c, .int .i64 t] w fun e w' => e = .returned (.tuple #[.int .i64 (pntM xs r.m t).1, .bool (pntM xs r.m t).2]) ∧ Below w.heap.size w w' := by
  have HLN := Lib.hid h0.1
  go_enter Try.func33, Try.ntmps33
  go_wp2_with fail
  obtain ⟨k0, hb0⟩ := one_box w 41 #[.int .i64 r.m.num, .int .i64 r.m.sdr, .int .i64 r.m.tick, .string r.m.text, .int .i64 r.m.edits, .bool r.m.gone, .int .i64 r.m.reply, .slice r.la r.ln r.lc]
  generalize w.alloc (.cells #[.int .i64 r.m.num, .int .i64 r.m.sdr, .int .i64 r.m.tick, .string r.m.text, .int .i64 r.m.edits, .bool r.m.gone, .int .i64 r.m.reply, .slice r.la r.ln r.lc] 41) = W at *
  have h0 := h0.to hb0
  have h := h.to hb0
  cases v0 : msgB r.m with
  | false =>
    have HR := Lib.hid (show pntM xs r.m t = (0, false) by unfold pntM; rw [if_neg (fun hc => by unfold pntC at hc; rw [v0] at hc; simp at hc)])
    go_at_call 83; refine (spec_Message_r r _ _ h0 hln htx v0).mono ?_; rintro e w1 ⟨rfl, hb1⟩
    go_wp2
    go_ret2
    exact ⟨ret_pnt HR.out, hb0.trans (hb1.mono hb0.size)⟩
  | true =>
    obtain ⟨p0, p1, p2⟩ := msg_parts v0
    go_at_call 83; refine (spec_Message_r r _ _ h0 hln htx v0).mono ?_; rintro e w1 ⟨rfl, hb1⟩
    have h := h.to hb1
    have k0 := k0.below hb1 k0.lt
    have hb0 := hb0.trans (hb1.mono hb0.size)
    clear hb1
    cases q0 : queryB xs with
    | false =>
      have HR := Lib.hid (show pntM xs r.m t = (0, false) by unfold pntM; rw [if_neg (fun hc => by unfold pntC at hc; rw [q0] at hc; simp at hc)])
      go_wp2_with fail
      go_at_call 75; refine (l08Query_b A n c xs _ _ h hn hsz q0).mono ?_; rintro e w2 ⟨rfl, hb1⟩
      go_wp2
      go_ret2
      exact ⟨ret_pnt HR.out, hb0.trans (hb1.mono hb0.size)⟩
    | true =>
      go_wp2_with fail
      go_at_call 75; refine (l08Query_b A n c xs _ _ h hn hsz q0).mono ?_; rintro e w2 ⟨rfl, hb1⟩
      have h := h.to hb1
      have k0 := k0.below hb1 k0.lt
      have hb0 := hb0.trans (hb1.mono hb0.size)
      have l2 := k0.cell 2
      clear hb1
      by_cases ht : r.m.tick ≤ t ∧ t ≤ 1000000
      · have HR := Lib.hid (show pntM xs r.m t = (pntsR r.m (hitsL xs r.m.text).length t, true) by unfold pntM; rw [if_pos ⟨⟨v0, q0⟩, ht⟩])
        have hz := textB_size p1
        go_wp2_with fail
        go_at_call 78; refine (l00In_yes _ _ _ _ ht).mono ?_; rintro e w3 ⟨rfl, rfl⟩
        go_wp2_with fail
        go_at_call 84; refine (l08Points_any w.heap.size r.m _ r.la r.lc A n c xs t _ (by rw [HLN.out]) k0 h hn hz p2 p0 ht.1 ht.2).mono ?_; rintro e w4 ⟨rfl, hb1⟩
        go_wp2
        go_ret2
        exact ⟨ret_pnt HR.out, hb0.trans (hb1.mono hb0.size)⟩
      · have HR := Lib.hid (show pntM xs r.m t = (0, false) by unfold pntM; rw [if_neg (fun hc => by unfold pntC at hc; exact ht hc.2)])
        go_wp2_with fail
        go_at_call 78; refine (l00In_no _ _ _ _ ht).mono ?_; rintro e w3 ⟨rfl, rfl⟩
        go_wp2
        go_ret2
        exact ⟨ret_pnt HR.out, hb0⟩
set_option maxHeartbeats 3200000 in
theorem impl_PointsFor_yes (r : Rm) (A : Option Addr) (n c : Nat) (xs : List ByteArray) (t : Int) (w : World) (h0 : Row i64v w w.heap.size r.la r.ln r.m.likes) (hln : r.ln ≤ 1048576) (htx : r.m.text.size ≤ 1048576)
    (h : Row strv w w.heap.size A n xs) (hn : n ≤ 1048576) (hsz : ∀ s ∈ xs, s.size ≤ maxLen) (hc : pntC xs r.m t) :
    Calls Try.prog 35 #[rmA r, .slice A n c, .int .i64 t] w fun e w' => e = .returned (.tuple #[.int .i64 (pntsR r.m (hitsL xs r.m.text).length t), .bool true]) ∧ Below w.heap.size w w' := by
  obtain ⟨⟨v0, q0⟩, t0, t1⟩ := hc
  obtain ⟨p0, p1, p2⟩ := msg_parts v0
  have hz := textB_size p1
  have HLN := Lib.hid h0.1
  have p2' : r.ln ≤ 20 := by rw [← HLN.out]; exact p2
  have htk : tickB t = true := by unfold tickB; exact decide_eq_true ⟨by omega, t1⟩
  have HH := Lib.hid h
  have HH0 := Lib.hid h0
  have HT := Lib.hid p1
  have HV := Lib.hid v0
  have HQ := Lib.hid q0
  have HK := Lib.hid htk
  have HSZ := Lib.hid hsz
  clear h h0 v0 q0 p1 htk hsz
  have hF1 : Fence.wide.fn 85 := trivial
  have hF2 : Fence.wide.fn 76 := trivial
  have hF3 : Fence.wide.fn 81 := trivial
  have hF4 : Fence.wide.fn 86 := trivial
  refine (callsIn_wide (n := 9)).1 (callsIn_of_wp_marks Try.func35 rfl trivial ?_ rfl)
  simp only [Try.ntmps35, List.size_toArray, List.length_cons, List.length_nil, Nat.reduceAdd, Nat.reduceSub, Array.replicate_succ, Array.replicate_zero, List.push_toArray, List.append_toArray, List.nil_append, List.cons_append]
  gi_wp2_with fail
  obtain ⟨k0, hb0⟩ := one_box w 41 #[.int .i64 r.m.num, .int .i64 r.m.sdr, .int .i64 r.m.tick, .string r.m.text, .int .i64 r.m.edits, .bool r.m.gone, .int .i64 r.m.reply, .slice r.la r.ln r.lc]
  generalize w.alloc (.cells #[.int .i64 r.m.num, .int .i64 r.m.sdr, .int .i64 r.m.tick, .string r.m.text, .int .i64 r.m.edits, .bool r.m.gone, .int .i64 r.m.reply, .slice r.la r.ln r.lc] 41) = W at *
  gi_at_call 85; refine (callsIn_wide.2 (impl_Message_r r _ _ (HH0.out.to hb0) hln htx HV.out)).mono ?_; rintro e w1 ⟨rfl, hb1⟩
  have k0 := k0.below hb1 k0.lt
  have hb0 := hb0.trans (hb1.mono hb0.size)
  clear hb1
  gi_wp2_with fail
  gi_at_call 76; refine (callsIn_wide.2 (impl_isQuery_any A n c xs _ (HH.out.to hb0) hn HSZ.out)).mono ?_; rw [HQ.out]; rintro e w2 ⟨rfl, hb1⟩
  have k0 := k0.below hb1 k0.lt
  have hb0 := hb0.trans (hb1.mono hb0.size)
  clear hb1
  have l2 := k0.cell 2
  gi_wp2_with fail
  gi_at_call 86; refine (callsIn_wide.2 (isTick_b t true _ HK.out)).mono ?_; rintro e w3 ⟨rfl, rfl⟩
  have hg1 := k0.lt
  have k0 := k0.below ((Below.refl w2.heap.size w2).alloc (Nat.le_refl _) (.cells #[.int .i64 0] 2)) k0.lt
  have l3 := k0.cell 3
  have b8 := Boxed.new w2 2 (.int .i64 0)
  have hs2 := hb0.size
  have hsV : (w2.alloc (.cells #[.int .i64 0] 2)).heap.size = w2.heap.size + 1 := by simp
  have hb0 := hb0.alloc hb0.size (.cells #[.int .i64 0] 2)
  gi_wp2_with fail
  generalize w2.alloc (.cells #[.int .i64 0] 2) = V at *
  replace hsV : w2.heap.size + 1 ≤ V.heap.size := by omega
  gi_at_call 81
  refine (hitsIn_in _ r.m.text A n c _).mono ?_
  rintro e w' ⟨rfl, rfl⟩
  gi_wp2
  have k0 := k0.below (((Below.refl V.heap.size V).alloc (Nat.le_refl _) (.cells #[.string r.m.text] 9)).alloc (by simp) (.cells #[.slice A n c] 22)) k0.lt
  have b8 := (b8.alloc (.cells #[.string r.m.text] 9)).alloc (.cells #[.slice A n c] 22)
  have kt := ((Boxed.new V 9 (.string r.m.text)).alloc (.cells #[.slice A n c] 22)).cell
  have kw := Boxed.new (V.alloc (.cells #[.string r.m.text] 9)) 22 (.slice A n c)
  simp only [World.size_alloc] at kw
  have hbU : Below w.heap.size w ((V.alloc (.cells #[.string r.m.text] 9)).alloc (.cells #[.slice A n c] 22)) := (hb0.alloc hb0.size _).alloc (by have := hb0.size; simp; omega) _
  have hszU : ((V.alloc (.cells #[.string r.m.text] 9)).alloc (.cells #[.slice A n c] 22)).heap.size = V.heap.size + 2 := by simp
  clear hb0 l2 l3
  generalize (V.alloc (.cells #[.string r.m.text] 9)).alloc (.cells #[.slice A n c] 22) = U at *
  refine wpIn_rangeR (t := TR) rfl (by omega) (gf := 132) (lb := #[.pointer (some ⟨V.heap.size, 0, none⟩), .pointer (some ⟨V.heap.size + 1, 0, none⟩)]) rfl trivial (enters_of Try.func132 (by kernel_rfl) rfl)
    (hits_seq _ w.heap.size V.heap.size (V.heap.size + 1) A n c xs r.m.text HT.out U (by omega) kt (by omega) kw (HH.out.below hbU) hn) KH.trans (fun W l r r' hl h => KH.loop W l r r' (by omega) h) (Below.refl _ _) (fun _ => rfl)
    (fun pre X => Boxed X w2.heap.size 2 (.int .i64 (pre.length : Nat)) ∧ Blk X w.heap.size 41 #[.int .i64 r.m.num, .int .i64 r.m.sdr, .int .i64 r.m.tick, .string r.m.text, .int .i64 r.m.edits, .bool r.m.gone, .int .i64 r.m.reply, .slice r.la r.ln r.lc] ∧ Below w.heap.size w X)
    (fun _ _ _ => False)
    (fun pre X Y ⟨h1, h2, h3⟩ hr => ⟨hr.boxed h1 (.inl (by decide)), hr.same _ _ h2 (.inl (by omega)), hr.below h3 (Nat.le_refl _) (by omega)⟩)
    (fun _ _ _ _ hs _ => hs)
    ⟨b8, k0, hbU⟩
    ?act
    ?assign ?body ?done ?stop
  case assign =>
    intro l x W K hK
    gi_wp2
    exact hK
  case body =>
    rintro l2 pre x X hl2 ⟨h1, h2, h3⟩ hlt -
    have d1 := h1.cell
    have f1 := h1.frozen
    have hcast : ((pre ++ [x]).length : Int) = (pre.length : Int) + 1 := by simp
    gi_wp2
    refine ⟨(KeepsOthers.setCell _ _ _).from _, ⟨Kt.store (show X.heap[w2.heap.size]? = _ from h1) (by rfl) _, (Below.refl _ X).setCell (by show w.heap.size ≤ w2.heap.size; omega) _, fun v hv => hv.other (by omega) _⟩, ?_⟩
    exact ⟨by rw [hcast]; exact h1.set _, h2.far (by show w.heap.size ≠ w2.heap.size; omega) _, h3.setCell (by show w.heap.size ≤ w2.heap.size; omega) _⟩
  case done =>
    rintro D ys X hD hys ⟨h1, h2, h3⟩ hK
    have hyl : ys.length ≤ 81 := by rw [hys]; exact Nat.le_trans (List.length_filter_le _ _) (Nat.le_trans (rTo_bd r.m.text (r.m.text.size + 1)).1 (by omega))
    have HYS := Lib.hid (show (hitsL xs r.m.text).length = ys.length by rw [hys])
    have d1 := h1.cell
    have l2 := h2.cell 2; have l7 := h2.cell 7
    have HX := Lib.hid h3
    have HKK := Lib.hid hK
    clear hys hK h3 kt kw b8 k0
    generalize ys.length = hits at *
    obtain ⟨q, hq⟩ : ∃ q : Int, (t - r.m.tick).tdiv 100 = q := ⟨_, rfl⟩
    have hq0 : 0 ≤ q := by rw [← hq]; exact Int.tdiv_nonneg (by omega) (by omega)
    have hq1 : q ≤ 1000000 := by rw [← hq]; exact Int.le_trans (Int.tdiv_le_self _ (by omega)) (by omega)
    have HP := Lib.hid (show pntsR r.m hits t = if hits = 0 then 0 else max 0 (10 * (hits : Int) + 5 * (r.ln : Int) - q) by unfold pntsR; rw [hq, HLN.out])
    by_cases hz0 : hits = 0
    · have HR := Lib.hid (show (0 : Int) = pntsR r.m hits t by rw [HP.out, if_pos hz0])
      have hbz : ((hits : Int) == 0) = true := by simpa using hz0
      gi_wp2
      refine ⟨by simp, .inl ⟨_, _, rfl, run_takeDeferred HKK.out, ?_⟩⟩
      exact ⟨_, results_tmp2 rfl _ _ _, by rw [HYS.out, ← HR.out]; rfl, HX.out.trans (belowK_b (w := w) (Nat.le_refl _) X D _ _ (by omega) HKK.out rfl rfl)⟩
    · have HR := Lib.hid (show max 0 (10 * (hits : Int) + 5 * (r.ln : Int) - q) = pntsR r.m hits t by rw [HP.out, if_neg hz0])
      have hbz : ((hits : Int) == 0) = false := by simpa using hz0
      gi_wp2
      all_goals
        refine ⟨by simp, .inl ⟨_, _, rfl, run_takeDeferred HKK.out, ?_⟩⟩
        refine ⟨_, results_tmp2 rfl _ _ _, ?_, HX.out.trans (belowK_b (w := w) (Nat.le_refl _) X D _ _ (by omega) HKK.out rfl rfl)⟩
        rw [HYS.out, ← HR.out]
      · rw [show max 0 (10 * (hits : Int) + 5 * (r.ln : Int) - q) = 10 * (hits : Int) + 5 * (r.ln : Int) - q by omega]; rfl
      · rw [show max 0 (10 * (hits : Int) + 5 * (r.ln : Int) - q) = 0 by omega]; rfl
  case stop =>
    rintro D cd pre X _ _ h _
    exact h.elim
end Go.Proofs.Yteeodjbionjlmaa
namespace Go.Proofs.Yteeodjbionjlmaa
open Go.ChangeShapes Go.WideShapes Go.ChangeAt Go.RowKit
open Go.ChangeMaps (open_string shut_string)
set_option linter.unusedVariables false
set_option maxRecDepth 100000
set_option maxHeartbeats 3200000 in
theorem impl_PointsFor_no (r : Rm) (A : Option Addr) (n c : Nat) (xs : List ByteArray) (t : Int) (w : World) (h0 : Row i64v w w.heap.size r.la r.ln r.m.likes) (hln : r.ln ≤ 1048576) (htx : r.m.text.size ≤ 1048576)
    (h : Row strv w w.heap.size A n xs) (hn : n ≤ 1048576) (hsz : ∀ s ∈ xs, s.size ≤ maxLen) (hc : ¬ pntC xs r.m t) :
    Calls Try.prog 35 #[rmA r, .slice A n c, .int .i64 t] w fun e w' => e = .returned (.tuple #[.int .i64 0, .bool false]) ∧ Below w.heap.size w w' := by
  have HC := Lib.hid hc
  clear hc
  go_enter Try.func35, Try.ntmps35
  go_wp2_with fail
  obtain ⟨k0, hb0⟩ := one_box w 41 #[.int .i64 r.m.num, .int .i64 r.m.sdr, .int .i64 r.m.tick, .string r.m.text, .int .i64 r.m.edits, .bool r.m.gone, .int .i64 r.m.reply, .slice r.la r.ln r.lc]
  generalize w.alloc (.cells #[.int .i64 r.m.num, .int .i64 r.m.sdr, .int .i64 r.m.tick, .string r.m.text, .int .i64 r.m.edits, .bool r.m.gone, .int .i64 r.m.reply, .slice r.la r.ln r.lc] 41) = W at *
  have h0 := h0.to hb0
  have h := h.to hb0
  cases v0 : msgB r.m with
  | false =>
    go_at_call 85; refine (impl_Message_r r _ _ h0 hln htx v0).mono ?_; rintro e w1 ⟨rfl, hb1⟩
    go_wp2
    go_ret2
    exact ⟨rfl, hb0.trans (hb1.mono hb0.size)⟩
  | true =>
    obtain ⟨p0, p1, p2⟩ := msg_parts v0
    go_at_call 85; refine (impl_Message_r r _ _ h0 hln htx v0).mono ?_; rintro e w1 ⟨rfl, hb1⟩
    have h := h.to hb1
    have k0 := k0.below hb1 k0.lt
    have hb0 := hb0.trans (hb1.mono hb0.size)
    clear hb1
    cases q0 : queryB xs with
    | false =>
      go_wp2_with fail
      go_at_call 76; refine (impl_Query_r A n c xs _ _ h hn hsz q0).mono ?_; rintro e w2 ⟨rfl, hb1⟩
      go_wp2
      go_ret2
      exact ⟨rfl, hb0.trans (hb1.mono hb0.size)⟩
    | true =>
      go_wp2_with fail
      go_at_call 76; refine (impl_Query_r A n c xs _ _ h hn hsz q0).mono ?_; rintro e w2 ⟨rfl, hb1⟩
      have k0 := k0.below hb1 k0.lt
      have hb0 := hb0.trans (hb1.mono hb0.size)
      have l2 := k0.cell 2
      clear hb1
      cases hk : tickB t with
      | false =>
        go_wp2_with fail
        go_at_call 86; refine (isTick_b t false _ hk).mono ?_; rintro e w3 ⟨rfl, rfl⟩
        go_wp2
        go_ret2
        exact ⟨rfl, hb0⟩
      | true =>
        have htt : 0 ≤ t ∧ t ≤ 1000000 := by unfold tickB at hk; exact of_decide_eq_true hk
        have hlt : t < r.m.tick := by
          rcases Int.lt_or_le t r.m.tick with h1 | h1
          · exact h1
          · exact absurd (show pntC xs r.m t from ⟨⟨v0, q0⟩, h1, htt.2⟩) HC.out
        go_wp2_with fail
        go_at_call 86; refine (isTick_b t true _ hk).mono ?_; rintro e w3 ⟨rfl, rfl⟩
        go_wp2
        go_ret2
        exact ⟨rfl, hb0⟩
theorem impl_PointsFor_any (r : Rm) (A : Option Addr) (n c : Nat) (xs : List ByteArray) (t : Int) (w : World) (h0 : Row i64v w w.heap.size r.la r.ln r.m.likes) (hln : r.ln ≤ 1048576) (htx : r.m.text.size ≤ 1048576)
    (h : Row strv w w.heap.size A n xs) (hn : n ≤ 1048576) (hsz : ∀ s ∈ xs, s.size ≤ maxLen) :
    Calls Try.prog 35 #[rmA r, .slice A n c, .int .i64 t] w fun e w' => e = .returned (.tuple #[.int .i64 (pntM xs r.m t).1, .bool (pntM xs r.m t).2]) ∧ Below w.heap.size w w' := by
  by_cases hc : pntC xs r.m t
  · rw [show pntM xs r.m t = (pntsR r.m (hitsL xs r.m.text).length t, true) by unfold pntM; rw [if_pos hc]]
    exact impl_PointsFor_yes r A n c xs t w h0 hln htx h hn hsz hc
  · rw [show pntM xs r.m t = (0, false) by unfold pntM; rw [if_neg hc]]
    exact impl_PointsFor_no r A n c xs t w h0 hln htx h hn hsz hc
end Go.Proofs.Yteeodjbionjlmaa
