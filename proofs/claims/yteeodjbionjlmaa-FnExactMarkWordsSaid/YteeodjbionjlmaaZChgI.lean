import Derived.Test.YteeodjbionjlmaaChecked
import Derived.WalkKit
import Derived.ProofKit
import Derived.OpenShut
import Derived.ShutString
import Derived.ChangeOld
import Derived.Below
import Derived.Lib.Hide
import Derived.Shelf.Abstract
import Derived.OwnWalkIn
import Derived.TacticsInMore
import Derived.LoopNIn
import Derived.LoopIn
import Derived.RangeFuncBox
import Derived.RangeFuncNested
import Derived.RangeFuncLeaves
import Derived.RangeFuncBound
import Derived.RangeFuncCalls
import Derived.Maps.AppendAt
import Derived.Shelf.RegionOpen
import Derived.Test.YteeodjbionjlmaaZHitI
import Derived.Test.YteeodjbionjlmaaJyh
import Derived.Test.YteeodjbionjlmaaZBldK
namespace Go.Proofs.Yteeodjbionjlmaa
open Go.ChangeShapes Go.WideShapes Go.ChangeAt Go.RowKit
open Go.ChangeMaps (open_string shut_string)
set_option linter.unusedVariables false
set_option maxRecDepth 100000
attribute [local go_sem] Oper.semAt_some
theorem size_extract_in' (s : ByteArray) (a e : Nat) (he : e ≤ s.size) : (s.extract a e).size = e - a := by rw [ByteArray.size_extract]; omega
theorem kept_below {X Y : World} (h : Below X.heap.size X Y) : KeepsOthers X Y := ⟨h.size, fun k o hk _ => (h.block k (Array.getElem?_eq_some_iff.1 hk).1).trans hk⟩
/-- the variables of changedRuns, its builder and what it has built -/
structure ChgAt (n0 : Nat) (w : World) (s : ByteArray) (G : Nat) (t : ByteArray) (e : Nat) (X : World) : Prop where
  b3 : Boxed X n0 9 (.string s)
  b5 : Boxed X (n0 + 1) 84 (.func (.func G) #[] #[])
  b7 : IsBF n0 (n0 + 1 + 1) t X
  b8 : Boxed X (n0 + 1 + 1 + 1) 3 (.int .i64 e)
  bel : Below n0 w X
theorem ChgAt.alloc {n0 : Nat} {w : World} {s t : ByteArray} {G e : Nat} {X : World} (h : ChgAt n0 w s G t e X) (hn : n0 ≤ w.heap.size) (o : Obj) : ChgAt n0 w s G t e (X.alloc o) :=
  ⟨h.b3.alloc o, h.b5.alloc o, h.b7.alloc o, h.b8.alloc o, h.bel.alloc (Nat.le_trans hn h.bel.size) o⟩
theorem ChgAt.on {n0 : Nat} {w : World} {s t : ByteArray} {G e : Nat} {X Y : World} (h : ChgAt n0 w s G t e X) (hn : n0 ≤ w.heap.size) (k : Below X.heap.size X Y) : ChgAt n0 w s G t e Y :=
  ⟨(k.block _ h.b3.lt).trans h.b3, (k.block _ h.b5.lt).trans h.b5, h.b7.below k, (k.block _ h.b8.lt).trans h.b8, h.bel.trans (k.mono (Nat.le_trans hn h.bel.size))⟩
theorem ChgAt.rl {n0 B : Nat} {w : World} {s t : ByteArray} {G e : Nat} {X Y : World} (h : ChgAt n0 w s G t e X) (hn : n0 ≤ w.heap.size) (hB : n0 ≤ B) (k : Rl TR B X Y) : ChgAt n0 w s G t e Y :=
  ⟨k.boxed h.b3 (.inl (by decide)), k.boxed h.b5 (.inl (by decide)), h.b7.rl (by decide) (by decide) k, k.boxed h.b8 (.inl (by decide)), k.below h.bel hn hB⟩
theorem ChgAt.wrote {n0 : Nat} {w : World} {s t u : ByteArray} {G e : Nat} {X Y : World} (h : ChgAt n0 w s G t e X) (h7 : IsBF n0 (n0 + 1 + 1) u Y) (hb : Below n0 X Y) (k : Lib.OthersKept 5 (some (n0 + 1 + 1)) X Y) : ChgAt n0 w s G u e Y :=
  ⟨boxed_others h.b3 k (by omega) (by decide), boxed_others h.b5 k (by omega) (by decide), h7, boxed_others h.b8 k (by omega) (by decide), h.bel.trans hb⟩
theorem ChgAt.ended {n0 : Nat} {w : World} {s t : ByteArray} {G e : Nat} {X : World} (h : ChgAt n0 w s G t e X) (hn : n0 ≤ w.heap.size) (e' : Nat) : ChgAt n0 w s G t e' (X.setCell ⟨n0 + 1 + 1 + 1, 0, none⟩ (.int .i64 e')) :=
  ⟨h.b3.other (by omega) _, h.b5.other (by omega) _, h.b7.set h.b8 (by decide) (by decide) _, h.b8.set _, h.bel.setCell (by show n0 ≤ n0 + 1 + 1 + 1; omega) _⟩
theorem chg_end_round {n0 Bw B : Nat} {w X X2 X3 X4 : World} {s t u : ByteArray} {G e : Nat} (hn : n0 ≤ w.heap.size) (hko : KeepsOthers X X2) (hkt : Kt TK X X2) (hB2 : Below n0 X X2)
    (hbw : ∀ v, Boxed X Bw 22 v → Boxed X2 Bw 22 v) (hs2 : n0 ≤ X2.heap.size) (hb3 : Below X2.heap.size X2 X3) (hat3 : ChgAt n0 w s G t e X3) (hI4 : IsBF n0 (n0 + 1 + 1) u X4) (hB4 : Below n0 X3 X4)
    (hK4 : Lib.OthersKept 5 (some (n0 + 1 + 1)) X3 X4) (hne : Bw ≠ n0 + 1 + 1) : KeepsFrom B X X4 ∧ KH n0 Bw X X4 ∧ ChgAt n0 w s G u e X4 := by
  obtain ⟨cs3, hcs3⟩ := hat3.b7.box
  exact ⟨(hko.trans ((kept_below hb3).trans (keeps_others hK4 hcs3 hB4.size))).from _,
    ⟨hkt.trans ((Kt.of_below hb3).trans (Kt.others hK4 hcs3 (by rfl) (by rfl) hB4.size)), hB2.trans ((hb3.mono hs2).trans hB4),
      fun v hv => boxed_others (show Boxed X3 _ _ _ from (hb3.block _ (hbw v hv).lt).trans (hbw v hv)) hK4 hne (by decide)⟩,
    hat3.wrote hI4 hB4 hK4⟩
set_option maxHeartbeats 6400000 in
theorem changedRuns_any (A : Option Addr) (n c : Nat) (xs : List ByteArray) (s : ByteArray) (G : Nat) (f : ByteArray → ByteArray) (w : World) (h : Row strv w w.heap.size A n xs) (hn : n ≤ 1048576) (ht : textB s = true)
    (hf : ∀ r, (f r).size ≤ r.size + 2) (hG : ∀ (r : ByteArray) (w : World), 1 ≤ r.size → r.size ≤ 80 → Calls Try.prog G #[.string r] w fun e w' => e = .returned (.string (f r)) ∧ Below w.heap.size w w')
    (eG : ∀ args w, (callFunc G args).run Try.prog w = .ok (.enter G args) w) :
    Calls Try.prog 72 #[.string s, .slice A n c, .func (.func G) #[] #[]] w fun e w' => e = .returned (.string (chgAll s f (hitsL xs s))) ∧ Below w.heap.size w w' := by
  have HT := Lib.hid ht
  have hz := textB_size ht
  have HH := Lib.hid h
  have HG := Lib.hid hG
  have HF := Lib.hid hf
  clear ht h hG hf
  have hF1 : Fence.wide.fn 81 := trivial
  have hmx : Try.prog.follows .mixedOrders = true := by kernel_rfl
  refine (callsIn_wide (n := 9)).1 (callsIn_of_wp_marks Try.func72 rfl trivial ?_ rfl)
  simp only [Try.ntmps72, List.size_toArray, List.length_cons, List.length_nil, Nat.reduceAdd, Nat.reduceSub, Array.replicate_succ, Array.replicate_zero, List.push_toArray, List.append_toArray, List.nil_append, List.cons_append]
  gi_wp2_with fail
  have b3 := (((Boxed.new w 9 (.string s)).alloc (.cells #[.func (.func G) #[] #[]] 84)).alloc (.cells #[.pointer none, .slice none 0 0] 132)).alloc (.cells #[.int .i64 0] 3)
  have b5 := ((Boxed.new (w.alloc (.cells #[.string s] 9)) 84 (.func (.func G) #[] #[])).alloc (.cells #[.pointer none, .slice none 0 0] 132)).alloc (.cells #[.int .i64 0] 3)
  have b8 := Boxed.new (((w.alloc (.cells #[.string s] 9)).alloc (.cells #[.func (.func G) #[] #[]] 84)).alloc (.cells #[.pointer none, .slice none 0 0] 132)) 3 (.int .i64 0)
  have b7 : IsBF w.heap.size (w.heap.size + 1 + 1) ByteArray.empty (((w.alloc (.cells #[.string s] 9)).alloc (.cells #[.func (.func G) #[] #[]] 84)).alloc (.cells #[.pointer none, .slice none 0 0] 132)) :=
    .inl ⟨by omega, .slice none 0 0, by have := World.alloc_heap_new ((w.alloc (.cells #[.string s] 9)).alloc (.cells #[.func (.func G) #[] #[]] 84)) (.cells #[.pointer none, .slice none 0 0] 132); simpa using this, ⟨rfl, .inl ⟨rfl, rfl⟩⟩, by simp [Value.ownBlock]⟩
  have b7 := b7.alloc (.cells #[.int .i64 0] 3)
  simp only [World.size_alloc] at b5 b8
  have hbV : Below w.heap.size w ((((w.alloc (.cells #[.string s] 9)).alloc (.cells #[.func (.func G) #[] #[]] 84)).alloc (.cells #[.pointer none, .slice none 0 0] 132)).alloc (.cells #[.int .i64 0] 3)) := ((((Below.refl _ w).alloc (Nat.le_refl _) _).alloc (by simp) _).alloc (by simp; omega) _).alloc (by simp; omega) _
  have hat : ChgAt w.heap.size w s G ByteArray.empty 0 _ := ⟨b3, b5, b7, b8, hbV⟩
  have hszV : ((((w.alloc (.cells #[.string s] 9)).alloc (.cells #[.func (.func G) #[] #[]] 84)).alloc (.cells #[.pointer none, .slice none 0 0] 132)).alloc (.cells #[.int .i64 0] 3)).heap.size = w.heap.size + 4 := by simp
  clear b3 b5 b7 b8 hbV
  generalize (((w.alloc (.cells #[.string s] 9)).alloc (.cells #[.func (.func G) #[] #[]] 84)).alloc (.cells #[.pointer none, .slice none 0 0] 132)).alloc (.cells #[.int .i64 0] 3) = V at *
  replace hszV : w.heap.size + 4 ≤ V.heap.size := by omega
  gi_at_call 81
  refine (hitsIn_in _ s A n c _).mono ?_
  rintro e w' ⟨rfl, rfl⟩
  gi_wp2
  have hatU := (hat.alloc (Nat.le_refl _) (.cells #[.string s] 9)).alloc (Nat.le_refl _) (.cells #[.slice A n c] 22)
  have kt := ((Boxed.new V 9 (.string s)).alloc (.cells #[.slice A n c] 22)).cell
  have kw := Boxed.new (V.alloc (.cells #[.string s] 9)) 22 (.slice A n c)
  simp only [World.size_alloc] at kw
  have hszU : ((V.alloc (.cells #[.string s] 9)).alloc (.cells #[.slice A n c] 22)).heap.size = V.heap.size + 2 := by simp
  clear hat
  generalize (V.alloc (.cells #[.string s] 9)).alloc (.cells #[.slice A n c] 22) = U at *
  refine wpIn_rangeR (t := TR) rfl (by omega) (gf := 132) (lb := #[.pointer (some ⟨V.heap.size, 0, none⟩), .pointer (some ⟨V.heap.size + 1, 0, none⟩)]) rfl trivial (enters_of Try.func132 (by kernel_rfl) rfl)
    (hits_seq _ w.heap.size V.heap.size (V.heap.size + 1) A n c xs s HT.out U (by omega) kt (by omega) kw (HH.out.below hatU.bel) hn) KH.trans (fun W l r r' hl h => KH.loop W l r r' (by omega) h) (Below.refl _ _) (fun _ => rfl)
    (fun pre X => ChgAt w.heap.size w s G (chg s f pre).1 (chg s f pre).2 X)
    (fun _ _ _ => False)
    (fun pre X Y h hr => h.rl (Nat.le_refl _) (by omega) hr)
    (fun _ _ _ _ hs _ => hs)
    hatU
    ?act
    ?assign ?body ?done ?stop
  case assign =>
    intro l x W K hK
    gi_wp2
    exact hK
  case body =>
    rintro l2 pre x X hl2 hat hlt hsp
    have hok : RunsOk s (pre ++ [x]) := ((runs_ok s).filter _).prefix hsp
    have hnx := chg_next (f := f) hok
    have hxs := hok.2 x (by simp)
    have hcs := chg_size HF.out pre.length pre rfl (hok.prefix (List.prefix_append _ _))
    have hcs2 : (s.size + 2) * pre.length ≤ 82 * 81 := Nat.mul_le_mul (by omega) (by omega)
    have HSN := Lib.hid (chg_snoc s f pre x)
    have hfx := HF.out (s.extract x.1 (x.1 + x.2.length))
    have hze := size_extract_in' s x.1 (x.1 + x.2.length) hxs.1
    have hze2 := size_extract_in' s (chg s f pre).2 x.1 (by omega)
    have hlen := strOfNums_size x.2
    have HKW := Lib.hid kw
    have HL2 := Lib.hid hl2
    clear hsp hok kw kt hatU hl2
    generalize hp : chg s f pre = p at *
    have HP := Lib.hid hp
    clear hp
    obtain ⟨t, e⟩ := p
    simp only at hnx hcs hze2 hat
    have d3 := hat.b3.cell; have d8 := hat.b8.cell
    have hsX := hat.bel.size
    have hFw : Fence.wide.fn 126 := trivial
    gi_wp2_with fail
    gi_at_call 126
    refine (CallsIn.inRound l2 (callsIn_wide.2 (write_k w.heap.size _ t (s.extract e x.1) _ hat.b7 (by omega) hsX))).mono ?_
    rintro ee X1 ⟨rfl, hI1, hB1, hK1⟩
    have hat1 := hat.wrote hI1 hB1 hK1
    obtain ⟨cs0, hcs0⟩ := hat.b7.box
    have hkt1 := Kt.others (T := TK) hK1 hcs0 (by rfl) (by rfl) hB1.size
    have hko1 := keeps_others hK1 hcs0 hB1.size
    have hbw1 : ∀ v, Boxed X (V.heap.size + 1) 22 v → Boxed X1 (V.heap.size + 1) 22 v := fun v hv => boxed_others hv hK1 (by omega) (by decide)
    clear hI1 hK1 hcs0 d3 d8
    have d8 := hat1.b8.cell; have f8 := hat1.b8.frozen
    have HAT := Lib.hid hat
    clear hat
    gi_wp2
    have hat2 := hat1.ended (Nat.le_refl _) (x.1 + x.2.length)
    have hkt2 := hkt1.trans (Kt.store (T := TK) (show X1.heap[w.heap.size + 1 + 1 + 1]? = _ from hat1.b8) (by rfl) (.int .i64 ((x.1 + x.2.length : Nat) : Int)))
    have hko2 := hko1.trans (KeepsOthers.setCell X1 ⟨w.heap.size + 1 + 1 + 1, 0, none⟩ (.int .i64 ((x.1 + x.2.length : Nat) : Int)))
    have hB2 : Below w.heap.size X (X1.setCell ⟨w.heap.size + 1 + 1 + 1, 0, none⟩ (.int .i64 ((x.1 + x.2.length : Nat) : Int))) := hB1.setCell (by show w.heap.size ≤ w.heap.size + 1 + 1 + 1; omega) _
    have hbw2 : ∀ v, Boxed X (V.heap.size + 1) 22 v → Boxed (X1.setCell ⟨w.heap.size + 1 + 1 + 1, 0, none⟩ (.int .i64 ((x.1 + x.2.length : Nat) : Int))) (V.heap.size + 1) 22 v := fun v hv => (hbw1 v hv).other (by omega) _
    rw [Int.natCast_add] at hat2 hkt2 hko2 hB2 hbw2
    generalize X1.setCell ⟨w.heap.size + 1 + 1 + 1, 0, none⟩ (.int .i64 ((x.1 : Int) + (x.2.length : Int))) = X2 at *
    have e3 := hat2.b3.cell; have e5 := hat2.b5.cell; have e8 := hat2.b8.cell
    have hs2 := hat2.bel.size
    have HKT := Lib.hid hkt2
    have HKO := Lib.hid hko2
    have HB2 := Lib.hid hB2
    have HBW := Lib.hid hbw2
    have HAT2 := Lib.hid hat2
    clear hkt1 hkt2 hko1 hko2 hB1 hB2 hbw1 hbw2 hat1 hat2 d8 f8
    have hFG : Fence.wide.fn G := trivial
    have hlx : 1 ≤ (s.extract x.1 (x.1 + x.2.length)).size := by omega
    have hlx2 : (s.extract x.1 (x.1 + x.2.length)).size ≤ 80 := by omega
    have HBD := Lib.hid (show (t ++ s.extract e x.1).size + (f (s.extract x.1 (x.1 + x.2.length))).size ≤ 1000000 by rw [ByteArray.size_append]; omega)
    gi_region_with_o (first | (gi_at_call 126; have hb3' : Below X2.heap.size X2 X3 := (by first | exact hb3 | exact ((Below.refl _ X2).drew).trans hb3); have hat3 := HAT2.out.on (Nat.le_refl _) hb3'; refine (CallsIn.inRound l2 (callsIn_wide.2 (write_k w.heap.size _ _ _ _ hat3.b7 HBD.out hat3.bel.size))).mono ?_; rintro e6 X4 ⟨rfl, hI4, hB4, hK4⟩) | (refine (CallsIn.inRound l2 (callsIn_wide.2 (HG.out (s.extract x.1 (x.1 + x.2.length)) _ hlx hlx2))).mono ?_; rintro e4 X3 ⟨rfl, hb3⟩))
    all_goals
      have q := chg_end_round (B := U.heap.size) (Bw := V.heap.size + 1) (Nat.le_refl _) HKO.out HKT.out HB2.out HBW.out hs2 hb3' hat3 hI4 hB4 hK4 (by omega)
      refine ⟨q.1, q.2.1, ?_⟩
      show ChgAt w.heap.size w s G (chg s f (pre ++ [x])).1 (chg s f (pre ++ [x])).2 X4
      rw [HSN.out]
      exact q.2.2
  case done =>
    rintro D ys X hD hys hat hK
    have hok := chg_le (f := f) ((runs_ok s).filter (hitR xs))
    have HYS := Lib.hid (show ys = hitsL xs s from hys)
    have hze := size_extract_in' s (chg s f ys).2 s.size (Nat.le_refl _)
    have hcs := chg_size HF.out ys.length ys rfl (by rw [hys]; exact (runs_ok s).filter _)
    have hyl : ys.length ≤ 81 := by rw [hys]; exact Nat.le_trans (List.length_filter_le _ _) (Nat.le_trans (rTo_bd s (s.size + 1)).1 (by omega))
    have hcs2 : (s.size + 2) * ys.length ≤ 82 * 81 := Nat.mul_le_mul (by omega) hyl
    have hle : (chg s f ys).2 ≤ s.size := by rw [hys]; exact hok
    clear hok hatU kt kw
    generalize hp : chg s f ys = p at *
    have HP := Lib.hid hp
    clear hp hys
    obtain ⟨t, e'⟩ := p
    simp only at hze hcs hle hat
    have d3 := hat.b3.cell; have d8 := hat.b8.cell
    have hsX := hat.bel.size
    have hFw : Fence.wide.fn 127 := trivial
    have HAT := Lib.hid hat
    have HK := Lib.hid hK
    have hsum : t.size + (s.extract e' s.size).size ≤ 9223372036854775807 := by omega
    clear hat hK
    gi_wp2
    refine wpIn_mono (Q := fun e a' w' => match e with
      | .normal => (∃ tm, a' = { tmps := tm, defers := [{ target := .collected D, args := #[] }] } ∧ tm.getD 6 undef = .string (t ++ s.extract e' s.size)) ∧ Below w.heap.size w w' ∧ w'.heap[D]? = some (.deferred (some []))
      | _ => False) ?walk ?imp
    case walk =>
      gi_region_with_o (first | (gi_at_call 127; refine (callsIn_wide.2 (string_k w.heap.size _ t _ (HAT.out.b7.below ((Below.refl _ X).drew)) hsX)).mono ?_; rintro e4 X3 ⟨rfl, hb3, hk3⟩; have g3 := (boxed_others (X := X.drew) (show Boxed X.drew _ _ _ from HAT.out.b3) hk3 (by omega) (by decide)).cell; have g8 := (boxed_others (X := X.drew) (show Boxed X.drew _ _ _ from HAT.out.b8) hk3 (by omega) (by decide)).cell))
      all_goals
        have hD3 := hk3 D _ (show X.drew.heap[D]? = _ from HK.out) (by intro e2; cases e2; obtain ⟨cs, hcs⟩ := HAT.out.b7.box; rw [HK.out] at hcs; cases hcs) (fun c f e2 => by cases e2)
        exact ⟨⟨_, rfl, rfl⟩, HAT.out.bel.trans (((Below.refl _ X).drew.mono hsX).trans hb3), hD3⟩
    case imp =>
      rename_i HKK
      rintro ex a' X3 hq
      cases ex with
      | normal =>
        obtain ⟨⟨tm, rfl, htm⟩, hbE, hD3⟩ := hq
        refine HKK _ _ ?_
        gi_wp2
        refine ⟨by simp, .inl ⟨_, _, rfl, run_takeDeferred hD3, ?_⟩⟩
        exact ⟨_, results_tmp rfl _ _ _, by rw [htm]; unfold chgAll; rw [← HYS.out, HP.out], hbE.trans (belowK_b (w := w) (Nat.le_refl _) X3 D _ _ (by omega) hD3 rfl rfl)⟩
      | ret => exact hq.elim
      | exit id => exact hq.elim
      | goto id => exact hq.elim
      | panic ch => exact hq.elim
      | outgrown => exact hq.elim
  case stop =>
    rintro D cd pre X _ _ h _
    exact h.elim
end Go.Proofs.Yteeodjbionjlmaa
