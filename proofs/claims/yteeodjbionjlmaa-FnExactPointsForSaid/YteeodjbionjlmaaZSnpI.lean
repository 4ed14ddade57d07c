import Derived.Test.YteeodjbionjlmaaChecked
import Derived.WalkKit
import Derived.ProofKit
import Derived.OpenShut
import Derived.ShutString
import Derived.ChangeOld
import Derived.Below
import Derived.Lib.Hide
import Derived.Shelf.Abstract
import Derived.OwnWalkIn
import Derived.TacticsInMore
import Derived.LoopNIn
import Derived.LoopIn
import Derived.RangeFuncBox
import Derived.RangeFuncNested
import Derived.RangeFuncLeaves
import Derived.RangeFuncBound
import Derived.RangeFuncCalls
import Derived.Maps.AppendAt
import Derived.Test.YteeodjbionjlmaaZHitI
import Derived.Test.YteeodjbionjlmaaZQryI
namespace Go.Proofs.Yteeodjbionjlmaa
open Go.ChangeShapes Go.WideShapes Go.ChangeAt Go.RowKit
open Go.ChangeMaps (open_string shut_string)
set_option linter.unusedVariables false
set_option maxRecDepth 100000
attribute [local go_sem] Oper.semAt_some
theorem run_loadVar_str (w : World) (a : Addr) (v : Value) (h : w.cell? a = some v) : (loadVar 9 a).run Try.prog w = .ok v w := by
  simp [loadVar, isAgg, go_sem, h]
theorem run_loadVar_bool (w : World) (a : Addr) (v : Value) (h : w.cell? a = some v) : (loadVar 4 a).run Try.prog w = .ok v w := by
  simp [loadVar, isAgg, go_sem, h]
theorem results_cells2 {P : Program} {fn : Func} {p q : Tmp} {tp tq : TypeId} (h : fn.results = #[.cell p tp, .cell q tq]) (tmps : Array Value) (w : World) {a b : Addr} {u v : Value}
    (hp : tmps.getD p undef = .pointer (some a)) (hq : tmps.getD q undef = .pointer (some b)) (hu : (loadVar tp a).run P w = .ok u w) (hv : (loadVar tq b).run P w = .ok v w) :
    (results fn tmps).run P w = .ok (.tuple #[u, v]) w := by
  have hp' : tmps[p]?.getD undef = .pointer (some a) := by simpa using hp
  have hq' : tmps[q]?.getD undef = .pointer (some b) := by simpa using hq
  simp [results, h, hp', hq', asAddr, hu, hv, Sem.run_bind, Result.andThen]
def snipR (xs : List ByteArray) (s : ByteArray) (wide : Nat) : ByteArray × Bool :=
  match hitsL xs s with
  | [] => (⟨#[]⟩, false)
  | x :: _ => (s.extract (x.1 - wide) (min s.size (x.1 + x.2.length + wide)), true)
theorem snp_eq {s : ByteArray} {a b c d : Nat} (h1 : a = c) (h2 : b = d) : s.extract a b = s.extract c d := by rw [h1, h2]
theorem snp_self {s : ByteArray} {c d : Nat} (h1 : c = 0) (h2 : d = s.size) : s = s.extract c d := by rw [h1, h2]; simp
theorem runsL_in {s : ByteArray} {x : Nat × List Int} (h : x ∈ runsL s) : x.1 + x.2.length ≤ s.size ∧ 1 ≤ x.2.length := by
  have := rTo_chain s (s.size + 1) x h; omega
set_option maxHeartbeats 3200000 in
theorem impl_SnippetOf_yes (A : Option Addr) (n c : Nat) (xs : List ByteArray) (s : ByteArray) (wide : Nat) (w : World) (h : Row strv w w.heap.size A n xs) (hn : n ≤ 1048576) (hsz : ∀ s ∈ xs, s.size ≤ maxLen)
    (hs : s.size ≤ maxLen) (ht : textB s = true) (hq : queryB xs = true) (hw : wide ≤ 80) :
    Calls Try.prog 31 #[.string s, .slice A n c, .int .i64 wide] w fun e w' => e = .returned (.tuple #[.string (snipR xs s wide).1, .bool (snipR xs s wide).2]) ∧ Below w.heap.size w w' := by
  have HT := Lib.hid ht
  have hz := textB_size ht
  have HQ := Lib.hid hq
  have HH := Lib.hid h
  have HSZ := Lib.hid hsz
  clear ht hq hsz
  have hF1 : Fence.wide.fn 62 := trivial
  have hF2 : Fence.wide.fn 76 := trivial
  have hF3 : Fence.wide.fn 81 := trivial
  refine (callsIn_wide (n := 9)).1 (callsIn_of_wp_marks Try.func31 rfl trivial ?_ rfl)
  simp only [Try.ntmps31, List.size_toArray, List.length_cons, List.length_nil, Nat.reduceAdd, Nat.reduceSub, Array.replicate_succ, Array.replicate_zero, List.push_toArray, List.append_toArray, List.nil_append, List.cons_append]
  gi_wp2
  have b3 := (((Boxed.new w 9 (.string s)).alloc (.cells #[.int .i64 wide] 2)).alloc (.cells #[.string ⟨#[]⟩] 9)).alloc (.cells #[.bool false] 4)
  have b5 := ((Boxed.new (w.alloc (.cells #[.string s] 9)) 2 (.int .i64 wide)).alloc (.cells #[.string ⟨#[]⟩] 9)).alloc (.cells #[.bool false] 4)
  have b6 := (Boxed.new ((w.alloc (.cells #[.string s] 9)).alloc (.cells #[.int .i64 wide] 2)) 9 (.string ⟨#[]⟩)).alloc (.cells #[.bool false] 4)
  have b7 := Boxed.new (((w.alloc (.cells #[.string s] 9)).alloc (.cells #[.int .i64 wide] 2)).alloc (.cells #[.string ⟨#[]⟩] 9)) 4 (.bool false)
  simp only [World.size_alloc] at b5 b6 b7
  have hbV : Below w.heap.size w ((((w.alloc (.cells #[.string s] 9)).alloc (.cells #[.int .i64 wide] 2)).alloc (.cells #[.string ⟨#[]⟩] 9)).alloc (.cells #[.bool false] 4)) := ((((Below.refl _ w).alloc (Nat.le_refl _) _).alloc (by simp) _).alloc (by simp; omega) _).alloc (by simp; omega) _
  have hszV : ((((w.alloc (.cells #[.string s] 9)).alloc (.cells #[.int .i64 wide] 2)).alloc (.cells #[.string ⟨#[]⟩] 9)).alloc (.cells #[.bool false] 4)).heap.size = w.heap.size + 4 := by simp
  generalize (((w.alloc (.cells #[.string s] 9)).alloc (.cells #[.int .i64 wide] 2)).alloc (.cells #[.string ⟨#[]⟩] 9)).alloc (.cells #[.bool false] 4) = V at *
  clear h
  gi_at_call 62
  refine (callsIn_wide.2 (impl_IsText_any _ _ hs)).mono ?_
  rw [HT.out]
  rintro e w' ⟨rfl, rfl⟩
  gi_wp2_with fail
  gi_at_call 76
  refine (callsIn_wide.2 (impl_isQuery_any A n c xs _ (HH.out.to hbV) hn HSZ.out)).mono ?_
  rw [HQ.out]
  rintro e V ⟨rfl, hb2⟩
  have b3 : Boxed V _ _ _ := (hb2.block _ b3.lt).trans b3
  have b5 : Boxed V _ _ _ := (hb2.block _ b5.lt).trans b5
  have b6 : Boxed V _ _ _ := (hb2.block _ b6.lt).trans b6
  have b7 : Boxed V _ _ _ := (hb2.block _ b7.lt).trans b7
  have hbV := hbV.trans (hb2.mono hbV.size)
  have hszV : w.heap.size + 4 ≤ V.heap.size := by have := hb2.size; omega
  clear hb2
  have c3 := b3.cell
  have c5 := b5.cell
  gi_wp2_with (gi_at_call 81; refine (hitsIn_in _ s A n c _).mono ?_; rintro e w' ⟨rfl, rfl⟩)
  have b3 := (b3.alloc (.cells #[.string s] 9)).alloc (.cells #[.slice A n c] 22)
  have b5 := (b5.alloc (.cells #[.string s] 9)).alloc (.cells #[.slice A n c] 22)
  have b6 := (b6.alloc (.cells #[.string s] 9)).alloc (.cells #[.slice A n c] 22)
  have b7 := (b7.alloc (.cells #[.string s] 9)).alloc (.cells #[.slice A n c] 22)
  have kt := ((Boxed.new V 9 (.string s)).alloc (.cells #[.slice A n c] 22)).cell
  have kw := Boxed.new (V.alloc (.cells #[.string s] 9)) 22 (.slice A n c)
  simp only [World.size_alloc] at kw
  have hbU : Below w.heap.size w ((V.alloc (.cells #[.string s] 9)).alloc (.cells #[.slice A n c] 22)) := (hbV.alloc (by omega) _).alloc (by simp; omega) _
  have hszU : ((V.alloc (.cells #[.string s] 9)).alloc (.cells #[.slice A n c] 22)).heap.size = V.heap.size + 2 := by simp
  clear c3 c5
  generalize (V.alloc (.cells #[.string s] 9)).alloc (.cells #[.slice A n c] 22) = U at *
  refine wpIn_rangeR (t := TR) rfl (by omega) (gf := 132) (lb := #[.pointer (some ⟨V.heap.size, 0, none⟩), .pointer (some ⟨V.heap.size + 1, 0, none⟩)]) rfl trivial (enters_of Try.func132 (by kernel_rfl) rfl)
    (hits_seq _ w.heap.size V.heap.size (V.heap.size + 1) A n c xs s HT.out U (by omega) kt (by omega) kw (HH.out.below hbU) hn) KH.trans (fun W l r r' hl h => KH.loop W l r r' (by omega) h) (Below.refl _ _) (fun _ => rfl)
    (fun pre X => (pre = [] ∧ Below w.heap.size w X) ∧ Boxed X w.heap.size 9 (.string s) ∧ Boxed X (w.heap.size + 1) 2 (.int .i64 wide) ∧ Boxed X (w.heap.size + 2) 9 (.string ⟨#[]⟩) ∧ Boxed X (w.heap.size + 3) 4 (.bool false))
    (fun cd pre X => cd = .ret ∧ (∃ (a : Nat) (b : List Int), pre = [(a, b)] ∧ Boxed X (w.heap.size + 2) 9 (.string (s.extract (a - wide) (min s.size (a + b.length + wide)))) ∧ Boxed X (w.heap.size + 3) 4 (.bool true)) ∧ Below w.heap.size w X)
    (fun pre X Y ⟨⟨h1, h2⟩, h3, h4, h5, h6⟩ hr => ⟨⟨h1, hr.below h2 (Nat.le_refl _) (by omega)⟩, hr.boxed h3 (.inr (by omega)), hr.boxed h4 (.inr (by omega)), hr.boxed h5 (.inr (by omega)), hr.boxed h6 (.inr (by omega))⟩)
    (fun cd pre X Y ⟨h1, ⟨a, b, h2, h3, h4⟩, h5⟩ hr => ⟨h1, ⟨a, b, h2, hr.boxed h3 (.inr (by omega)), hr.boxed h4 (.inr (by omega))⟩, hr.below h5 (Nat.le_refl _) (by omega)⟩)
    ⟨⟨rfl, hbU⟩, b3, b5, b6, b7⟩
    ?act
    ?assign ?body ?done ?stop
  case assign =>
    intro l x W K hK
    gi_wp2
    exact hK
  case body =>
    rintro l2 pre x X hl2 ⟨⟨rfl, hb1⟩, k3, k5, k6, k7⟩ hlt hsp
    have hxm : x ∈ hitsL xs s := hsp.subset (List.mem_append_right _ (List.mem_singleton.2 rfl))
    have hx := runsL_in (List.mem_filter.1 hxm).1
    clear hxm hsp
    have d3 := k3.cell; have d5 := k5.cell; have d6 := k6.cell; have d7 := k7.cell
    have f6 := k6.frozen; have f7 := k7.frozen
    have hlen := strOfNums_size x.2
    have fin : ∀ (v : ByteArray), v = s.extract (x.1 - wide) (min s.size (x.1 + x.2.length + wide)) → ∀ X', X' = (X.setCell ⟨w.heap.size + 1 + 1, 0, none⟩ (.string v)).setCell ⟨w.heap.size + 1 + 1 + 1, 0, none⟩ (.bool true) →
        KeepsFrom U.heap.size X X' ∧ ((∃ (a : Nat) (b : List Int), [x] = [(a, b)] ∧ Boxed X' (w.heap.size + 2) 9 (.string (s.extract (a - wide) (min s.size (a + b.length + wide)))) ∧ Boxed X' (w.heap.size + 3) 4 (.bool true)) ∧ Below w.heap.size w X') := by
      rintro v rfl X' rfl
      exact ⟨((KeepsOthers.setCell _ _ _).trans (KeepsOthers.setCell _ _ _)).from _, ⟨x.1, x.2, rfl, (k6.set _).other (by omega) _, (k7.other (by omega) _).set _⟩, (hb1.setCell (by simp; omega) _).setCell (by simp; omega) _⟩
    have HX := Lib.hid hx
    have HFIN := Lib.hid fin
    clear fin
    gi_wp2
    · exact ⟨((KeepsOthers.setCell _ _ _).trans (KeepsOthers.setCell _ _ _)).from _, rfl, (HFIN.out _ (snp_eq (by have := HX.out; omega) (by have := HX.out; omega)) _ rfl).2⟩
    · exact ⟨((KeepsOthers.setCell _ _ _).trans (KeepsOthers.setCell _ _ _)).from _, rfl, (HFIN.out _ (snp_eq (by have := HX.out; omega) (by have := HX.out; omega)) _ rfl).2⟩
    · exact ⟨((KeepsOthers.setCell _ _ _).trans (KeepsOthers.setCell _ _ _)).from _, rfl, (HFIN.out _ (snp_eq (by have := HX.out; omega) (by have := HX.out; omega)) _ rfl).2⟩
    · exact ⟨((KeepsOthers.setCell _ _ _).trans (KeepsOthers.setCell _ _ _)).from _, rfl, (HFIN.out _ (snp_self (by have := HX.out; omega) (by have := HX.out; omega)) _ rfl).2⟩
  case done =>
    rintro D ys X hD hys ⟨⟨hp, hb1⟩, k3, k5, k6, k7⟩ hK
    have d6 := k6.cell; have d7 := k7.cell
    have f6 := k6.frozen; have f7 := k7.frozen
    have hnil : hitsL xs s = [] := hys.symm.trans hp
    have HR := Lib.hid (show snipR xs s wide = (⟨#[]⟩, false) by unfold snipR; rw [hnil])
    have HK := Lib.hid hK
    have K6 := Lib.hid ((k6.set (.string ⟨#[]⟩)).other (B' := w.heap.size + 3) (by omega) (.bool false))
    have K7 := Lib.hid ((k7.other (B' := w.heap.size + 2) (by omega) (.string ⟨#[]⟩)).set (.bool false))
    clear hnil hK hys hp k3 k5 k6 k7
    gi_wp2
    have hK2 := ((KeepsOthers.setCell X ⟨w.heap.size + 1 + 1, 0, none⟩ (.string ⟨#[]⟩)).trans (KeepsOthers.setCell _ ⟨w.heap.size + 1 + 1 + 1, 0, none⟩ (.bool false))).same D _ HK.out rfl
    refine ⟨by simp, .inl ⟨_, _, rfl, run_takeDeferred hK2, ?_⟩⟩
    have hb2 : Below w.heap.size w ((X.setCell ⟨w.heap.size + 1 + 1, 0, none⟩ (.string ⟨#[]⟩)).setCell ⟨w.heap.size + 1 + 1 + 1, 0, none⟩ (.bool false)) := (hb1.setCell (by simp; omega) _).setCell (by simp; omega) _
    have hg := grownBy_putObj' ((X.setCell ⟨w.heap.size + 1 + 1, 0, none⟩ (.string ⟨#[]⟩)).setCell ⟨w.heap.size + 1 + 1 + 1, 0, none⟩ (.bool false)) D (.deferred none)
    have c6 := (K6.out.kept hg (fun e => by cases e; omega)).cell
    have c7 := (K7.out.kept hg (fun e => by cases e; omega)).cell
    refine ⟨_, results_cells2 (P := Try.prog) (fn := Try.f31) rfl _ _ rfl rfl (run_loadVar_str _ _ _ c6) (run_loadVar_bool _ _ _ c7), by rw [HR.out], ?_⟩
    exact hb2.trans (belowK_b (w := w) (Nat.le_refl _) _ D _ _ (by omega) hK2 rfl rfl)
  case stop =>
    rintro D c2 pre X hD hpre ⟨rfl, ⟨a, b, rfl, k6, k7⟩, hb1⟩ hK
    have HR := Lib.hid (show snipR xs s wide = (s.extract (a - wide) (min s.size (a + b.length + wide)), true) by
      obtain ⟨t, ht⟩ := hpre
      unfold snipR
      rw [← ht]
      rfl)
    gi_wp2
    refine ⟨by simp, .inl ⟨_, _, rfl, run_takeDeferred hK, ?_⟩⟩
    have hg := grownBy_putObj' X D (.deferred none)
    have c6 := (k6.kept hg (fun e => by cases e; omega)).cell
    have c7 := (k7.kept hg (fun e => by cases e; omega)).cell
    refine ⟨_, results_cells2 (P := Try.prog) (fn := Try.f31) rfl _ _ rfl rfl (run_loadVar_str _ _ _ c6) (run_loadVar_bool _ _ _ c7), by rw [HR.out], ?_⟩
    exact hb1.trans (belowK_b (w := w) (Nat.le_refl _) X D _ _ (by omega) hK rfl rfl)
end Go.Proofs.Yteeodjbionjlmaa
