import Derived.Test.YteeodjbionjlmaaChecked
import Derived.WalkKit
import Derived.ProofKit
import Derived.OpenShut
import Derived.ShutString
import Derived.ChangeOld
import Derived.Below
import Derived.Lib.Hide
import Derived.Shelf.Abstract
import Derived.OwnWalkIn
import Derived.TacticsInMore
import Derived.LoopNIn
import Derived.LoopIn
import Derived.RangeFuncBox
import Derived.RangeFuncNested
import Derived.RangeFuncLeaves
import Derived.RangeFuncBound
import Derived.RangeFuncCalls
import Derived.Maps.AppendAt
import Derived.Test.YteeodjbionjlmaaZRnsI
namespace Go.Proofs.Yteeodjbionjlmaa
open Go.ChangeShapes Go.WideShapes Go.ChangeAt Go.RowKit
open Go.ChangeMaps (open_string shut_string)
set_option linter.unusedVariables false
set_option maxRecDepth 100000
attribute [local go_sem] Oper.semAt_some
theorem wordsL_runs (s : ByteArray) : wordsL s = (runsL s).map (fun x => strOfNums x.2) := by
  have h := (rTo_wTo s (s.size + 1)).1
  unfold wordsL runsL
  rw [← h, List.map_map]
  rfl
theorem runsL_len (s : ByteArray) : (runsL s).length ≤ s.size + 1 := (rTo_bd s (s.size + 1)).1
abbrev rword (x : Nat × List Int) : Value := .string (strOfNums x.2)
set_option maxHeartbeats 3200000 in
theorem impl_WordsOf_yes (s : ByteArray) (w : World) (hs : s.size ≤ maxLen) (ht : textB s = true) :
    Calls Try.prog 16 #[.string s] w fun e w' => WYes w (wordsL s) e w' := by
  have HT := Lib.hid ht
  have hsz := textB_size ht
  clear ht
  obtain ⟨i0, hi, hz0, hz1, hz2⟩ := info_parts Try.info_str
  have hF1 : Fence.wide.fn 62 := trivial
  have hF2 : Fence.wide.fn 63 := trivial
  refine (callsIn_wide (n := 9)).1 (callsIn_of_wp_marks Try.func16 rfl trivial ?_ rfl)
  simp only [Try.ntmps16, List.size_toArray, List.length_cons, List.length_nil, Nat.reduceAdd, Nat.reduceSub, Array.replicate_succ, Array.replicate_zero, List.push_toArray, List.append_toArray, List.nil_append, List.cons_append]
  gi_wp2_with (first | (gi_at_call 62; refine (callsIn_wide.2 (impl_IsText_any _ _ hs)).mono ?_; rintro e w' ⟨he, rfl⟩; rw [HT.out] at he; subst he) | (gi_at_call 63; refine (runsOf_in _ s _).mono ?_; rintro e w' ⟨rfl, rfl⟩))
  have bO := (Boxed.new w 22 (.slice none 0 0)).alloc (.cells #[.string s] 9)
  have hc := (Boxed.new (w.alloc (.cells #[.slice none 0 0] 22)) 9 (.string s)).cell
  have hB0 : Below w.heap.size w ((w.alloc (.cells #[.slice none 0 0] 22)).alloc (.cells #[.string s] 9)) := ((Below.refl _ w).alloc (Nat.le_refl _) _).alloc (by simp) _
  have hsz0 : (w.alloc (.cells #[.slice none 0 0] 22)).heap.size = w.heap.size + 1 := by simp
  have hsz1 : ((w.alloc (.cells #[.slice none 0 0] 22)).alloc (.cells #[.string s] 9)).heap.size = w.heap.size + 2 := by simp
  rw [hsz0] at hc
  generalize (w.alloc (.cells #[.slice none 0 0] 22)).alloc (.cells #[.string s] 9) = w' at *
  refine wpIn_rangeR (t := TR) rfl (by omega) (gf := 118) (lb := #[.pointer (some ⟨w.heap.size + 1, 0, none⟩)]) rfl trivial (enters_of Try.func118 (by kernel_rfl) rfl)
    (runs_seq _ (w.heap.size + 1) (by omega) s HT.out w' hc (by omega)) Kt.trans (fun W l r r' _ h => Kt.loop W l r r' h) (Below.refl _ _) (fun _ => rfl)
    (fun pre W => (∃ v, Boxed W w.heap.size 22 v ∧ W.ownsRow w.heap.size 9 1 v pre.length (pre.map rword)) ∧ Below w.heap.size w W)
    (fun _ _ _ => False)
    (fun pre X Y ⟨⟨v, h1, h2⟩, h3⟩ hr => ⟨⟨v, hr.boxed h1 (.inl (by decide)), hr.own h2 (by decide)⟩, hr.below h3 (Nat.le_refl _) (by omega)⟩)
    (fun _ _ _ _ hs _ => hs)
    ⟨⟨_, bO, World.ownsRow_nil _ _ _ _⟩, hB0⟩
    ?act
    ?assign ?body ?done ?stop
  case assign =>
    intro l x W K hK
    gi_wp2
    exact hK
  case body =>
    rintro l pre x W hl2 ⟨⟨v, hv, hrow⟩, hB1⟩ hlt -
    have hc := hv.cell
    gi_wp2_with (gi_at_builtin; refine wpListIn_append_own _ rfl _ _ 22 rfl w.heap.size 9 i0 (.string ByteArray.empty) 1 16 Try.underlying22 hi hz0 hz1 hz2 rfl (by decide) _ _ _ rfl (hrow.alloc _) ⟨W.heap.size, 0, none⟩ 1 1 [rword x] rfl rfl (cell_one_new _ _ _) (by intro u hu; simp at hu; subst hu; rfl) (by unfold maxLen; omega) (by omega) (by have := hB1.size; simp; omega) ?_; intro v' w1 hown' hgrow _; obtain ⟨g', cap', rfl⟩ := ownsRow_succ hown'; obtain ⟨hv1, hv2, hr2, hk2, hb2⟩ := hv.appended (by decide) hrow hB1.size (Nat.le_refl _) hown' hgrow; have hkt := Kt.appended (T := TK) hrow (by rfl) (by rfl) hgrow hv1 (.slice (some ⟨g', 0, none⟩) (pre.length + 1) cap'); have hc1 := hv1.cell; have hf1 := hv1.frozen)
    exact ⟨hk2.from _, hkt, ⟨_, hv2, by simpa using hr2⟩, hB1.trans hb2⟩
  case done =>
    rintro D ys W hD rfl ⟨⟨v, hv, hrow⟩, hB1⟩ hK
    have hc := hv.cell
    gi_wp2
    refine ⟨by simp, .inl ⟨_, _, rfl, run_takeDeferred hK, ?_⟩⟩
    obtain ⟨A2, m2, c2, rfl, hmm⟩ := own_shapeS hrow
    refine ⟨_, results_tmp2 rfl _ _ _, ?_⟩
    rw [← hmm] at hrow
    exact ⟨A2, m2, c2, rfl, by rw [wordsL_runs, List.map_map]; exact ownsRow_putObj hrow _ hK rfl, hB1.trans (belowK_b (w := w) (Nat.le_refl _) W D _ _ (by omega) hK rfl rfl)⟩
  case stop =>
    rintro D c pre W _ _ h _
    exact h.elim
end Go.Proofs.Yteeodjbionjlmaa
