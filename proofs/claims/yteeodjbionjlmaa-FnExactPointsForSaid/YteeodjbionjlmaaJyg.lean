import Derived.Test.YteeodjbionjlmaaChecked
import Derived.WalkKit
import Derived.ProofKit
import Derived.OpenShut
import Derived.ShutString
import Derived.ChangeOld
import Derived.Below
import Derived.Lib.Hide
import Derived.Scope
import Derived.Shelf.Abstract
import Derived.OwnWalkIn
import Derived.TacticsInMore
import Derived.LoopNIn
import Derived.LoopIn
import Derived.RangeFuncBox
import Derived.RangeFuncNested
import Derived.RangeFuncLeaves
import Derived.RangeFuncBound
import Derived.RangeFuncCalls
import Derived.Maps.AppendAt
import Derived.Test.YteeodjbionjlmaaZHitI
import Derived.Test.YteeodjbionjlmaaZWordsI
import Derived.Test.YteeodjbionjlmaaZWrdS
import Derived.WalkSpells
import Derived.WalkLawsBesides
import Derived.Test.YteeodjbionjlmaaZFndS
import Derived.Test.YteeodjbionjlmaaZSnpS
namespace Go.Proofs.Yteeodjbionjlmaa
open Go.ChangeShapes Go.WideShapes Go.ChangeAt Go.RowKit
open Go.ChangeMaps (open_string shut_string)
set_option linter.unusedVariables false
set_option maxRecDepth 100000
attribute [local go_sem] Oper.semAt_some
def markOf (D : Nat) : Deferred := { target := .collected D, args := #[] }
/-- the marks of the ranges that a loop has left behind -/
theorem leaves_marks {F : Fence} {n : Nat} {P : Program} {fn : Func} {tmps : Array Value} {R : Ending → World → Prop} (B : Nat) : ∀ (Ds : List Nat) (X : World), Ds.Nodup → (∀ D ∈ Ds, B ≤ D ∧ X.heap[D]? = some (.deferred (some []))) →
    (∀ X', (∀ t, Rl t B X X') → ∃ v, (results fn tmps).run P X' = .ok v X' ∧ R (.returned v) X') → LeavesInM F n P fn tmps R (Ds.map markOf) .returning X := by
  intro Ds
  induction Ds with
  | nil => intro X _ _ h; exact h X (fun t => Rl.refl t B X)
  | cons D Ds ih =>
    intro X hn hD h
    obtain ⟨h1, h2⟩ := hD D (List.mem_cons_self ..)
    have hr : ∀ t, Rl t B X (X.putObj D (.deferred none)) := fun t => .of_grown (grownBy_putObj' X D _) (fun r e => by cases e; exact ⟨h1, fun o ho => by rw [h2] at ho; cases ho; rfl⟩)
    refine ⟨by simp, .inl ⟨D, _, rfl, run_takeDeferred h2, ih _ (List.nodup_cons.1 hn).2 (fun D2 h3 => ?_) (fun X' hX => h X' (fun t => (hr t).trans (hX t)))⟩⟩
    obtain ⟨h4, h5⟩ := hD D2 (List.mem_cons_of_mem _ h3)
    exact ⟨h4, (World.putObj_heap_other (fun e => (List.nodup_cons.1 hn).1 (by rw [← e]; exact h3))).trans h5⟩
def badL (s : ByteArray) (xs : List ByteArray) : List ByteArray := xs.filter (hasS (wordsL s))
theorem badL_step {s : ByteArray} {xs : List ByteArray} {k : Nat} {z : ByteArray} (h : xs[k]? = some z) : badL s (xs.take (k + 1)) = badL s (xs.take k) ++ (if hasS (wordsL s) z then [z] else []) := by
  unfold badL
  rw [List.take_add_one, h, List.filter_append]
  congr 1
  by_cases h2 : hasS (wordsL s) z = true
  · rw [if_pos h2]; simp [h2]
  · rw [if_neg h2]; simp [h2]
theorem badL_len (s : ByteArray) (xs : List ByteArray) (k : Nat) : (badL s (xs.take k)).length ≤ k := by
  unfold badL
  exact Nat.le_trans (List.length_filter_le _ _) (by rw [List.length_take]; omega)
set_option maxHeartbeats 3200000 in
theorem impl_BadWordsIn_yes (A : Option Addr) (n c : Nat) (xs : List ByteArray) (s : ByteArray) (w : World) (h : Row strv w w.heap.size A n xs) (hn : n ≤ 1048576) (hsz : ∀ s ∈ xs, s.size ≤ maxLen)
    (hs : s.size ≤ maxLen) (ht : textB s = true) (hq : wordsB xs = true) :
    Calls Try.prog 25 #[.string s, .slice A n c] w fun e w' => WYes w (badL s xs) e w' := by
  have HT := Lib.hid ht
  have hz := textB_size ht
  have HQ := Lib.hid hq
  have HH := Lib.hid h
  have HL := Lib.hid h.1
  have HSZ := Lib.hid hsz
  clear ht hq hsz
  obtain ⟨i0, hi, hz0, hz1, hz2⟩ := info_parts Try.info_str
  have hF1 : Fence.wide.fn 62 := trivial
  have hF2 : Fence.wide.fn 69 := trivial
  have hF3 : Fence.wide.fn 63 := trivial
  refine (callsIn_wide (n := 9)).1 (callsIn_of_wp_marks Try.func25 rfl trivial ?_ rfl)
  simp only [Try.ntmps25, List.size_toArray, List.length_cons, List.length_nil, Nat.reduceAdd, Nat.reduceSub, Array.replicate_succ, Array.replicate_zero, List.push_toArray, List.append_toArray, List.nil_append, List.cons_append]
  gi_wp2
  refine wpIn_wide.2 (wp_scope_straight ((wpIn_wide (n := 9)).1 ?_))
  gi_wp2_with (first | (gi_at_call 62; refine (callsIn_wide.2 (impl_IsText_any _ _ hs)).mono ?_; rw [HT.out]; rintro e w' ⟨rfl, rfl⟩) | (gi_at_call 69; refine (callsIn_wide.2 (impl_AreBadWords_any A n c xs _ HH.out hn HSZ.out)).mono ?_; rw [HQ.out]; rintro e V ⟨rfl, hb0⟩))
  refine wpIn_label ?_
  gi_wp2
  have bO := Boxed.new V 22 (.slice none 0 0)
  have hbU : Below w.heap.size w (V.alloc (.cells #[.slice none 0 0] 22)) := hb0.alloc hb0.size _
  have hszU : (V.alloc (.cells #[.slice none 0 0] 22)).heap.size = V.heap.size + 1 := by simp
  have hV := hb0.size
  clear h hb0
  generalize V.alloc (.cells #[.slice none 0 0] 22) = U at *
  refine wpIn_loop (fun a X => ∃ (k : Nat) (Ds : List Nat) (v u8 u22 u23 u24 u25 u26 u27 u28 u29 u30 u31 u32 u33 u34 u35 u36 u37 : Value), a = { tmps := #[.string s, .slice A n c, undef, undef, .slice none 0 0, .bool false, .pointer (some ⟨V.heap.size, 0, none⟩), undef, u8, undef, undef, .string s, .bool true, .bool false, .bool false, .slice A n c, .bool true, .bool false, .bool false, .slice A n c, .int .i64 n, .int .i64 k, u22, u23, u24, u25, u26, u27, u28, u29, u30, u31, u32, u33, u34, u35, u36, u37], defers := Ds.map markOf } ∧ k ≤ n ∧ Boxed X V.heap.size 22 v ∧
      X.ownsRow w.heap.size 9 1 v (badL s (xs.take k)).length ((badL s (xs.take k)).map strv) ∧ Below w.heap.size w X ∧ Ds.Nodup ∧ V.heap.size < X.heap.size ∧ ∀ D ∈ Ds, w.heap.size ≤ D ∧ X.heap[D]? = some (.deferred (some [])))
    (fun a _ => n - (intOf (a.tmps.getD 21 undef)).toNat) ?start ?round
  case start => exact ⟨0, [], _, _, _, _, _, _, _, _, _, _, _, _, _, _, _, _, _, _, rfl, Nat.zero_le _, bO, World.ownsRow_nil _ _ _ _, hbU, List.nodup_nil, by omega, fun D h => by cases h⟩
  case round =>
    clear bO hbU hszU
    rintro a X ⟨k, Ds, v, u8, u22, u23, u24, u25, u26, u27, u28, u29, u30, u31, u32, u33, u34, u35, u36, u37, rfl, hk, hv, hrow, hbel, hnd, hlt6, hDs⟩
    have hbs := hbel.size
    by_cases hlt : k < n
    · obtain ⟨b, off, z, rfl, hb, hzz, c0⟩ := (HH.out.to hbel).at_ hlt
      have HZ := Lib.hid hzz
      have hi0 : (0 : Int) ≤ (k : Int) := by omega
      have hi1 : (k : Int) < (n : Int) := by omega
      clear hzz
      gi_wp2_with (gi_at_call 63; refine (runsOf_in _ s _).mono ?_; rintro e w' ⟨rfl, rfl⟩)
      have bZ := (Boxed.new X 9 (.string z)).alloc (.cells #[.string s] 9)
      have hcB := (Boxed.new (X.alloc (.cells #[.string z] 9)) 9 (.string s)).cell
      have hvY := (hv.alloc (.cells #[.string z] 9)).alloc (.cells #[.string s] 9)
      have hrY := (hrow.alloc (.cells #[.string z] 9)).alloc (.cells #[.string s] 9)
      have hbY : Below w.heap.size w ((X.alloc (.cells #[.string z] 9)).alloc (.cells #[.string s] 9)) := (hbel.alloc hbs _).alloc (by simp; omega) _
      have hszY : ((X.alloc (.cells #[.string z] 9)).alloc (.cells #[.string s] 9)).heap.size = X.heap.size + 2 := by simp
      have hDlt : ∀ D ∈ Ds, D < X.heap.size := fun D h => (Array.getElem?_eq_some_iff.1 (hDs D h).2).1
      have hDY : ∀ D ∈ Ds, w.heap.size ≤ D ∧ ((X.alloc (.cells #[.string z] 9)).alloc (.cells #[.string s] 9)).heap[D]? = some (.deferred (some [])) := fun D h =>
        ⟨(hDs D h).1, (Below.heap_alloc _ _ _ (by have := hDlt D h; simp; omega)).trans ((Below.heap_alloc _ _ _ (hDlt D h)).trans (hDs D h).2)⟩
      have hbl := badL_len s xs k
      rw [World.size_alloc] at hcB
      have HDlt := Lib.hid hDlt
      clear hv hrow hDs hbel hDlt
      generalize (X.alloc (.cells #[.string z] 9)).alloc (.cells #[.string s] 9) = Y0 at *
      refine wpIn_rangeR (t := TR) rfl (by omega) (gf := 118) (lb := #[.pointer (some ⟨X.heap.size + 1, 0, none⟩)]) rfl trivial (enters_of Try.func118 (by kernel_rfl) rfl)
        (runs_seq _ (X.heap.size + 1) (by omega) s HT.out Y0 hcB (by omega)) Kt.trans (fun W l r r' _ h => Kt.loop W l r r' h) (Below.refl _ _) (fun _ => rfl)
        (fun pre Y => ((∀ y ∈ pre, strOfNums y.2 ≠ z) ∧ Below w.heap.size w Y ∧ ∀ D ∈ Ds, w.heap.size ≤ D ∧ Y.heap[D]? = some (.deferred (some []))) ∧ Boxed Y V.heap.size 22 v ∧ Y.ownsRow w.heap.size 9 1 v (badL s (xs.take k)).length ((badL s (xs.take k)).map strv) ∧ Boxed Y X.heap.size 9 (.string z))
        (fun cd pre Y => (cd = .exit 1 ∧ (∃ y ∈ pre, strOfNums y.2 = z) ∧ Below w.heap.size w Y ∧ ∀ D ∈ Ds, w.heap.size ≤ D ∧ Y.heap[D]? = some (.deferred (some []))) ∧ ∃ u, Boxed Y V.heap.size 22 u ∧ Y.ownsRow w.heap.size 9 1 u ((badL s (xs.take k)).length + 1) ((badL s (xs.take k) ++ [z]).map strv))
        (fun pre Y Z ⟨⟨h0, h1, h2⟩, h3, h4, h5⟩ hr => ⟨⟨h0, hr.below h1 (Nat.le_refl _) (by omega), fun D hD => ⟨(h2 D hD).1, hr.same _ _ (h2 D hD).2 (.inl (by have := HDlt.out D hD; omega))⟩⟩, hr.boxed h3 (.inl (by decide)), hr.own h4 (by decide), hr.boxed h5 (.inl (by decide))⟩)
        (fun cd pre Y Z ⟨⟨h0, h0b, h1, h2⟩, u, h3, h4⟩ hr => ⟨⟨h0, h0b, hr.below h1 (Nat.le_refl _) (by omega), fun D hD => ⟨(h2 D hD).1, hr.same _ _ (h2 D hD).2 (.inl (by have := HDlt.out D hD; omega))⟩⟩, u, hr.boxed h3 (.inl (by decide)), hr.own h4 (by decide)⟩)
        ⟨⟨fun y hy => (by cases hy), hbY, hDY⟩, hvY, hrY, bZ⟩
        ?act
        ?assign ?body ?done ?stop
      case assign =>
        intro l x W K hK
        gi_wp2
        exact hK
      case body =>
        rintro l2 pre x Y hl2 ⟨⟨hno, hb1, hD1⟩, hv1, hr1, hz1'⟩ hltN hsp
        have hc1 := hz1'.cell
        have hc2 := hv1.cell
        by_cases he : strOfNums x.2 = z
        · have HE := Lib.hid he
          have heq : ((strOfNums x.2).toList == z.toList) = true := by rw [he]; exact toList_same z
          have HD1 := Lib.hid hD1
          have HBE := Lib.hid hbl
          clear hno he hD1
          gi_wp2_with (gi_at_builtin; refine wpListIn_append_own _ rfl _ _ 22 rfl w.heap.size 9 i0 (.string ByteArray.empty) 1 16 Try.underlying22 hi hz0 hz1 hz2 rfl (by decide) _ _ _ rfl (hr1.alloc _) ⟨Y.heap.size, 0, none⟩ 1 1 [.string z] rfl rfl (cell_one_new _ _ _) (by intro u hu; simp at hu; subst hu; rfl) (by unfold maxLen; omega) (by omega) (by have := hb1.size; simp; omega) ?_; intro v' w1 hown' hgrow _; obtain ⟨g', cap', rfl⟩ := ownsRow_succ hown'; obtain ⟨hv1', hv2, hr2, hk2, hb2⟩ := hv1.appended (by decide) hr1 hb1.size (by omega) hown' hgrow; have hf1 := hv1'.frozen; have hc3 := hv1'.cell)
          refine ⟨hk2.from _, ⟨rfl, ⟨x, by simp, HE.out⟩, hb1.trans hb2, fun D hD => ⟨(HD1.out D hD).1, hk2.same _ _ (HD1.out D hD).2 rfl⟩⟩, _, hv2, by rw [List.map_append]; exact hr2⟩
        · have hne := toList_ne he
          have HE := Lib.hid he
          clear he
          gi_wp2
          exact ⟨KeepsFrom.refl _ _, Kt.refl _ _, ⟨fun y hy => by rcases List.mem_append.1 hy with h | h; exact hno y h; simp at h; subst h; exact HE.out, hb1, hD1⟩, hv1, hr1, hz1'⟩
      case done =>
        rintro D ys Y hD rfl ⟨⟨hno, hb1, hD1⟩, hv1, hr1, hz1'⟩ hK
        have HST := Lib.hid (show badL s (xs.take (k + 1)) = badL s (xs.take k) by
          rw [badL_step HZ.out, hasS_no (by rw [wordsL_runs]; intro hm; obtain ⟨y, hy, e⟩ := List.mem_map.1 hm; exact hno y hy e)]; simp)
        have HDn := Lib.hid (show (D :: Ds).Nodup from List.nodup_cons.2 ⟨fun h => by have := HDlt.out D h; omega, hnd⟩)
        have HDa := Lib.hid (show ∀ E ∈ D :: Ds, w.heap.size ≤ E ∧ Y.heap[E]? = some (.deferred (some [])) from fun E hE => by
          rcases List.mem_cons.1 hE with rfl | h
          · exact ⟨by omega, hK⟩
          · exact hD1 E h)
        have hDY2 : D < Y.heap.size := (Array.getElem?_eq_some_iff.1 hK).1
        clear hno hD1 hK hbY hDY
        gi_wp2
        refine ⟨⟨k + 1, D :: Ds, v, _, _, _, _, _, _, _, _, _, _, _, _, _, _, _, _, _, rfl, by omega, hv1, by rw [HST.out]; exact hr1, hb1, HDn.out, by omega, HDa.out⟩, ?_⟩
        simp [intOf]; omega
      case stop =>
        rintro D cd pre Y hD hpre ⟨⟨rfl, ⟨y, hy, hyz⟩, hb1, hD1⟩, u, hv1, hr1⟩ hK
        have HST := Lib.hid (show badL s (xs.take (k + 1)) = badL s (xs.take k) ++ [z] by
          rw [badL_step HZ.out, hasS_yes (by rw [wordsL_runs]; exact List.mem_map.2 ⟨y, hpre.subset hy, hyz⟩)]; simp)
        have HDn := Lib.hid (show (D :: Ds).Nodup from List.nodup_cons.2 ⟨fun h => by have := HDlt.out D h; omega, hnd⟩)
        have HDa := Lib.hid (show ∀ E ∈ D :: Ds, w.heap.size ≤ E ∧ Y.heap[E]? = some (.deferred (some [])) from fun E hE => by
          rcases List.mem_cons.1 hE with rfl | h
          · exact ⟨by omega, hK⟩
          · exact hD1 E h)
        have hDY2 : D < Y.heap.size := (Array.getElem?_eq_some_iff.1 hK).1
        clear hD1 hK hbY hDY hy hyz hpre
        gi_wp2
        refine ⟨⟨k + 1, D :: Ds, u, _, _, _, _, _, _, _, _, _, _, _, _, _, _, _, _, _, rfl, by omega, hv1, by rw [HST.out, List.length_append]; exact hr1, hb1, HDn.out, by omega, HDa.out⟩, ?_⟩
        simp [intOf]; omega
    · have hke : k = n := by omega
      subst hke
      have HT2 := Lib.hid (show xs.take k = xs by rw [← HL.out, List.take_length])
      rw [HT2.out] at hrow
      obtain ⟨A2, m2, c2, rfl, hmm⟩ := own_shapeS hrow
      subst hmm
      have hc2 := hv.cell
      gi_wp2
      refine leaves_marks w.heap.size Ds X hnd hDs (fun X' hX => ?_)
      exact ⟨_, results_tmp2 rfl _ _ _, A2, _, c2, rfl, (hX TR).own hrow (by decide), (hX TR).below hbel (Nat.le_refl _) (Nat.le_refl _)⟩
end Go.Proofs.Yteeodjbionjlmaa
namespace Go.Proofs.Yteeodjbionjlmaa
open Go.ChangeShapes Go.WideShapes Go.ChangeAt Go.RowKit
open Go.ChangeMaps (open_string shut_string)
set_option linter.unusedVariables false
set_option maxRecDepth 100000
theorem badL_all (s : ByteArray) (xs : List ByteArray) : (badL s xs).length ≤ xs.length := List.length_filter_le _ _
theorem found_bad {s : ByteArray} {xs : List ByteArray} {z : ByteArray} (hz : z ∈ xs) : hasS (foundL xs (runsL s)) z = hasS (wordsL s) z := by
  rw [Bool.eq_iff_iff, hasS_iff, hasS_iff, wordsL_runs]
  unfold foundL
  rw [List.mem_map, List.mem_map]
  constructor
  · rintro ⟨x, hx, rfl⟩; exact ⟨x, (List.mem_filter.1 hx).1, rfl⟩
  · rintro ⟨x, hx, rfl⟩; exact ⟨x, List.mem_filter.2 ⟨hx, hasS_yes hz⟩, rfl⟩
theorem bad_pos (s : ByteArray) (xs : List ByteArray) : decide (0 < (foundL xs (runsL s)).length) = decide (0 < (badL s xs).length) := by
  have h : 0 < (foundL xs (runsL s)).length ↔ 0 < (badL s xs).length := by
    constructor
    · intro h
      obtain ⟨z, hz⟩ := List.exists_mem_of_length_pos h
      obtain ⟨x, hx, rfl⟩ := List.mem_map.1 (show z ∈ ((runsL s).filter (hitR xs)).map wordOf from hz)
      have hm : wordOf x ∈ xs := (hasS_iff _ _).1 (List.mem_filter.1 hx).2
      exact List.length_pos_of_mem (List.mem_filter.2 ⟨hm, by rw [← found_bad hm]; exact hasS_yes hz⟩)
    · intro h
      obtain ⟨z, hz⟩ := List.exists_mem_of_length_pos h
      have h2 := List.mem_filter.1 (show z ∈ xs.filter (hasS (wordsL s)) from hz)
      exact List.length_pos_of_mem ((hasS_iff _ _).1 (by rw [found_bad h2.1]; exact h2.2))
  by_cases h1 : 0 < (foundL xs (runsL s)).length
  · rw [decide_eq_true h1, decide_eq_true (h.1 h1)]
  · rw [decide_eq_false h1, decide_eq_false (fun h2 => h1 (h.2 h2))]
theorem l06Words_r (A : Option Addr) (n c : Nat) (xs : List ByteArray) (r : Bool) (w : World) (h : Row strv w w.heap.size A n xs) (hn : n ≤ 1048576) (hsz : ∀ s ∈ xs, s.size ≤ maxLen) (hr : wordsB xs = r) :
    Calls Try.prog 66 #[.slice A n c] w fun e w' => e = .returned (.bool r) ∧ Below w.heap.size w w' := by
  subst hr; exact l06Words_any A n c xs w h hn hsz
theorem impl_IsText_b (s : ByteArray) (r : Bool) (w : World) (hs : s.size ≤ maxLen) (h : textB s = r) : Calls Try.prog 62 #[.string s] w fun e w' => e = .returned (.bool r) ∧ w = w' := by
  subst h; exact impl_IsText_any s w hs
theorem impl_Words_r (A : Option Addr) (n c : Nat) (xs : List ByteArray) (r : Bool) (w : World) (h : Row strv w w.heap.size A n xs) (hn : n ≤ 1048576) (hsz : ∀ s ∈ xs, s.size ≤ maxLen) (hr : wordsB xs = r) :
    Calls Try.prog 69 #[.slice A n c] w fun e w' => e = .returned (.bool r) ∧ Below w.heap.size w w' := by
  subst hr; exact impl_AreBadWords_any A n c xs w h hn hsz
theorem spec_BadWordsIn_no (A : Option Addr) (n c : Nat) (xs : List ByteArray) (s : ByteArray) (w : World) (h : Row strv w w.heap.size A n xs) (hn : n ≤ 1048576) (hsz : ∀ s ∈ xs, s.size ≤ maxLen) (hs : s.size ≤ maxLen) (hc : ¬ (textB s = true ∧ wordsB xs = true)) :
    Calls Try.prog 24 #[.string s, .slice A n c] w fun e w' => e = .returned (.tuple #[.slice none 0 0, .bool false]) ∧ Below w.heap.size w w' := by
  cases t0 : textB s with
  | false =>
    clear hc
    go_enter Try.func24, Try.ntmps24
    go_wp2_with (go_at_call 65; refine (spec_IsText_b _ _ _ hs t0).mono ?_; rintro e w' ⟨rfl, rfl⟩)
    go_ret2
    exact ⟨rfl, Below.refl _ _⟩
  | true =>
    have q0 : wordsB xs = false := by cases q : wordsB xs; rfl; exact absurd ⟨t0, q⟩ hc
    clear hc
    go_enter Try.func24, Try.ntmps24
    go_wp2_with (first | (go_at_call 65; refine (spec_IsText_b _ _ _ hs t0).mono ?_; rintro e w' ⟨rfl, rfl⟩) | (go_at_call 66; refine (l06Words_r A n c xs _ _ h hn hsz q0).mono ?_; rintro e w2 ⟨rfl, hb⟩))
    go_ret2
    exact ⟨rfl, hb⟩
theorem impl_BadWordsIn_no (A : Option Addr) (n c : Nat) (xs : List ByteArray) (s : ByteArray) (w : World) (h : Row strv w w.heap.size A n xs) (hn : n ≤ 1048576) (hsz : ∀ s ∈ xs, s.size ≤ maxLen) (hs : s.size ≤ maxLen) (hc : ¬ (textB s = true ∧ wordsB xs = true)) :
    Calls Try.prog 25 #[.string s, .slice A n c] w fun e w' => e = .returned (.tuple #[.slice none 0 0, .bool false]) ∧ Below w.heap.size w w' := by
  cases t0 : textB s with
  | false =>
    clear hc
    go_enter Try.func25, Try.ntmps25
    go_wp2
    refine wp_scope_straight ?_
    go_wp2_with (go_at_call 62; refine (impl_IsText_b _ _ _ hs t0).mono ?_; rintro e w' ⟨rfl, rfl⟩)
    simp only [Exit.noGoto]
    go_ret2
    exact ⟨rfl, Below.refl _ _⟩
  | true =>
    have q0 : wordsB xs = false := by cases q : wordsB xs; rfl; exact absurd ⟨t0, q⟩ hc
    clear hc
    go_enter Try.func25, Try.ntmps25
    go_wp2
    refine wp_scope_straight ?_
    go_wp2_with (first | (go_at_call 62; refine (impl_IsText_b _ _ _ hs t0).mono ?_; rintro e w' ⟨rfl, rfl⟩) | (go_at_call 69; refine (impl_Words_r A n c xs _ _ h hn hsz q0).mono ?_; rintro e w2 ⟨rfl, hb⟩))
    simp only [Exit.noGoto]
    go_ret2
    exact ⟨rfl, hb⟩
set_option maxHeartbeats 3200000 in
theorem spec_BadWordsIn_yes (A : Option Addr) (n c : Nat) (xs : List ByteArray) (s : ByteArray) (w : World) (h : Row strv w w.heap.size A n xs) (hn : n ≤ 1048576) (hsz : ∀ s ∈ xs, s.size ≤ maxLen) (hs : s.size ≤ maxLen) (hc : textB s = true ∧ wordsB xs = true) :
    Calls Try.prog 24 #[.string s, .slice A n c] w fun e w' => WYes w (badL s xs) e w' := by
  obtain ⟨t0, q0⟩ := hc
  have hz := textB_size t0
  have HL := Lib.hid h.1
  obtain ⟨i0, hi, hz0, hz1, hz2⟩ := info_parts Try.info_str
  have hfl : (foundL xs (runsL s)).length ≤ 1048576 := by have := foundL_len xs (runsL s); have := runsL_len s; omega
  have HFB := Lib.hid (fun z (hz : z ∈ xs) => found_bad (s := s) hz)
  generalize hff : foundL xs (runsL s) = fs at *
  have HFF := Lib.hid hff
  clear hff
  go_enter Try.func24, Try.ntmps24
  go_wp2_with (first | (go_at_call 65; refine (spec_IsText_b _ _ _ hs t0).mono ?_; rintro e w' ⟨rfl, rfl⟩) | (go_at_call 66; refine (l06Words_r A n c xs _ _ h hn hsz q0).mono ?_; rintro e w2 ⟨rfl, hb⟩))
  have h2 := h.to hb
  go_wp2_with fail
  go_at_call 67; refine (l06Found_any A n c xs s _ h2 hn (by omega)).mono ?_; rintro e w3 ⟨Af, mf, cf, rfl, hof, hbn⟩
  rw [HFF.out] at hof
  have hmf : mf = fs.length := by simpa using hof.1.symm
  subst hmf
  have hbs := hb.size
  have hb3 := hb.trans (hbn.mono hbs)
  clear hb hbn h2
  go_wp2
  go_loopw [7, 8] (fun v i wr => ∃ k : Nat, k ≤ n ∧ i = .int .i64 k ∧ wr.ownsRow w3.heap.size 9 1 v (badL s (xs.take k)).length ((badL s (xs.take k)).map strv) ∧ Below w3.heap.size w3 wr) (fun _ i _ => n - (intOf i).toNat)
  case atStart => exact ⟨0, Nat.zero_le _, rfl, World.ownsRow_made w3 #[] 0 (Nat.le_refl _) (by decide) rfl, (Below.refl _ _).alloc (Nat.le_refl _) _⟩
  case round =>
    obtain ⟨k, hk, rfl, hown, hbel⟩ := hrel
    have hbs3 := hbel.size
    have hbs4 := hb3.size
    have hbl := badL_len s xs k
    by_cases hlt : k < n
    · obtain ⟨b, off, z, rfl, hb, hzz, c0⟩ := h.at_ hlt
      have HZ := Lib.hid hzz
      have d0 := (hbel.cell (p := ⟨b, off + k, none⟩) (by show b < _; omega)).trans ((hb3.cell (p := ⟨b, off + k, none⟩) hb).trans c0)
      have HFZ := Lib.hid (HFB.out z (List.mem_of_getElem? hzz))
      have HST := Lib.hid (badL_step (s := s) hzz)
      have HRF := Lib.hid ((Row.of_own_any hof).to hbel)
      clear hzz c0
      cases hh : hasS (wordsL s) z with
      | false =>
        have HS2 := Lib.hid (show badL s (xs.take (k + 1)) = badL s (xs.take k) by rw [HST.out, hh]; simp)
        go_wp2_with fail
        go_at_call 68; refine (l06Has_any _ _ _ fs _ _ HRF.out hfl).mono ?_; rw [HFZ.out, hh]; rintro e w5 ⟨rfl, rfl⟩
        clear hh
        go_wp2
        go_roundw
        case rel => exact ⟨k + 1, by omega, by go_num, by rw [HS2.out]; exact hown, hbel⟩
        case measure => simp [intOf]; omega
      | true =>
        have HS2 := Lib.hid (show badL s (xs.take (k + 1)) = badL s (xs.take k) ++ [z] by rw [HST.out, hh]; simp)
        go_wp2_with fail
        go_at_call 68; refine (l06Has_any _ _ _ fs _ _ HRF.out hfl).mono ?_; rw [HFZ.out, hh]; rintro e w5 ⟨rfl, rfl⟩
        clear hh
        go_wp2_with (at_builtin; refine wpList_append_own _ rfl _ _ 22 rfl w3.heap.size 9 i0 (.string ByteArray.empty) 1 16 Try.underlying22 hi hz0 hz1 hz2 rfl (by decide) _ _ _ rfl (hown.alloc _) ⟨wr.heap.size, 0, none⟩ 1 1 [.string z] rfl rfl ?q1 ?q2 ?q3 ?q4 ?q5 ?_)
        case q1 => exact cell_one_new _ _ _
        case q2 => intro u hu; simp at hu; subst hu; rfl
        case q3 => unfold maxLen; omega
        case q4 => omega
        case q5 => simp; omega
        intro v' w5 hown' hgrow _
        have hbel' : Below w3.heap.size w3 w5 := (hbel.alloc hbs3 _).grown hgrow (by simp; omega) (fun g hg => (hown.lt g hg).1)
        clear hgrow hown hbel
        go_wp2
        go_roundw
        case rel => exact ⟨k + 1, by omega, by go_num, by rw [HS2.out, List.map_append, List.length_append]; exact hown', hbel'⟩
        case measure => simp [intOf]; omega
    · have hke : k = n := by omega
      have HT2 := Lib.hid (show xs.take k = xs by rw [hke, ← HL.out, List.take_length])
      rw [HT2.out] at hown
      have hown := own_weaken hown hbs4
      obtain ⟨A2, m2, c2, rfl, hmm⟩ := own_shapeS hown
      subst hmm
      go_wp2
      go_ret2
      exact ⟨A2, _, c2, rfl, hown, hb3.trans (hbel.mono hbs4)⟩
end Go.Proofs.Yteeodjbionjlmaa
