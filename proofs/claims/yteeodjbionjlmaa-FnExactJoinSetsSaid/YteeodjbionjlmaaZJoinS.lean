import Derived.Test.YteeodjbionjlmaaChecked
import Derived.WalkKit
import Derived.ProofKit
import Derived.OpenShut
import Derived.ShutString
import Derived.ChangeOld
import Derived.Below
import Derived.Lib.Hide
import Derived.Test.YteeodjbionjlmaaZJoinI
import Derived.Test.YteeodjbionjlmaaZShapeS
namespace Go.Proofs.Yteeodjbionjlmaa
open Go.ChangeShapes Go.WideShapes Go.ChangeAt Go.RowKit
open Go.ChangeMaps (open_string shut_string)
set_option linter.unusedVariables false
def OneRow (w : World) (zs : List Int) (e : Ending) (w' : World) : Prop :=
  ∃ A m c, e = .returned (.slice A m c) ∧ w'.ownsRow w.heap.size 2 1 (.slice A m c) m (zs.map i64v) ∧ Below w.heap.size w w'
set_option maxHeartbeats 400000 in
theorem l00Own_any (b n c : Nat) (xs : List Int) (w : World) (h : Row i64v w w.heap.size (some ⟨b, 0, none⟩) n xs) (hn : n ≤ 1048576) :
    Calls Try.prog 154 #[.slice (some ⟨b, 0, none⟩) n c] w fun e w' => OneRow w xs e w' := by
  obtain ⟨i0, hi, hz0, hz1, hz2⟩ := info_parts Try.info_i64
  have hl := h.1
  have ho : (w.alloc (.cells #[] 2)).ownsRow w.heap.size 2 1 (.slice (some ⟨w.heap.size, 0, none⟩) 0 0) 0 [] := World.ownsRow_made w #[] 0 (Nat.le_refl _) (by decide) rfl
  have hbA : Below w.heap.size w (w.alloc (.cells #[] 2)) := (Below.refl _ _).alloc (Nat.le_refl _) _
  have hr := h.below hbA
  have hsz := hbA.size
  go_enter Try.func154, Try.ntmps154
  go_wp2_with (at_builtin; refine wpList_append_own _ rfl (.tmp 3) (.tmp 4) 35 rfl w.heap.size 2 i0 (.int .i64 0) 1 8 Try.underlying35 hi hz0 hz1 hz2 rfl (by decide) _ _ _ rfl ho ⟨b, 0, none⟩ n c (xs.map i64v) rfl ?_ ?_ ?_ ?_ ?_ ?_ ?_)
  · simp [hl]
  · exact row_news hr
  · intro u hu; simp at hu; obtain ⟨x, _, rfl⟩ := hu; rfl
  · unfold maxLen; omega
  · omega
  · exact hsz
  intro v2 w2 ho2 hg2 _
  have hb2 := hbA.grown hg2 hsz (fun g hg => (ho.lt g hg).1)
  clear hg2 ho hbA hr h
  go_wp2
  go_ret
  obtain ⟨A3, m3, c3, rfl, hm3⟩ := own_shapeS ho2
  rw [← hm3] at ho2
  exact ⟨A3, m3, c3, rfl, ho2, hb2⟩
set_option maxHeartbeats 1600000 in
set_option maxRecDepth 100000 in
theorem l00Put_any (A : Option Addr) (n c : Nat) (xs : List Int) (x : Int) (w : World) (h : Row i64v w w.heap.size A n xs) (hn : n ≤ 1048576) :
    Calls Try.prog 155 #[.slice A n c, .int .i64 x] w fun e w' => OneRow w (putL x xs) e w' := by
  obtain ⟨i0, hi, hz0, hz1, hz2⟩ := info_parts Try.info_i64
  have HL := Lib.hid h.1
  have HP := Lib.hid (pTo_put x xs)
  have HN := Lib.hid (pTo_len x xs)
  go_enter Try.func155, Try.ntmps155
  go_wp2
  go_loopw [5, 6, 7] (fun v d i wr => ∃ k : Nat, k ≤ n ∧ i = .int .i64 k ∧ d = .bool (pTo x xs k).2 ∧ wr.ownsRow w.heap.size 2 1 v (pTo x xs k).1.length ((pTo x xs k).1.map i64v) ∧ Below w.heap.size w wr) (fun _ _ i _ => n - (intOf i).toNat)
  case atStart => exact ⟨0, by omega, rfl, rfl, World.ownsRow_made w #[] 0 (Nat.le_refl _) (by decide) rfl, (Below.refl _ _).alloc (Nat.le_refl _) _⟩
  case round =>
    obtain ⟨k, hk, rfl, rfl, hown, hbel⟩ := hrel
    have hbs := hbel.size
    have hln := HN.out k (by have := HL.out; omega)
    by_cases hkn : k < n
    · obtain ⟨bb, off, y, rfl, hblt, hy, hcw⟩ := h.ati hkn
      have hc : wr.cell? ⟨bb, off + k, none⟩ = some (.int .i64 y) := (hbel.cell hblt).trans hcw
      have HS := Lib.hid (pTo_succ x xs k y hy)
      clear hcw hy
      generalize pTo x xs k = st at *
      obtain ⟨out, done⟩ := st
      simp only at hown hln
      cases done with
      | true =>
        have HT := Lib.hid (HS.out.trans (show pstep x (out, true) y = (out ++ [y], true) by simp [pstep]))
        go_wp2_with (at_builtin; refine wpList_append_own _ rfl (.tmp 35) (.tmp 40) 35 rfl w.heap.size 2 i0 (.int .i64 0) 1 8 Try.underlying35 hi hz0 hz1 hz2 rfl (by decide) _ _ _ rfl (hown.alloc _) ⟨wr.heap.size, 0, none⟩ 1 1 [.int .i64 y] rfl rfl ?_ ?_ ?_ ?_ ?_ ?_)
        all_goals try first | rfl | exact cell_one_new _ _ _ | (intro u hu; simp at hu; subst hu; rfl) | (unfold maxLen; omega) | omega | (simp; omega)
        intro v2 w2 ho2 hg2 _
        have hb2 : Below w.heap.size w w2 := (hbel.alloc hbs _).grown hg2 (by simp; omega) (fun g hg => (hown.lt g hg).1)
        clear hg2 hown hbel hc
        go_wp2
        go_roundw
        case rel => exact ⟨k + 1, by omega, by go_num, by rw [HT.out], by rw [HT.out, List.map_append, List.length_append]; exact ho2, hb2⟩
        case measure => simp [intOf]; omega
      | false =>
        by_cases h1 : x ≤ y
        · by_cases h2 : x < y
          · have HT := Lib.hid (HS.out.trans (show pstep x (out, false) y = (out ++ [x] ++ [y], true) by simp [pstep, h1, h2]))
            go_wp2_with (at_builtin; refine wpList_append_own _ rfl (.tmp 31) (.tmp 33) 35 rfl w.heap.size 2 i0 (.int .i64 0) 1 8 Try.underlying35 hi hz0 hz1 hz2 rfl (by decide) _ _ _ rfl (hown.alloc _) ⟨wr.heap.size, 0, none⟩ 1 1 [.int .i64 x] rfl rfl ?_ ?_ ?_ ?_ ?_ ?_)
            all_goals try first | rfl | exact cell_one_new _ _ _ | (intro u hu; simp at hu; subst hu; rfl) | (unfold maxLen; omega) | omega | (simp; omega)
            intro v2 w2 ho2 hg2 _
            have hb2 : Below w.heap.size w w2 := (hbel.alloc hbs _).grown hg2 (by simp; omega) (fun g hg => (hown.lt g hg).1)
            have hc2 : w2.cell? ⟨bb, off + k, none⟩ = some (.int .i64 y) := (hb2.cell (p := ⟨bb, off + k, none⟩) hblt).trans ((hbel.cell (p := ⟨bb, off + k, none⟩) hblt).symm.trans hc)
            have hbs2 := hb2.size
            clear hg2 hown hbel hc hbs
            go_wp2_with (at_builtin; refine wpList_append_own _ rfl (.tmp 35) (.tmp 40) 35 rfl w.heap.size 2 i0 (.int .i64 0) 1 8 Try.underlying35 hi hz0 hz1 hz2 rfl (by decide) _ _ _ rfl (ho2.alloc _) ⟨w2.heap.size, 0, none⟩ 1 1 [.int .i64 y] rfl rfl ?_ ?_ ?_ ?_ ?_ ?_)
            all_goals try first | rfl | exact cell_one_new _ _ _ | (intro u hu; simp at hu; subst hu; rfl) | (unfold maxLen; omega) | omega | (simp; omega)
            intro v3 w3 ho3 hg3 _
            have hb3 : Below w.heap.size w w3 := (hb2.alloc hbs2 _).grown hg3 (by simp; omega) (fun g hg => (ho2.lt g hg).1)
            clear hg3 ho2 hb2 hc2
            go_wp2
            go_roundw
            case rel => exact ⟨k + 1, by omega, by go_num, by rw [HT.out], by rw [HT.out]; simpa [i64v] using ho3, hb3⟩
            case measure => simp [intOf]; omega
          · have HT := Lib.hid (HS.out.trans (show pstep x (out, false) y = (out ++ [y], true) by simp [pstep, h1, h2]))
            go_wp2_with (at_builtin; refine wpList_append_own _ rfl (.tmp 35) (.tmp 40) 35 rfl w.heap.size 2 i0 (.int .i64 0) 1 8 Try.underlying35 hi hz0 hz1 hz2 rfl (by decide) _ _ _ rfl (hown.alloc _) ⟨wr.heap.size, 0, none⟩ 1 1 [.int .i64 y] rfl rfl ?_ ?_ ?_ ?_ ?_ ?_)
            all_goals try first | rfl | exact cell_one_new _ _ _ | (intro u hu; simp at hu; subst hu; rfl) | (unfold maxLen; omega) | omega | (simp; omega)
            intro v2 w2 ho2 hg2 _
            have hb2 : Below w.heap.size w w2 := (hbel.alloc hbs _).grown hg2 (by simp; omega) (fun g hg => (hown.lt g hg).1)
            clear hg2 hown hbel hc
            go_wp2
            go_roundw
            case rel => exact ⟨k + 1, by omega, by go_num, by rw [HT.out], by rw [HT.out, List.map_append, List.length_append]; exact ho2, hb2⟩
            case measure => simp [intOf]; omega
        · have HT := Lib.hid (HS.out.trans (show pstep x (out, false) y = (out ++ [y], false) by simp [pstep, h1]))
          go_wp2_with (at_builtin; refine wpList_append_own _ rfl (.tmp 35) (.tmp 40) 35 rfl w.heap.size 2 i0 (.int .i64 0) 1 8 Try.underlying35 hi hz0 hz1 hz2 rfl (by decide) _ _ _ rfl (hown.alloc _) ⟨wr.heap.size, 0, none⟩ 1 1 [.int .i64 y] rfl rfl ?_ ?_ ?_ ?_ ?_ ?_)
          all_goals try first | rfl | exact cell_one_new _ _ _ | (intro u hu; simp at hu; subst hu; rfl) | (unfold maxLen; omega) | omega | (simp; omega)
          intro v2 w2 ho2 hg2 _
          have hb2 : Below w.heap.size w w2 := (hbel.alloc hbs _).grown hg2 (by simp; omega) (fun g hg => (hown.lt g hg).1)
          clear hg2 hown hbel hc
          go_wp2
          go_roundw
          case rel => exact ⟨k + 1, by omega, by go_num, by rw [HT.out], by rw [HT.out, List.map_append, List.length_append]; exact ho2, hb2⟩
          case measure => simp [intOf]; omega
    · have hke : k = xs.length := by have := HL.out; omega
      have HF : (if (pTo x xs k).2 = true then (pTo x xs k).1 else (pTo x xs k).1 ++ [x]) = putL x xs := by rw [hke]; exact HP.out
      have hke2 : k = n := by omega
      clear hke
      generalize pTo x xs k = st at *
      obtain ⟨out, done⟩ := st
      simp only at hown hln HF
      cases done with
      | true =>
        have HF' := Lib.hid HF
        clear HF
        obtain ⟨A3, m3, c3, rfl, hm3⟩ := own_shapeS hown
        subst hm3
        go_wp2
        go_ret
        exact ⟨A3, _, c3, rfl, by rw [← HF'.out]; exact hown, hbel⟩
      | false =>
        have HF' := Lib.hid HF
        clear HF
        go_wp2_with (at_builtin; refine wpList_append_own _ rfl (.tmp 44) (.tmp 46) 35 rfl w.heap.size 2 i0 (.int .i64 0) 1 8 Try.underlying35 hi hz0 hz1 hz2 rfl (by decide) _ _ _ rfl (hown.alloc _) ⟨wr.heap.size, 0, none⟩ 1 1 [.int .i64 x] rfl rfl ?_ ?_ ?_ ?_ ?_ ?_)
        all_goals try first | rfl | exact cell_one_new _ _ _ | (intro u hu; simp at hu; subst hu; rfl) | (unfold maxLen; omega) | omega | (simp; omega)
        intro v2 w2 ho2 hg2 _
        have hb2 : Below w.heap.size w w2 := (hbel.alloc hbs _).grown hg2 (by simp; omega) (fun g hg => (hown.lt g hg).1)
        clear hg2 hown hbel
        go_wp2
        go_ret
        obtain ⟨A3, m3, c3, rfl, hm3⟩ := own_shapeS ho2
        rw [← hm3] at ho2
        exact ⟨A3, m3, c3, rfl, by rw [← HF'.out]; simpa [i64v] using ho2, hb2⟩
end Go.Proofs.Yteeodjbionjlmaa
