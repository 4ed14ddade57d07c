import Derived.Test.YtmnmmjobplbflaaGreatDoorChecked
import Derived.WalkKit
import Derived.ProofKit
import Derived.OpenShut
import Derived.ShutString
import Derived.ChangeOld
import Derived.Below
import Derived.Lib.Hide
import Derived.Test.YtmnmmjobplbflaaGreatDoorZJoinI
import Derived.Test.YtmnmmjobplbflaaGreatDoorJd
namespace Go.Proofs.YtmnmmjobplbflaaGreatDoor
open Go.ChangeShapes Go.WideShapes Go.ChangeAt Go.RowKit
open Go.ChangeMaps (open_string shut_string)
set_option linter.unusedVariables false
set_option maxRecDepth 100000
set_option maxHeartbeats 3200000 in
theorem concat3_any (P b n c b' n' c' b'' n'' c'' : Nat) (xs ys zs : List Int) (w : World) (hP0 : w.cell? ⟨P, 0, none⟩ = some (.slice (some ⟨b, 0, none⟩) n c)) (hP1 : w.cell? ⟨P, 1, none⟩ = some (.slice (some ⟨b', 0, none⟩) n' c')) (hP2 : w.cell? ⟨P, 2, none⟩ = some (.slice (some ⟨b'', 0, none⟩) n'' c''))
    (hP : P < w.heap.size) (h : Row i64v w w.heap.size (some ⟨b, 0, none⟩) n xs) (h' : Row i64v w w.heap.size (some ⟨b', 0, none⟩) n' ys) (h'' : Row i64v w w.heap.size (some ⟨b'', 0, none⟩) n'' zs) (hn : n ≤ 1048576) (hn' : n' ≤ 1048576) (hn'' : n'' ≤ 1048576) :
    Calls Tryz.prog 37 #[.slice (some ⟨P, 0, none⟩) 3 3] w fun e w' => ∃ A m cap, e = .returned (.slice A m cap) ∧ w'.ownsRow w.heap.size 2 1 (.slice A m cap) m ((xs ++ (ys ++ zs)).map i64v) ∧ Below w.heap.size w w' := by
  obtain ⟨i0, hi, hz0, hz1, hz2⟩ := info_parts Tryz.info_i64
  have hlx := h.1
  have hly := h'.1
  have hlz := h''.1
  go_enter Tryz.func37, Tryz.ntmps37
  go_wp2
  refine wp_loop_rounds 4 ?_
  rw [rounds_succ]; go_wp2
  rw [rounds_succ]; go_wp2
  rw [rounds_succ]; go_wp2
  rw [rounds_succ]
  go_wp2_with (go_at_call 85; refine (grow_int _ _ (by omega) (by omega)).mono ?_; rintro e w1 ⟨A1, c1, rfl, ho1, hb1⟩)
  have hq0 := (hb1.cell (p := ⟨P, 0, none⟩) hP).trans hP0
  have hq1 := (hb1.cell (p := ⟨P, 1, none⟩) hP).trans hP1
  have hq2 := (hb1.cell (p := ⟨P, 2, none⟩) hP).trans hP2
  have hr := h.below hb1
  have hr' := h'.below hb1
  have hr'' := h''.below hb1
  have hbs := hb1.size
  clear hP0 hP1 hP2 h h' h''
  refine wp_loop_rounds 4 ?_
  rw [rounds_succ]
  go_wp2_with (at_builtin; refine wpList_append_own _ rfl (.tmp 31) (.tmp 32) 42 rfl w.heap.size 2 i0 (.int .i64 0) 1 8 Tryz.underlying42 hi hz0 hz1 hz2 rfl (by decide) _ _ _ rfl ho1 ⟨b, 0, none⟩ n c (xs.map i64v) rfl ?_ ?_ ?_ ?_ ?_ ?_ ?_)
  · simp [hlx]
  · exact row_news hr
  · intro u hu; simp at hu; obtain ⟨x, _, rfl⟩ := hu; rfl
  · unfold maxLen; omega
  · omega
  · exact hbs
  intro v2 w2 ho2 hg2 _
  have hb2 := hb1.grown hg2 hbs (fun g hg => (ho1.lt g hg).1)
  have hq1' := (hb2.cell (p := ⟨P, 1, none⟩) hP).trans ((hb1.cell (p := ⟨P, 1, none⟩) hP).symm.trans hq1)
  have hq2' := (hb2.cell (p := ⟨P, 2, none⟩) hP).trans ((hb1.cell (p := ⟨P, 2, none⟩) hP).symm.trans hq2)
  have hr2 := hr'.keep (fun p hp => (hb2.cell hp).trans (hb1.cell hp).symm)
  have hr3 := hr''.keep (fun p hp => (hb2.cell hp).trans (hb1.cell hp).symm)
  have hbs2 := hb2.size
  clear hg2 ho1 hb1 hq0 hq1 hq2 hr hr' hr'' hbs
  go_wp2
  rw [rounds_succ]
  go_wp2_with (at_builtin; refine wpList_append_own _ rfl (.tmp 31) (.tmp 32) 42 rfl w.heap.size 2 i0 (.int .i64 0) 1 8 Tryz.underlying42 hi hz0 hz1 hz2 rfl (by decide) _ _ _ rfl ho2 ⟨b', 0, none⟩ n' c' (ys.map i64v) rfl ?_ ?_ ?_ ?_ ?_ ?_ ?_)
  · simp [hly]
  · exact row_news hr2
  · intro u hu; simp at hu; obtain ⟨x, _, rfl⟩ := hu; rfl
  · unfold maxLen; omega
  · omega
  · exact hbs2
  intro v3 w3 ho3 hg3 _
  have hb3 := hb2.grown hg3 hbs2 (fun g hg => (ho2.lt g hg).1)
  have hq2'' := (hb3.cell (p := ⟨P, 2, none⟩) hP).trans ((hb2.cell (p := ⟨P, 2, none⟩) hP).symm.trans hq2')
  have hr4 := hr3.keep (fun p hp => (hb3.cell hp).trans (hb2.cell hp).symm)
  have hbs3 := hb3.size
  clear hg3 ho2 hb2 hr2 hr3 hbs2 hq1' hq2'
  go_wp2
  rw [rounds_succ]
  go_wp2_with (at_builtin; refine wpList_append_own _ rfl (.tmp 31) (.tmp 32) 42 rfl w.heap.size 2 i0 (.int .i64 0) 1 8 Tryz.underlying42 hi hz0 hz1 hz2 rfl (by decide) _ _ _ rfl ho3 ⟨b'', 0, none⟩ n'' c'' (zs.map i64v) rfl ?_ ?_ ?_ ?_ ?_ ?_ ?_)
  · simp [hlz]
  · exact row_news hr4
  · intro u hu; simp at hu; obtain ⟨x, _, rfl⟩ := hu; rfl
  · unfold maxLen; omega
  · omega
  · exact hbs3
  intro v4 w4 ho4 hg4 _
  have hb4 := hb3.grown hg4 hbs3 (fun g hg => (ho3.lt g hg).1)
  clear hg4 ho3 hb3 hr4 hbs3 hq2''
  go_wp2
  rw [rounds_succ]
  go_wp2
  go_ret
  obtain ⟨A3, m3, c3, rfl, hm3⟩ := own_shapeJ ho4
  rw [← hm3] at ho4
  exact ⟨A3, m3, c3, rfl, by rw [List.map_append, List.map_append]; exact ho4, hb4⟩
theorem concat3_new (b1 b2 b3 g1 n1 c1 g2 n2 c2 g3 n3 c3 : Nat) (xs ys zs : List Int) (w : World) (h1 : w.ownsRow b1 2 1 (.slice (some ⟨g1, 0, none⟩) n1 c1) n1 (xs.map i64v)) (h2 : w.ownsRow b2 2 1 (.slice (some ⟨g2, 0, none⟩) n2 c2) n2 (ys.map i64v))
    (h3 : w.ownsRow b3 2 1 (.slice (some ⟨g3, 0, none⟩) n3 c3) n3 (zs.map i64v)) (hn1 : n1 ≤ 1048576) (hn2 : n2 ≤ 1048576) (hn3 : n3 ≤ 1048576) :
    Calls Tryz.prog 37 #[.slice (some ⟨w.heap.size, 0, none⟩) 3 3] (w.alloc (.cells #[.slice (some ⟨g1, 0, none⟩) n1 c1, .slice (some ⟨g2, 0, none⟩) n2 c2, .slice (some ⟨g3, 0, none⟩) n3 c3] 42)) fun e w' =>
      ∃ A m cap, e = .returned (.slice A m cap) ∧ w'.ownsRow w.heap.size 2 1 (.slice A m cap) m ((xs ++ (ys ++ zs)).map i64v) ∧ Below w.heap.size w w' := by
  obtain ⟨k0, hb0⟩ := one_box w 42 #[.slice (some ⟨g1, 0, none⟩) n1 c1, .slice (some ⟨g2, 0, none⟩) n2 c2, .slice (some ⟨g3, 0, none⟩) n3 c3]
  have r1 := ((Row.of_own h1).below hb0).more hb0.size
  have r2 := ((Row.of_own h2).below hb0).more hb0.size
  have r3 := ((Row.of_own h3).below hb0).more hb0.size
  refine (concat3_any w.heap.size g1 n1 c1 g2 n2 c2 g3 n3 c3 xs ys zs _ (k0.cell 0) (k0.cell 1) (k0.cell 2) k0.lt r1 r2 r3 hn1 hn2 hn3).mono ?_
  rintro e w' ⟨A, m, cap, he, ho, hb⟩
  exact ⟨A, m, cap, he, World.ownsRow.mono ho hb0.size, hb0.trans (hb.mono hb0.size)⟩
end Go.Proofs.YtmnmmjobplbflaaGreatDoor
