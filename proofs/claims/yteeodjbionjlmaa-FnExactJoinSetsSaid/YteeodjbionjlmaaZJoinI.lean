import Derived.Test.YteeodjbionjlmaaChecked
import Derived.WalkKit
import Derived.ProofKit
import Derived.OpenShut
import Derived.ShutString
import Derived.ChangeOld
import Derived.Below
import Derived.Lib.Hide
import Derived.Test.YteeodjbionjlmaaZSetI
namespace Go.Proofs.Yteeodjbionjlmaa
open Go.ChangeShapes Go.WideShapes Go.ChangeAt Go.RowKit
open Go.ChangeMaps (open_string shut_string)
set_option linter.unusedVariables false
theorem own_shapeJ {w : World} {base e size m : Nat} {v : Value} {xs : List Value} (h : w.ownsRow base e size v m xs) : ∃ A k c, v = .slice A k c ∧ k = m := by
  rcases h.2 with ⟨rfl, hn⟩ | ⟨g, cap, cur, rfl, _⟩
  · exact ⟨none, 0, 0, rfl, hn.symm⟩
  · exact ⟨_, _, _, rfl, rfl⟩
theorem size_zeros (z : Value) (n : Nat) (hz : z.cells.size = 1) : (Builtin.zeroCells z.cells n).size = n := by simp [Builtin.zeroCells, hz]
set_option maxHeartbeats 400000 in
theorem grow_any (k : Nat) (w : World) (hk : k ≤ 4194304) :
    Calls Try.prog 158 #[.slice none 0 0, .int .i64 k] w fun e w' => ∃ A c, e = .returned (.slice A 0 c) ∧ w'.ownsRow w.heap.size 2 1 (.slice A 0 c) 0 [] ∧ Below w.heap.size w w' := by
  by_cases h0 : k = 0
  · subst h0
    refine (Any8.slices_Grow_room Try.growI none 0 0 0 w (Nat.le_refl _) (by omega) (by omega) (by omega)).mono ?_
    rintro e w' ⟨rfl, rfl⟩
    exact ⟨none, 0, rfl, World.ownsRow_nil _ _ _ _, Below.refl _ _⟩
  · obtain ⟨i0, hi, hz0, hz1, hz2⟩ := info_parts Try.info_i64
    refine (Any8.slices_Grow_grow Try.growI i0 (.int .i64 0) hi hz0 (by omega) none 0 0 k [] w (Nat.le_refl _) (by omega) (by rw [hz2]; omega) (by omega) (by simp) (fun _ => rfl) (by simp)).mono ?_
    rintro e w' ⟨rfl, rfl⟩
    refine ⟨_, _, rfl, ?_, ((Below.refl _ _).drew).alloc (Nat.le_refl _) _⟩
    have hge := grownCap_ge w (0 + k) 0 (Try.growI_ren.t 25)
    refine ⟨rfl, .inr ⟨w.heap.size, _, _, rfl, Nat.le_refl _, heap_alloc_new w.drew _, Nat.zero_le _, grownCap_le_maxLen _ _ _ _ (by unfold maxLen; omega), ?_, by simp⟩⟩
    rw [Array.size_append, Array.size_append, size_zeros _ _ rfl, size_zeros _ _ rfl]
    simp only [Nat.zero_add] at hge ⊢
    simp
    omega
theorem grow_int (z : Int) (w : World) (h0 : 0 ≤ z) (hz : z ≤ 4194304) :
    Calls Try.prog 158 #[.slice none 0 0, .int .i64 z] w fun e w' => ∃ A c, e = .returned (.slice A 0 c) ∧ w'.ownsRow w.heap.size 2 1 (.slice A 0 c) 0 [] ∧ Below w.heap.size w w' := by
  have := grow_any z.toNat w (by omega)
  rwa [Int.toNat_of_nonneg h0] at this
theorem row_news {w : World} {B b off n : Nat} {xs : List Int} (h : Row i64v w B (some ⟨b, off, none⟩) n xs) : ∀ (j : Nat) (u : Value), (xs.map i64v)[j]? = some u → w.cell? ((⟨b, off, none⟩ : Addr).add j) = some u := by
  intro j u hu
  rw [List.getElem?_map] at hu
  obtain ⟨x, hx, rfl⟩ := Option.map_eq_some_iff.1 hu
  have hj : j < xs.length := (List.getElem?_eq_some_iff.1 hx).1
  obtain ⟨b', off', e, _, hc⟩ := h.2 (by have := h.1; omega)
  injection e with e
  injection e with e1 e2 _
  subst e1; subst e2
  have e : (⟨b, off, none⟩ : Addr).add j = ⟨b, off + j, none⟩ := by unfold Addr.add; split <;> simp_all
  rw [e]
  exact hc j x hx
set_option maxHeartbeats 1600000 in
set_option maxRecDepth 100000 in
theorem concat_any (P b off n c b' off' n' c' : Nat) (xs ys : List Int) (w : World) (hP0 : w.cell? ⟨P, 0, none⟩ = some (.slice (some ⟨b, off, none⟩) n c)) (hP1 : w.cell? ⟨P, 1, none⟩ = some (.slice (some ⟨b', off', none⟩) n' c'))
    (hP : P < w.heap.size) (h : Row i64v w w.heap.size (some ⟨b, off, none⟩) n xs) (h' : Row i64v w w.heap.size (some ⟨b', off', none⟩) n' ys) (hn : n ≤ 1048576) (hn' : n' ≤ 1048576) :
    Calls Try.prog 116 #[.slice (some ⟨P, 0, none⟩) 2 2] w fun e w' => ∃ A m cap, e = .returned (.slice A m cap) ∧ w'.ownsRow w.heap.size 2 1 (.slice A m cap) m ((xs ++ ys).map i64v) ∧ Below w.heap.size w w' := by
  obtain ⟨i0, hi, hz0, hz1, hz2⟩ := info_parts Try.info_i64
  have hlx := h.1
  have hly := h'.1
  go_enter Try.func116, Try.ntmps116
  go_wp2
  refine wp_loop_rounds 3 ?_
  rw [rounds_succ]; go_wp2
  rw [rounds_succ]; go_wp2
  rw [rounds_succ]
  go_wp2_with (go_at_call 158; refine (grow_int _ _ (by omega) (by omega)).mono ?_; rintro e w1 ⟨A1, c1, rfl, ho1, hb1⟩)
  have hq0 := (hb1.cell (p := ⟨P, 0, none⟩) hP).trans hP0
  have hq1 := (hb1.cell (p := ⟨P, 1, none⟩) hP).trans hP1
  have hr := h.below hb1
  have hr' := h'.below hb1
  have hbs := hb1.size
  clear hP0 hP1 h h'
  refine wp_loop_rounds 3 ?_
  rw [rounds_succ]
  go_wp2_with (at_builtin; refine wpList_append_own _ rfl (.tmp 31) (.tmp 32) 35 rfl w.heap.size 2 i0 (.int .i64 0) 1 8 Try.underlying35 hi hz0 hz1 hz2 rfl (by decide) _ _ _ rfl ho1 ⟨b, off, none⟩ n c (xs.map i64v) rfl ?_ ?_ ?_ ?_ ?_ ?_ ?_)
  · simp [hlx]
  · exact row_news hr
  · intro u hu; simp at hu; obtain ⟨x, _, rfl⟩ := hu; rfl
  · unfold maxLen; omega
  · omega
  · exact hbs
  intro v2 w2 ho2 hg2 _
  have hb2 := hb1.grown hg2 hbs (fun g hg => (ho1.lt g hg).1)
  have hq1' := (hb2.cell (p := ⟨P, 1, none⟩) hP).trans ((hb1.cell (p := ⟨P, 1, none⟩) hP).symm.trans hq1)
  have hr2 := hr'.keep (fun p hp => (hb2.cell hp).trans (hb1.cell hp).symm)
  have hbs2 := hb2.size
  clear hg2 ho1 hb1 hq0 hq1 hr hr' hbs
  go_wp2
  rw [rounds_succ]
  go_wp2_with (at_builtin; refine wpList_append_own _ rfl (.tmp 31) (.tmp 32) 35 rfl w.heap.size 2 i0 (.int .i64 0) 1 8 Try.underlying35 hi hz0 hz1 hz2 rfl (by decide) _ _ _ rfl ho2 ⟨b', off', none⟩ n' c' (ys.map i64v) rfl ?_ ?_ ?_ ?_ ?_ ?_ ?_)
  · simp [hly]
  · exact row_news hr2
  · intro u hu; simp at hu; obtain ⟨x, _, rfl⟩ := hu; rfl
  · unfold maxLen; omega
  · omega
  · exact hbs2
  intro v3 w3 ho3 hg3 _
  have hb3 := hb2.grown hg3 hbs2 (fun g hg => (ho2.lt g hg).1)
  clear hg3 ho2 hb2 hr2 hbs2 hq1'
  go_wp2
  rw [rounds_succ]
  go_wp2
  go_ret
  obtain ⟨A3, m3, c3, rfl, hm3⟩ := own_shapeJ ho3
  rw [← hm3] at ho3
  exact ⟨A3, m3, c3, rfl, by rw [List.map_append]; exact ho3, hb3⟩
end Go.Proofs.Yteeodjbionjlmaa
