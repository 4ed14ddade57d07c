import Derived.Test.YtdpclbmcmgknjaaChecked
import Derived.WalkKit
import Derived.ProofKit
import Derived.OpenShut
import Derived.ShutString
import Derived.ChangeOld
import Derived.Below
import Derived.Lib.Hide
import Derived.Shelf.Spec.SlicesGrow
import Derived.Test.YtdpclbmcmgknjaaZDelP
import Derived.Test.YtdpclbmcmgknjaaZDelT
import Derived.Test.YtdpclbmcmgknjaaShelfG
namespace Go.Proofs.Ytdpclbmcmgknjaa
open Go.ChangeShapes Go.WideShapes Go.ChangeAt Go.RowKit
open Go.ChangeMaps (open_string shut_string)
set_option linter.unusedVariables false
open Go.Shelf
set_option maxRecDepth 100000
theorem size_zeros3 (z : Value) (n : Nat) (hz : z.cells.size = 3) : (Builtin.zeroCells z.cells n).size = n * 3 := by simp [Builtin.zeroCells, hz]
set_option maxHeartbeats 400000 in
theorem growT_any (k : Nat) (w : World) (hk : k ≤ 4194304) (h0 : 0 < k) :
    Calls Try.prog 130 #[.slice none 0 0, .int .i64 k] w fun e w' => ∃ A c, e = .returned (.slice A 0 c) ∧ w'.ownsRow w.heap.size 50 3 (.slice A 0 c) 0 [] ∧ Below w.heap.size w w' := by
  obtain ⟨i0, hi, hz0, hz1, hz2⟩ := info_parts Try.info_Strike
  refine (Any8.slices_Grow_grow Try.growT i0 (.agg #[.int .i64 0, .int .i64 0, .int .i64 0]) hi hz0 (by omega) none 0 0 k [] w (Nat.le_refl _) (by omega) (by rw [hz2]; omega) (by omega) (by simp) (fun _ => rfl) (by simp)).mono ?_
  rintro e w' ⟨rfl, rfl⟩
  refine ⟨_, _, rfl, ?_, ((Below.refl _ _).drew).alloc (Nat.le_refl _) _⟩
  have hge := grownCap_ge w (0 + k) 0 (Try.growT_ren.t 25)
  refine ⟨rfl, .inr ⟨w.heap.size, _, _, rfl, Nat.le_refl _, heap_alloc_new w.drew _, Nat.zero_le _, grownCap_le_maxLen _ _ _ _ (by unfold maxLen; omega), ?_, by simp⟩⟩
  rw [Array.size_append, Array.size_append, size_zeros3 _ _ rfl, size_zeros3 _ _ rfl]
  simp only [Nat.zero_add] at hge ⊢
  simp
  omega
theorem grow_strike (z : Int) (w : World) (h0 : 0 < z) (hz : z ≤ 4194304) :
    Calls Try.prog 130 #[.slice none 0 0, .int .i64 z] w fun e w' => ∃ A c, e = .returned (.slice A 0 c) ∧ w'.ownsRow w.heap.size 50 3 (.slice A 0 c) 0 [] ∧ Below w.heap.size w w' := by
  have := growT_any z.toNat w (by omega) (by omega)
  rwa [Int.toNat_of_nonneg (by omega)] at this
theorem own_shapeT {w : World} {base e size m : Nat} {v : Value} {xs : List Value} (h : w.ownsRow base e size v m xs) : ∃ A c, v = .slice A m c := by
  rcases h.2 with ⟨rfl, hn⟩ | ⟨g, cap, cur, rfl, _⟩
  · exact ⟨none, 0, by rw [hn]⟩
  · exact ⟨_, _, rfl⟩
set_option maxHeartbeats 1600000 in
set_option maxRecDepth 100000 in
theorem concatT_any (P b n c b' n' c' : Nat) (xs ys : List Iv) (w : World) (hP0 : w.cell? ⟨P, 0, none⟩ = some (.slice (some ⟨b, 0, none⟩) n c)) (hP1 : w.cell? ⟨P, 1, none⟩ = some (.slice (some ⟨b', 0, none⟩) n' c'))
    (hP : P < w.heap.size) (h : SRow 3 ivC w w.heap.size (some ⟨b, 0, none⟩) n xs) (h' : SRow 3 ivC w w.heap.size (some ⟨b', 0, none⟩) n' ys) (hn : n ≤ 1048576) (hn' : n' ≤ 1048576) (h0 : 0 < n') :
    Calls Try.prog 73 #[.slice (some ⟨P, 0, none⟩) 2 2] w fun e w' => ∃ A cap, e = .returned (.slice A (n + n') cap) ∧ w'.ownsRow w.heap.size 50 3 (.slice A (n + n') cap) (n + n') ((xs ++ ys).flatMap ivC) ∧ Below w.heap.size w w' := by
  obtain ⟨i0, hi, hz0, hz1, hz2⟩ := info_parts Try.info_Strike
  have hlx := h.1
  have hly := h'.1
  go_enter Try.func73, Try.ntmps73
  go_wp2
  refine wp_loop_rounds 3 ?_
  rw [rounds_succ]; go_wp2
  rw [rounds_succ]; go_wp2
  rw [rounds_succ]
  go_wp2_with (go_at_call 130; refine (grow_strike _ _ (by omega) (by omega)).mono ?_; rintro e w1 ⟨A1, c1, rfl, ho1, hb1⟩)
  have hq0 := (hb1.cell (p := ⟨P, 0, none⟩) hP).trans hP0
  have hq1 := (hb1.cell (p := ⟨P, 1, none⟩) hP).trans hP1
  have hr := h.below hb1
  have hr' := h'.below hb1
  have hbs := hb1.size
  clear hP0 hP1 h h'
  refine wp_loop_rounds 3 ?_
  rw [rounds_succ]
  go_wp2_with (at_builtin; refine wpList_append_own _ rfl (.tmp 31) (.tmp 32) 46 rfl w.heap.size 50 i0 (.agg #[.int .i64 0, .int .i64 0, .int .i64 0]) 3 24 Try.underlying46 hi hz0 hz1 hz2 rfl (by decide) _ _ _ rfl ho1 ⟨b, 0, none⟩ n c (xs.flatMap ivC) rfl ?_ ?_ ?_ ?_ ?_ ?_ ?_)
  · rw [flat_len ivC_len, hlx]
  · exact srow_cells ivC_len (by decide) hr
  · exact oneT xs
  · unfold maxLen; omega
  · omega
  · exact hbs
  intro v2 w2 ho2 hg2 _
  have hb2 := hb1.grown hg2 hbs (fun g hg => (ho1.lt g hg).1)
  have hq1' := (hb2.cell (p := ⟨P, 1, none⟩) hP).trans ((hb1.cell (p := ⟨P, 1, none⟩) hP).symm.trans hq1)
  have hr2 := hr'.keep (fun p hp => (hb2.cell hp).trans (hb1.cell hp).symm)
  have hbs2 := hb2.size
  clear hg2 ho1 hb1 hq0 hq1 hr hr' hbs
  go_wp2
  rw [rounds_succ]
  go_wp2_with (at_builtin; refine wpList_append_own _ rfl (.tmp 31) (.tmp 32) 46 rfl w.heap.size 50 i0 (.agg #[.int .i64 0, .int .i64 0, .int .i64 0]) 3 24 Try.underlying46 hi hz0 hz1 hz2 rfl (by decide) _ _ _ rfl ho2 ⟨b', 0, none⟩ n' c' (ys.flatMap ivC) rfl ?_ ?_ ?_ ?_ ?_ ?_ ?_)
  · rw [flat_len ivC_len, hly]
  · exact srow_cells ivC_len (by decide) hr2
  · exact oneT ys
  · unfold maxLen; omega
  · omega
  · exact hbs2
  intro v3 w3 ho3 hg3 _
  have hb3 := hb2.grown hg3 hbs2 (fun g hg => (ho2.lt g hg).1)
  clear hg3 ho2 hb2 hr2 hbs2 hq1'
  go_wp2
  rw [rounds_succ]
  go_wp2
  go_ret
  have ho4 : w3.ownsRow w.heap.size 50 3 v3 (n + n') ((xs ++ ys).flatMap ivC) := by rw [List.flatMap_append]; simpa using ho3
  obtain ⟨A3, c3, rfl⟩ := own_shapeT ho4
  exact ⟨A3, c3, rfl, ho4, hb3⟩
end Go.Proofs.Ytdpclbmcmgknjaa
