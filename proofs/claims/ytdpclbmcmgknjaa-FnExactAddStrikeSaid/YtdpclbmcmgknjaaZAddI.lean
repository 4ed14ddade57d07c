import Derived.Test.YtdpclbmcmgknjaaChecked
import Derived.WalkKit
import Derived.ProofKit
import Derived.OpenShut
import Derived.ShutString
import Derived.ChangeOld
import Derived.Below
import Derived.Lib.Hide
import Derived.Test.YtdpclbmcmgknjaaZAddS
import Derived.Test.YtdpclbmcmgknjaaZConT
import Derived.Test.YtdpclbmcmgknjaaZWideT
namespace Go.Proofs.Ytdpclbmcmgknjaa
open Go.ChangeShapes Go.WideShapes Go.ChangeAt Go.RowKit
open Go.ChangeMaps (open_string shut_string)
set_option linter.unusedVariables false
set_option maxRecDepth 100000
theorem three_boxesT (w : World) (t t' t'' : TypeId) (c c' c'' : Array Value) : Blk (((w.alloc (.cells c t)).alloc (.cells c' t')).alloc (.cells c'' t'')) w.heap.size t c ∧ Blk (((w.alloc (.cells c t)).alloc (.cells c' t')).alloc (.cells c'' t'')) (w.heap.size + 1) t' c' ∧ Blk (((w.alloc (.cells c t)).alloc (.cells c' t')).alloc (.cells c'' t'')) (w.heap.size + 1 + 1) t'' c'' ∧ Below w.heap.size w (((w.alloc (.cells c t)).alloc (.cells c' t')).alloc (.cells c'' t'')) := by
  obtain ⟨a, b, d⟩ := two_boxes w t t' c c'
  refine ⟨a.alloc _, b.alloc _, ?_, d.alloc (by simp; omega) _⟩
  have := Blk.new ((w.alloc (.cells c t)).alloc (.cells c' t')) t'' c''
  simpa using this
theorem add_len (xs : List Iv) (s : Iv) : (if addOk xs s = true then xs ++ [s] else []).length ≤ 1048576 := by
  split
  · rename_i q
    unfold addOk strikesB rowG at q
    simp only [Bool.and_eq_true, decide_eq_true_eq] at q
    have := q.1
    omega
  · simp
set_option maxHeartbeats 1000000 in
theorem impl_AddStrike_any (g n c : Nat) (xs : List Iv) (s : Iv) (w : World) (h : SRow 3 ivC w w.heap.size (some ⟨g, 0, none⟩) n xs) (hn : n ≤ 1048576) :
    Calls Try.prog 28 #[.slice (some ⟨g, 0, none⟩) n c, .agg #[.int .i64 s.id, .int .i64 s.byy, .int .i64 s.til]] w fun e w' => StrOut (addOk xs s) (if addOk xs s = true then xs ++ [s] else []) w e w' := by
  obtain ⟨r, hr⟩ : ∃ z, addOk xs s = z := ⟨_, rfl⟩
  obtain ⟨zs, hzs⟩ : ∃ z, (if addOk xs s = true then xs ++ [s] else []) = z := ⟨_, rfl⟩
  rw [hzs, hr]
  have HZS := Lib.hid (And.intro hr hzs)
  clear hr hzs
  go_enter Try.func28, Try.ntmps28
  go_wp2_with fail
  obtain ⟨_, kS, kP, hbS⟩ := three_boxesT w 50 50 46 #[.int .i64 s.id, .int .i64 s.byy, .int .i64 s.til] #[.int .i64 s.id, .int .i64 s.byy, .int .i64 s.til] #[.slice (some ⟨g, 0, none⟩) n c, .slice (some ⟨w.heap.size + 1, 0, none⟩) 1 1]
  have h := (h.below hbS).more hbS.size
  generalize (((w.alloc (.cells #[.int .i64 s.id, .int .i64 s.byy, .int .i64 s.til] 50)).alloc (.cells #[.int .i64 s.id, .int .i64 s.byy, .int .i64 s.til] 50)).alloc (.cells #[.slice (some ⟨g, 0, none⟩) n c, .slice (some ⟨w.heap.size + 1, 0, none⟩) 1 1] 46)) = W2 at *
  have hR : SRow 3 ivC W2 W2.heap.size (some ⟨w.heap.size + 1, 0, none⟩) 1 [s] := by
    refine ⟨rfl, fun _ => ⟨w.heap.size + 1, 0, rfl, kS.lt, fun j z hz => ?_⟩⟩
    match j, hz with
    | 0, hz =>
      cases hz
      intro i v hv
      have q := kS.cell i
      rw [show (#[.int .i64 s.id, .int .i64 s.byy, .int .i64 s.til] : Array Value)[i]? = some v by simpa [ivC] using hv] at q
      simpa using q
    | j + 1, hz => simp at hz
  go_at_call 73; refine (concatT_any _ _ _ _ _ _ _ xs [s] _ (kP.cell 0) (kP.cell 1) kP.lt h hR hn (by decide) (by decide)).mono ?_; rintro e w1 ⟨A', c', rfl, ho, hb1⟩
  have ho := World.ownsRow.mono ho hbS.size
  have hbS := hbS.trans (hb1.mono hbS.size)
  clear h hR kS kP hb1
  cases hA : addOk xs s with
  | false =>
    have HR := Lib.hid (show r = false ∧ zs = [] by rw [← HZS.out.1, ← HZS.out.2, hA]; exact ⟨rfl, rfl⟩)
    go_wp2_with (go_at_call 74; refine (impl_AreStrikes_wide _ _ _ _ _ (SRow.of_own_any ivC_len (by omega) ho) (by omega)).mono ?_; rw [show strikesB (xs ++ [s]) = false from hA]; rintro e w3 ⟨rfl, hb3⟩)
    have hb4 := hbS.trans (hb3.mono hbS.size)
    all_goals exact bodyPost_ret (v := .tuple #[.slice none 0 0, .bool false]) (by simp [results, Try.results28, go_sem]) rfl (by rw [HR.out.1, HR.out.2]; exact strout_no hb4)
  | true =>
    have HR := Lib.hid (show r = true ∧ zs = xs ++ [s] by rw [← HZS.out.1, ← HZS.out.2, hA]; exact ⟨rfl, rfl⟩)
    go_wp2_with (go_at_call 74; refine (impl_AreStrikes_wide _ _ _ _ _ (SRow.of_own_any ivC_len (by omega) ho) (by omega)).mono ?_; rw [show strikesB (xs ++ [s]) = true from hA]; rintro e w3 ⟨rfl, hb3⟩)
    have hb4 := hbS.trans (hb3.mono hbS.size)
    have ho4 := own_below ho hb3 (Nat.le_refl _)
    all_goals exact bodyPost_ret (v := .tuple #[.slice A' (n + 1) c', .bool true]) (by simp [results, Try.results28, go_sem]) rfl (by rw [HR.out.1, HR.out.2]; exact ⟨_, _, _, rfl, ho4, hb4⟩)
end Go.Proofs.Ytdpclbmcmgknjaa
