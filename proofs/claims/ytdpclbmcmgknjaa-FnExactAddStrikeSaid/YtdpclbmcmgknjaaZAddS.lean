import Derived.Test.YtdpclbmcmgknjaaChecked
import Derived.WalkKit
import Derived.ProofKit
import Derived.OpenShut
import Derived.ShutString
import Derived.ChangeOld
import Derived.Below
import Derived.Lib.Hide
import Derived.Deep.CutBlock
import Derived.RegionTactic
import Derived.BigRegion
import Derived.Test.YtdpclbmcmgknjaaZForS
import Derived.Test.YtdpclbmcmgknjaaZDelT
import Derived.Test.YtdpclbmcmgknjaaZWideT
namespace Go.Proofs.Ytdpclbmcmgknjaa
open Go.ChangeShapes Go.WideShapes Go.ChangeAt Go.RowKit
open Go.ChangeMaps (open_string shut_string)
set_option linter.unusedVariables false
set_option maxRecDepth 100000
theorem blk_cells {w : World} {g : Nat} {t : TypeId} {cs : Array Value} (h : Blk w g t cs) : ∀ (j : Nat) (u : Value), cs.toList[j]? = some u → w.cell? ((⟨g, 0, none⟩ : Addr).add j) = some u := by
  intro j u hu
  have := h.cell j
  rw [show cs[j]? = some u by simpa using hu] at this
  cases j <;> simpa [Addr.add] using this
/-- an own row of another make is another block -/
theorem own_ne_box {w : World} {base e size n g : Nat} {v : Value} {xs : List Value} {t : TypeId} {cs : Array Value} (h : w.ownsRow base e size v n xs) (k : Blk w g t cs) (hl : v.ownBlock ≠ some g) : some g ≠ v.ownBlock := fun e => hl e.symm
def addOk (xs : List Iv) (s : Iv) : Bool := strikesB (xs ++ [s])
set_option maxHeartbeats 6400000 in
theorem spec_AddStrike_any (g n c : Nat) (xs : List Iv) (s : Iv) (w : World) (h : SRow 3 ivC w w.heap.size (some ⟨g, 0, none⟩) n xs) (hn : n ≤ 1048576) :
    Calls Try.prog 25 #[.slice (some ⟨g, 0, none⟩) n c, .agg #[.int .i64 s.id, .int .i64 s.byy, .int .i64 s.til]] w fun e w' => StrOut (addOk xs s) (if addOk xs s = true then xs ++ [s] else []) w e w' := by
  obtain ⟨r, hr⟩ : ∃ z, addOk xs s = z := ⟨_, rfl⟩
  obtain ⟨zs, hzs⟩ : ∃ z, (if addOk xs s = true then xs ++ [s] else []) = z := ⟨_, rfl⟩
  rw [hzs, hr]
  have HZS := Lib.hid (And.intro hr hzs)
  clear hr hzs
  have HL := Lib.hid h.1
  obtain ⟨i0, hi, hz0, hz1, hz2⟩ := info_parts Try.info_Strike
  have HF := Lib.hid (show ∀ v3 w3, w3.ownsRow w.heap.size 50 3 v3 (n + 1) (xs.flatMap ivC ++ [.int .i64 s.id, .int .i64 s.byy, .int .i64 s.til]) → Below w.heap.size w w3 → (∃ A' c', v3 = .slice A' (n + 1) c' ∧ Hid (w3.ownsRow w.heap.size 50 3 (.slice A' (n + 1) c') (n + 1) ((xs ++ [s]).flatMap ivC)) ∧ Hid (Below w.heap.size w w3)) from fun v3 w3 ho hb => by
    have hs := ho.2
    rw [show xs.flatMap ivC ++ [.int .i64 s.id, .int .i64 s.byy, .int .i64 s.til] = (xs ++ [s]).flatMap ivC by rw [List.flatMap_append]; rfl] at ho
    rcases hs with ⟨hv, h0⟩ | ⟨g', cap, cur, hv, _⟩
    · omega
    · subst hv; exact ⟨_, _, rfl, Lib.hid ho, Lib.hid hb⟩)
  go_enter Try.func25, Try.ntmps25
  go_upto_region 1 with fail
  obtain ⟨kb, hbS⟩ := one_box w 50 #[.int .i64 s.id, .int .i64 s.byy, .int .i64 s.til]
  generalize w.alloc (.cells #[.int .i64 s.id, .int .i64 s.byy, .int .i64 s.til] 50) = W at *
  have HH := Lib.hid h
  clear h
  go_cut [6] from 7 to 12 (fun v wx => ∃ A' c', v = .slice A' (n + 1) c' ∧ Hid (wx.ownsRow w.heap.size 50 3 (.slice A' (n + 1) c') (n + 1) ((xs ++ [s]).flatMap ivC)) ∧ Hid (Below w.heap.size w wx))
  case first =>
    have kb : Blk W.drew w.heap.size 50 #[.int .i64 s.id, .int .i64 s.byy, .int .i64 s.til] := kb
    have hbS : Below w.heap.size w W.drew := hbS.drew
    refine wp_region_any (by kernel_rfl) ?_
    (try (change wpAny _ _ _ _ _ _ _ (World.drew _)))
    generalize W.drew = D0 at *
    refine wpAny_take (i := 1) (v := ?_) rfl (by kernel_rfl) (by kernel_rfl) (by kernel_rfl) (fun _ _ _ h => h) (Or.inl ⟨by rfl, ?_⟩) ?_
    rotate_left 1
    · intro w; go_simp; with_reducible rfl
    refine wpAny_ready (rs := [0, 3]) (by kernel_rfl) (by simp) ?_
    refine AllReady.cons rfl (fun K hK => ?_) ?_
    · skip
      go_simp
      refine hK _ _ ?_
      clear hK K
      have ne0 : w.heap.size ≠ D0.heap.size := Nat.ne_of_lt kb.lt
      have hX := World.ownsRow_made D0 (base := w.heap.size) (e := 50) (size := 3) #[] 0 hbS.size (by decide) rfl
      have hbS := hbS.alloc hbS.size (.cells #[] 50)
      have kb := kb.alloc (.cells #[] 50)
      generalize hg0 : D0.heap.size = gX at *
      generalize D0.alloc (.cells #[] 50) = D1 at *
      refine wpAny_ready (rs := [2, 3]) (by kernel_rfl) (by simp) ?_
      refine AllReady.cons rfl (fun K hK => ?_) ?_
      · skip
        rw [if_pos (by rfl)]
        refine wp_append_own D1 (.tmp 7) (.tmp 8) 46 rfl w.heap.size 50 i0 (.agg #[.int .i64 0, .int .i64 0, .int .i64 0]) 3 24 Try.underlying46 hi hz0 hz1 hz2 rfl (by decide) _ 0 [] rfl hX ⟨g, 0, none⟩ n c (xs.flatMap ivC) rfl (by rw [flat_len ivC_len, HL.out]) (srow_cells ivC_len (by decide) (HH.out.below hbS)) (oneT xs) (by unfold maxLen; omega) (by omega) hbS.size ?_
        intro v2 w2 ho2 hg2 _
        refine hK _ _ ?_
        clear hK K
        simp only [Nat.zero_add, List.nil_append] at ho2
        have kb := kb.grown hg2 (by intro e; exact ne0 (Option.some.inj e))
        have hbS := hbS.grown hg2 hbS.size (fun g hg => (hX.lt g hg).1)
        clear hX hg2
        refine wpAny_ready (rs := [3]) (by kernel_rfl) (by simp) ?_
        refine AllReady.cons rfl (fun K hK => ?_) ?_
        · skip
          have c0 := kb.cell 0; have c1 := kb.cell 1; have c2 := kb.cell 2; have clt := kb.lt
          go_simp
          clear c0 c1 c2 clt
          refine hK _ _ ?_
          clear hK K
          refine wpAny_ready (rs := [4]) (by kernel_rfl) (by simp) ?_
          refine AllReady.cons rfl (fun K hK => ?_) ?_
          · skip
            go_simp
            refine hK _ _ ?_
            clear hK K
            have kS := Blk.new w2 50 #[.int .i64 s.id, .int .i64 s.byy, .int .i64 s.til]
            have hbS := hbS.alloc hbS.size (.cells #[.int .i64 s.id, .int .i64 s.byy, .int .i64 s.til] 50)
            have kb := kb.alloc (.cells #[.int .i64 s.id, .int .i64 s.byy, .int .i64 s.til] 50)
            have ho2 := ho2.alloc (.cells #[.int .i64 s.id, .int .i64 s.byy, .int .i64 s.til] 50)
            generalize hg1 : w2.heap.size = gS at *
            generalize w2.alloc (.cells #[.int .i64 s.id, .int .i64 s.byy, .int .i64 s.til] 50) = D4 at *
            refine wpAny_ready (rs := [5]) (by kernel_rfl) (by simp) ?_
            refine AllReady.cons rfl (fun K hK => ?_) AllReady.nil
            rw [if_pos (by rfl)]
            refine wp_append_own D4 (.tmp 9) (.tmp 11) 46 rfl w.heap.size 50 i0 (.agg #[.int .i64 0, .int .i64 0, .int .i64 0]) 3 24 Try.underlying46 hi hz0 hz1 hz2 rfl (by decide) _ n (xs.flatMap ivC) rfl ho2 ⟨gS, 0, none⟩ 1 1 [.int .i64 s.id, .int .i64 s.byy, .int .i64 s.til] rfl rfl (blk_cells kS) (ivC_ne s) (by unfold maxLen; omega) (by omega) hbS.size ?_
            intro v3 w3 ho3 hg3 _
            refine hK _ _ ?_
            clear hK K
            have hb3 := hbS.grown hg3 hbS.size (fun g hg => (ho2.lt g hg).1)
            refine wpAny_take (i := 6) (v := ?_) rfl (by kernel_rfl) (by kernel_rfl) (by kernel_rfl) (fun _ _ _ h => h) (Or.inl ⟨by rfl, ?_⟩) ?_
            rotate_left 1
            · intro w; go_simp; with_reducible rfl
            refine wpAny_done (by kernel_rfl) ?_ _
            go_wp2_with fail
            go_meet
            exact HF.out _ _ ho3 hb3
          exact AllReady.nil
        exact AllReady.nil
      refine AllReady.cons rfl (fun K hK => ?_) ?_
      · skip
        have c0 := kb.cell 0; have c1 := kb.cell 1; have c2 := kb.cell 2; have clt := kb.lt
        go_simp
        clear c0 c1 c2 clt
        refine hK _ _ ?_
        clear hK K
        refine wpAny_ready (rs := [2, 4]) (by kernel_rfl) (by simp) ?_
        refine AllReady.cons rfl (fun K hK => ?_) ?_
        · skip
          rw [if_pos (by rfl)]
          refine wp_append_own D1 (.tmp 7) (.tmp 8) 46 rfl w.heap.size 50 i0 (.agg #[.int .i64 0, .int .i64 0, .int .i64 0]) 3 24 Try.underlying46 hi hz0 hz1 hz2 rfl (by decide) _ 0 [] rfl hX ⟨g, 0, none⟩ n c (xs.flatMap ivC) rfl (by rw [flat_len ivC_len, HL.out]) (srow_cells ivC_len (by decide) (HH.out.below hbS)) (oneT xs) (by unfold maxLen; omega) (by omega) hbS.size ?_
          intro v2 w2 ho2 hg2 _
          refine hK _ _ ?_
          clear hK K
          simp only [Nat.zero_add, List.nil_append] at ho2
          have kb := kb.grown hg2 (by intro e; exact ne0 (Option.some.inj e))
          have hbS := hbS.grown hg2 hbS.size (fun g hg => (hX.lt g hg).1)
          clear hX hg2
          refine wpAny_ready (rs := [4]) (by kernel_rfl) (by simp) ?_
          refine AllReady.cons rfl (fun K hK => ?_) ?_
          · skip
            go_simp
            refine hK _ _ ?_
            clear hK K
            have kS := Blk.new w2 50 #[.int .i64 s.id, .int .i64 s.byy, .int .i64 s.til]
            have hbS := hbS.alloc hbS.size (.cells #[.int .i64 s.id, .int .i64 s.byy, .int .i64 s.til] 50)
            have kb := kb.alloc (.cells #[.int .i64 s.id, .int .i64 s.byy, .int .i64 s.til] 50)
            have ho2 := ho2.alloc (.cells #[.int .i64 s.id, .int .i64 s.byy, .int .i64 s.til] 50)
            generalize hg1 : w2.heap.size = gS at *
            generalize w2.alloc (.cells #[.int .i64 s.id, .int .i64 s.byy, .int .i64 s.til] 50) = D4 at *
            refine wpAny_ready (rs := [5]) (by kernel_rfl) (by simp) ?_
            refine AllReady.cons rfl (fun K hK => ?_) AllReady.nil
            rw [if_pos (by rfl)]
            refine wp_append_own D4 (.tmp 9) (.tmp 11) 46 rfl w.heap.size 50 i0 (.agg #[.int .i64 0, .int .i64 0, .int .i64 0]) 3 24 Try.underlying46 hi hz0 hz1 hz2 rfl (by decide) _ n (xs.flatMap ivC) rfl ho2 ⟨gS, 0, none⟩ 1 1 [.int .i64 s.id, .int .i64 s.byy, .int .i64 s.til] rfl rfl (blk_cells kS) (ivC_ne s) (by unfold maxLen; omega) (by omega) hbS.size ?_
            intro v3 w3 ho3 hg3 _
            refine hK _ _ ?_
            clear hK K
            have hb3 := hbS.grown hg3 hbS.size (fun g hg => (ho2.lt g hg).1)
            refine wpAny_take (i := 6) (v := ?_) rfl (by kernel_rfl) (by kernel_rfl) (by kernel_rfl) (fun _ _ _ h => h) (Or.inl ⟨by rfl, ?_⟩) ?_
            rotate_left 1
            · intro w; go_simp; with_reducible rfl
            refine wpAny_done (by kernel_rfl) ?_ _
            go_wp2_with fail
            go_meet
            exact HF.out _ _ ho3 hb3
          exact AllReady.nil
        refine AllReady.cons rfl (fun K hK => ?_) ?_
        · skip
          go_simp
          refine hK _ _ ?_
          clear hK K
          have kS := Blk.new D1 50 #[.int .i64 s.id, .int .i64 s.byy, .int .i64 s.til]
          have hbS := hbS.alloc hbS.size (.cells #[.int .i64 s.id, .int .i64 s.byy, .int .i64 s.til] 50)
          have kb := kb.alloc (.cells #[.int .i64 s.id, .int .i64 s.byy, .int .i64 s.til] 50)
          have ne1 : D1.heap.size ≠ gX := (Nat.ne_of_lt (hX.lt gX rfl).2).symm
          have hX := hX.alloc (.cells #[.int .i64 s.id, .int .i64 s.byy, .int .i64 s.til] 50)
          generalize hg1 : D1.heap.size = gS at *
          generalize D1.alloc (.cells #[.int .i64 s.id, .int .i64 s.byy, .int .i64 s.til] 50) = D3 at *
          refine wpAny_ready (rs := [2]) (by kernel_rfl) (by simp) ?_
          refine AllReady.cons rfl (fun K hK => ?_) ?_
          · skip
            rw [if_pos (by rfl)]
            refine wp_append_own D3 (.tmp 7) (.tmp 8) 46 rfl w.heap.size 50 i0 (.agg #[.int .i64 0, .int .i64 0, .int .i64 0]) 3 24 Try.underlying46 hi hz0 hz1 hz2 rfl (by decide) _ 0 [] rfl hX ⟨g, 0, none⟩ n c (xs.flatMap ivC) rfl (by rw [flat_len ivC_len, HL.out]) (srow_cells ivC_len (by decide) (HH.out.below hbS)) (oneT xs) (by unfold maxLen; omega) (by omega) hbS.size ?_
            intro v2 w2 ho2 hg2 _
            refine hK _ _ ?_
            clear hK K
            simp only [Nat.zero_add, List.nil_append] at ho2
            have kb := kb.grown hg2 (by intro e; exact ne0 (Option.some.inj e))
            have kS := kS.grown hg2 (by intro e; exact ne1 (Option.some.inj e))
            have hbS := hbS.grown hg2 hbS.size (fun g hg => (hX.lt g hg).1)
            clear hX hg2
            refine wpAny_ready (rs := [5]) (by kernel_rfl) (by simp) ?_
            refine AllReady.cons rfl (fun K hK => ?_) AllReady.nil
            rw [if_pos (by rfl)]
            refine wp_append_own w2 (.tmp 9) (.tmp 11) 46 rfl w.heap.size 50 i0 (.agg #[.int .i64 0, .int .i64 0, .int .i64 0]) 3 24 Try.underlying46 hi hz0 hz1 hz2 rfl (by decide) _ n (xs.flatMap ivC) rfl ho2 ⟨gS, 0, none⟩ 1 1 [.int .i64 s.id, .int .i64 s.byy, .int .i64 s.til] rfl rfl (blk_cells kS) (ivC_ne s) (by unfold maxLen; omega) (by omega) hbS.size ?_
            intro v3 w3 ho3 hg3 _
            refine hK _ _ ?_
            clear hK K
            have hb3 := hbS.grown hg3 hbS.size (fun g hg => (ho2.lt g hg).1)
            refine wpAny_take (i := 6) (v := ?_) rfl (by kernel_rfl) (by kernel_rfl) (by kernel_rfl) (fun _ _ _ h => h) (Or.inl ⟨by rfl, ?_⟩) ?_
            rotate_left 1
            · intro w; go_simp; with_reducible rfl
            refine wpAny_done (by kernel_rfl) ?_ _
            go_wp2_with fail
            go_meet
            exact HF.out _ _ ho3 hb3
          exact AllReady.nil
        exact AllReady.nil
      exact AllReady.nil
    refine AllReady.cons rfl (fun K hK => ?_) ?_
    · skip
      have c0 := kb.cell 0; have c1 := kb.cell 1; have c2 := kb.cell 2; have clt := kb.lt
      go_simp
      clear c0 c1 c2 clt
      refine hK _ _ ?_
      clear hK K
      refine wpAny_ready (rs := [0, 4]) (by kernel_rfl) (by simp) ?_
      refine AllReady.cons rfl (fun K hK => ?_) ?_
      · skip
        go_simp
        refine hK _ _ ?_
        clear hK K
        have ne0 : w.heap.size ≠ D0.heap.size := Nat.ne_of_lt kb.lt
        have hX := World.ownsRow_made D0 (base := w.heap.size) (e := 50) (size := 3) #[] 0 hbS.size (by decide) rfl
        have hbS := hbS.alloc hbS.size (.cells #[] 50)
        have kb := kb.alloc (.cells #[] 50)
        generalize hg0 : D0.heap.size = gX at *
        generalize D0.alloc (.cells #[] 50) = D2 at *
        refine wpAny_ready (rs := [2, 4]) (by kernel_rfl) (by simp) ?_
        refine AllReady.cons rfl (fun K hK => ?_) ?_
        · skip
          rw [if_pos (by rfl)]
          refine wp_append_own D2 (.tmp 7) (.tmp 8) 46 rfl w.heap.size 50 i0 (.agg #[.int .i64 0, .int .i64 0, .int .i64 0]) 3 24 Try.underlying46 hi hz0 hz1 hz2 rfl (by decide) _ 0 [] rfl hX ⟨g, 0, none⟩ n c (xs.flatMap ivC) rfl (by rw [flat_len ivC_len, HL.out]) (srow_cells ivC_len (by decide) (HH.out.below hbS)) (oneT xs) (by unfold maxLen; omega) (by omega) hbS.size ?_
          intro v2 w2 ho2 hg2 _
          refine hK _ _ ?_
          clear hK K
          simp only [Nat.zero_add, List.nil_append] at ho2
          have kb := kb.grown hg2 (by intro e; exact ne0 (Option.some.inj e))
          have hbS := hbS.grown hg2 hbS.size (fun g hg => (hX.lt g hg).1)
          clear hX hg2
          refine wpAny_ready (rs := [4]) (by kernel_rfl) (by simp) ?_
          refine AllReady.cons rfl (fun K hK => ?_) ?_
          · skip
            go_simp
            refine hK _ _ ?_
            clear hK K
            have kS := Blk.new w2 50 #[.int .i64 s.id, .int .i64 s.byy, .int .i64 s.til]
            have hbS := hbS.alloc hbS.size (.cells #[.int .i64 s.id, .int .i64 s.byy, .int .i64 s.til] 50)
            have kb := kb.alloc (.cells #[.int .i64 s.id, .int .i64 s.byy, .int .i64 s.til] 50)
            have ho2 := ho2.alloc (.cells #[.int .i64 s.id, .int .i64 s.byy, .int .i64 s.til] 50)
            generalize hg1 : w2.heap.size = gS at *
            generalize w2.alloc (.cells #[.int .i64 s.id, .int .i64 s.byy, .int .i64 s.til] 50) = D4 at *
            refine wpAny_ready (rs := [5]) (by kernel_rfl) (by simp) ?_
            refine AllReady.cons rfl (fun K hK => ?_) AllReady.nil
            rw [if_pos (by rfl)]
            refine wp_append_own D4 (.tmp 9) (.tmp 11) 46 rfl w.heap.size 50 i0 (.agg #[.int .i64 0, .int .i64 0, .int .i64 0]) 3 24 Try.underlying46 hi hz0 hz1 hz2 rfl (by decide) _ n (xs.flatMap ivC) rfl ho2 ⟨gS, 0, none⟩ 1 1 [.int .i64 s.id, .int .i64 s.byy, .int .i64 s.til] rfl rfl (blk_cells kS) (ivC_ne s) (by unfold maxLen; omega) (by omega) hbS.size ?_
            intro v3 w3 ho3 hg3 _
            refine hK _ _ ?_
            clear hK K
            have hb3 := hbS.grown hg3 hbS.size (fun g hg => (ho2.lt g hg).1)
            refine wpAny_take (i := 6) (v := ?_) rfl (by kernel_rfl) (by kernel_rfl) (by kernel_rfl) (fun _ _ _ h => h) (Or.inl ⟨by rfl, ?_⟩) ?_
            rotate_left 1
            · intro w; go_simp; with_reducible rfl
            refine wpAny_done (by kernel_rfl) ?_ _
            go_wp2_with fail
            go_meet
            exact HF.out _ _ ho3 hb3
          exact AllReady.nil
        refine AllReady.cons rfl (fun K hK => ?_) ?_
        · skip
          go_simp
          refine hK _ _ ?_
          clear hK K
          have kS := Blk.new D2 50 #[.int .i64 s.id, .int .i64 s.byy, .int .i64 s.til]
          have hbS := hbS.alloc hbS.size (.cells #[.int .i64 s.id, .int .i64 s.byy, .int .i64 s.til] 50)
          have kb := kb.alloc (.cells #[.int .i64 s.id, .int .i64 s.byy, .int .i64 s.til] 50)
          have ne1 : D2.heap.size ≠ gX := (Nat.ne_of_lt (hX.lt gX rfl).2).symm
          have hX := hX.alloc (.cells #[.int .i64 s.id, .int .i64 s.byy, .int .i64 s.til] 50)
          generalize hg1 : D2.heap.size = gS at *
          generalize D2.alloc (.cells #[.int .i64 s.id, .int .i64 s.byy, .int .i64 s.til] 50) = D3 at *
          refine wpAny_ready (rs := [2]) (by kernel_rfl) (by simp) ?_
          refine AllReady.cons rfl (fun K hK => ?_) ?_
          · skip
            rw [if_pos (by rfl)]
            refine wp_append_own D3 (.tmp 7) (.tmp 8) 46 rfl w.heap.size 50 i0 (.agg #[.int .i64 0, .int .i64 0, .int .i64 0]) 3 24 Try.underlying46 hi hz0 hz1 hz2 rfl (by decide) _ 0 [] rfl hX ⟨g, 0, none⟩ n c (xs.flatMap ivC) rfl (by rw [flat_len ivC_len, HL.out]) (srow_cells ivC_len (by decide) (HH.out.below hbS)) (oneT xs) (by unfold maxLen; omega) (by omega) hbS.size ?_
            intro v2 w2 ho2 hg2 _
            refine hK _ _ ?_
            clear hK K
            simp only [Nat.zero_add, List.nil_append] at ho2
            have kb := kb.grown hg2 (by intro e; exact ne0 (Option.some.inj e))
            have kS := kS.grown hg2 (by intro e; exact ne1 (Option.some.inj e))
            have hbS := hbS.grown hg2 hbS.size (fun g hg => (hX.lt g hg).1)
            clear hX hg2
            refine wpAny_ready (rs := [5]) (by kernel_rfl) (by simp) ?_
            refine AllReady.cons rfl (fun K hK => ?_) AllReady.nil
            rw [if_pos (by rfl)]
            refine wp_append_own w2 (.tmp 9) (.tmp 11) 46 rfl w.heap.size 50 i0 (.agg #[.int .i64 0, .int .i64 0, .int .i64 0]) 3 24 Try.underlying46 hi hz0 hz1 hz2 rfl (by decide) _ n (xs.flatMap ivC) rfl ho2 ⟨gS, 0, none⟩ 1 1 [.int .i64 s.id, .int .i64 s.byy, .int .i64 s.til] rfl rfl (blk_cells kS) (ivC_ne s) (by unfold maxLen; omega) (by omega) hbS.size ?_
            intro v3 w3 ho3 hg3 _
            refine hK _ _ ?_
            clear hK K
            have hb3 := hbS.grown hg3 hbS.size (fun g hg => (ho2.lt g hg).1)
            refine wpAny_take (i := 6) (v := ?_) rfl (by kernel_rfl) (by kernel_rfl) (by kernel_rfl) (fun _ _ _ h => h) (Or.inl ⟨by rfl, ?_⟩) ?_
            rotate_left 1
            · intro w; go_simp; with_reducible rfl
            refine wpAny_done (by kernel_rfl) ?_ _
            go_wp2_with fail
            go_meet
            exact HF.out _ _ ho3 hb3
          exact AllReady.nil
        exact AllReady.nil
      refine AllReady.cons rfl (fun K hK => ?_) ?_
      · skip
        go_simp
        refine hK _ _ ?_
        clear hK K
        have kS := Blk.new D0 50 #[.int .i64 s.id, .int .i64 s.byy, .int .i64 s.til]
        have hbS := hbS.alloc hbS.size (.cells #[.int .i64 s.id, .int .i64 s.byy, .int .i64 s.til] 50)
        have kb := kb.alloc (.cells #[.int .i64 s.id, .int .i64 s.byy, .int .i64 s.til] 50)
        generalize hg1 : D0.heap.size = gS at *
        generalize D0.alloc (.cells #[.int .i64 s.id, .int .i64 s.byy, .int .i64 s.til] 50) = D2 at *
        refine wpAny_ready (rs := [0]) (by kernel_rfl) (by simp) ?_
        refine AllReady.cons rfl (fun K hK => ?_) ?_
        · skip
          go_simp
          refine hK _ _ ?_
          clear hK K
          have ne0 : w.heap.size ≠ D2.heap.size := Nat.ne_of_lt kb.lt
          have ne1 : gS ≠ D2.heap.size := Nat.ne_of_lt kS.lt
          have hX := World.ownsRow_made D2 (base := w.heap.size) (e := 50) (size := 3) #[] 0 hbS.size (by decide) rfl
          have hbS := hbS.alloc hbS.size (.cells #[] 50)
          have kb := kb.alloc (.cells #[] 50)
          have kS := kS.alloc (.cells #[] 50)
          generalize hg0 : D2.heap.size = gX at *
          generalize D2.alloc (.cells #[] 50) = D3 at *
          refine wpAny_ready (rs := [2]) (by kernel_rfl) (by simp) ?_
          refine AllReady.cons rfl (fun K hK => ?_) ?_
          · skip
            rw [if_pos (by rfl)]
            refine wp_append_own D3 (.tmp 7) (.tmp 8) 46 rfl w.heap.size 50 i0 (.agg #[.int .i64 0, .int .i64 0, .int .i64 0]) 3 24 Try.underlying46 hi hz0 hz1 hz2 rfl (by decide) _ 0 [] rfl hX ⟨g, 0, none⟩ n c (xs.flatMap ivC) rfl (by rw [flat_len ivC_len, HL.out]) (srow_cells ivC_len (by decide) (HH.out.below hbS)) (oneT xs) (by unfold maxLen; omega) (by omega) hbS.size ?_
            intro v2 w2 ho2 hg2 _
            refine hK _ _ ?_
            clear hK K
            simp only [Nat.zero_add, List.nil_append] at ho2
            have kb := kb.grown hg2 (by intro e; exact ne0 (Option.some.inj e))
            have kS := kS.grown hg2 (by intro e; exact ne1 (Option.some.inj e))
            have hbS := hbS.grown hg2 hbS.size (fun g hg => (hX.lt g hg).1)
            clear hX hg2
            refine wpAny_ready (rs := [5]) (by kernel_rfl) (by simp) ?_
            refine AllReady.cons rfl (fun K hK => ?_) AllReady.nil
            rw [if_pos (by rfl)]
            refine wp_append_own w2 (.tmp 9) (.tmp 11) 46 rfl w.heap.size 50 i0 (.agg #[.int .i64 0, .int .i64 0, .int .i64 0]) 3 24 Try.underlying46 hi hz0 hz1 hz2 rfl (by decide) _ n (xs.flatMap ivC) rfl ho2 ⟨gS, 0, none⟩ 1 1 [.int .i64 s.id, .int .i64 s.byy, .int .i64 s.til] rfl rfl (blk_cells kS) (ivC_ne s) (by unfold maxLen; omega) (by omega) hbS.size ?_
            intro v3 w3 ho3 hg3 _
            refine hK _ _ ?_
            clear hK K
            have hb3 := hbS.grown hg3 hbS.size (fun g hg => (ho2.lt g hg).1)
            refine wpAny_take (i := 6) (v := ?_) rfl (by kernel_rfl) (by kernel_rfl) (by kernel_rfl) (fun _ _ _ h => h) (Or.inl ⟨by rfl, ?_⟩) ?_
            rotate_left 1
            · intro w; go_simp; with_reducible rfl
            refine wpAny_done (by kernel_rfl) ?_ _
            go_wp2_with fail
            go_meet
            exact HF.out _ _ ho3 hb3
          exact AllReady.nil
        exact AllReady.nil
      exact AllReady.nil
    exact AllReady.nil
  case rest =>
    obtain ⟨A', c', rfl, HO, HB⟩ := hcut
    cases hA : addOk xs s with
    | false =>
      have HR := Lib.hid (show r = false ∧ zs = [] by rw [← HZS.out.1, ← HZS.out.2, hA]; exact ⟨rfl, rfl⟩)
      go_wp2_with (go_at_call 72; refine (l06Strikes_wide _ _ _ _ _ (SRow.of_own_any ivC_len (by omega) HO.out) (by omega)).mono ?_; rw [show rowG 64 skB skF (xs ++ [s]) = false from hA]; rintro e w1 ⟨rfl, hb1⟩)
      have hb2 := HB.out.trans (hb1.mono HB.out.size)
      all_goals exact bodyPost_ret (v := .tuple #[.slice none 0 0, .bool false]) (by simp [results, Try.results25, go_sem]) rfl (by rw [HR.out.1, HR.out.2]; exact strout_no hb2)
    | true =>
      have HR := Lib.hid (show r = true ∧ zs = xs ++ [s] by rw [← HZS.out.1, ← HZS.out.2, hA]; exact ⟨rfl, rfl⟩)
      go_wp2_with (go_at_call 72; refine (l06Strikes_wide _ _ _ _ _ (SRow.of_own_any ivC_len (by omega) HO.out) (by omega)).mono ?_; rw [show rowG 64 skB skF (xs ++ [s]) = true from hA]; rintro e w1 ⟨rfl, hb1⟩)
      have hb2 := HB.out.trans (hb1.mono HB.out.size)
      have ho2 := own_below HO.out hb1 (Nat.le_refl _)
      all_goals exact bodyPost_ret (v := .tuple #[.slice A' (n + 1) c', .bool true]) (by simp [results, Try.results25, go_sem]) rfl (by rw [HR.out.1, HR.out.2]; exact ⟨_, _, _, rfl, ho2, hb2⟩)
end Go.Proofs.Ytdpclbmcmgknjaa
