import Derived.Test.YtbamhnbmddopgaaGreatDoorChecked
import Derived.WalkKit
import Derived.ProofKit
import Derived.OpenShut
import Derived.ShutString
import Derived.ChangeOld
import Derived.Below
import Derived.Lib.Hide
import Derived.Test.YtbamhnbmddopgaaGreatDoorZOutC
namespace Go.Proofs.YtbamhnbmddopgaaGreatDoor
open Go.ChangeShapes Go.WideShapes Go.ChangeAt Go.RowKit
open Go.ChangeMaps (open_string shut_string)
set_option linter.unusedVariables false
set_option maxRecDepth 100000
set_option maxHeartbeats 3200000 in
theorem spec_LiftBan_any (o : Bool) (a1 a2 a3 : Addr) (n1 c1 n2 c2 n3 c3 : Nat) (ms : List Mb) (vs : List Iv) (bs : List Bn) (p : Int) (t : Int) (at_ : Int) (w : World)
    (h : RoomAt w w.heap.size (some a1) n1 (some a2) n2 (some a3) n3 ms vs bs) (hn : n1 + n2 + n3 ≤ 1048576) :
    Calls Tryz.prog 34 #[.agg #[.bool o, .slice (some a1) n1 c1, .slice (some a2) n2 c2, .slice (some a3) n3 c3], .int .i64 p, .int .i64 t, .int .i64 at_] w (RoomOut (liftS o ms vs bs p t at_) w) := by
  obtain ⟨rz, hrz⟩ : ∃ z, liftS o ms vs bs p t at_ = z := ⟨_, rfl⟩
  have HZ := Lib.hid hrz
  rw [hrz]
  clear hrz
  go_enter Tryz.func34, Tryz.ntmps34
  go_wp2_with fail
  obtain ⟨k0, k1, hb0⟩ := two_boxes w 32 32 #[.bool o, .slice (some a1) n1 c1, .slice (some a2) n2 c2, .slice (some a3) n3 c3] #[.bool false, .slice none 0 0, .slice none 0 0, .slice none 0 0]
  generalize ((w.alloc (.cells #[.bool o, .slice (some a1) n1 c1, .slice (some a2) n2 c2, .slice (some a3) n3 c3] 32)).alloc (.cells #[.bool false, .slice none 0 0, .slice none 0 0, .slice none 0 0] 32)) = W at *
  have h := h.to hb0
  have cI := l02Above_any w.heap.size _ _ _ n1 c1 n2 c2 n3 c3 W.heap.size ms vs bs p t 6 at_ W (k0.cell 1) (k0.cell 2) (k0.cell 3) h hn
  have fin : ∀ q, Below w.heap.size w (W.drewN q) := fun q => hb0.trans (Below.mono (drew_below ⟨q, rfl⟩) hb0.size)
  have HF := Lib.hid fin
  clear fin
  cases hA : aboveB ms vs bs p t 6 at_ with
  | false =>
    rw [hA] at cI
    have HR := Lib.hid (show rz = rNo by rw [← HZ.out, liftS, if_neg (by simp [hA])])
    have k1q := fun q => k1.drewN q
    have r0 : ∀ q, (W.drewN q).cell? ⟨w.heap.size + 1, 0, none⟩ = some (.bool false) := fun q => (k1q q).cell 0
    have r1 : ∀ q, (W.drewN q).cell? ⟨w.heap.size + 1, 1, none⟩ = some (.slice none 0 0) := fun q => (k1q q).cell 1
    have r2 : ∀ q, (W.drewN q).cell? ⟨w.heap.size + 1, 2, none⟩ = some (.slice none 0 0) := fun q => (k1q q).cell 2
    have r3 : ∀ q, (W.drewN q).cell? ⟨w.heap.size + 1, 3, none⟩ = some (.slice none 0 0) := fun q => (k1q q).cell 3
    have f0 := k1.frozen 0; have f1 := k1.frozen 1; have f2 := k1.frozen 2; have f3 := k1.frozen 3
    go_wp2_with (first | (go_at_call 68; refine cI.mono ?_; rintro e w' ⟨rfl, q, rfl⟩))
    refine bodyPost_ret (v := .tuple #[.agg #[.bool false, .slice none 0 0, .slice none 0 0, .slice none 0 0], .bool false]) (by simp [results, Tryz.results34, go_sem, r0, r1, r2, r3]) rfl ?_
    rw [HR.out]
    exact roomOut_no (((((HF.out q).setCell (by simp) _).setCell (by simp) _).setCell (by simp) _).setCell (by simp) _)
  | true =>
    rw [hA] at cI
    by_cases hB : t ∈ bids bs
    rotate_left
    · have HNB := Lib.hid hB
      have HR := Lib.hid (show rz = rNo by rw [← HZ.out, liftS, if_neg (by simp [hA, hB])])
      have k1q := fun q => k1.drewN q
      have r0 : ∀ q, (W.drewN q).cell? ⟨w.heap.size + 1, 0, none⟩ = some (.bool false) := fun q => (k1q q).cell 0
      have r1 : ∀ q, (W.drewN q).cell? ⟨w.heap.size + 1, 1, none⟩ = some (.slice none 0 0) := fun q => (k1q q).cell 1
      have r2 : ∀ q, (W.drewN q).cell? ⟨w.heap.size + 1, 2, none⟩ = some (.slice none 0 0) := fun q => (k1q q).cell 2
      have r3 : ∀ q, (W.drewN q).cell? ⟨w.heap.size + 1, 3, none⟩ = some (.slice none 0 0) := fun q => (k1q q).cell 3
      have f0 := k1.frozen 0; have f1 := k1.frozen 1; have f2 := k1.frozen 2; have f3 := k1.frozen 3
      clear hB
      go_wp2_with (first | (go_at_call 68; refine cI.mono ?_; rintro e w' ⟨rfl, q, rfl⟩) | (go_at_call 71; refine (l02Banned_no w.heap.size _ n3 c3 W.heap.size bs t (W.drewN q) ((k0.drewN q).cell 3) (h.2.2.drewN q) (by omega) HNB.out).mono ?_; rintro e w' ⟨rfl, rfl⟩))
      refine bodyPost_ret (v := .tuple #[.agg #[.bool false, .slice none 0 0, .slice none 0 0, .slice none 0 0], .bool false]) (by simp [results, Tryz.results34, go_sem, r0, r1, r2, r3]) rfl ?_
      rw [HR.out]
      exact roomOut_no (((((HF.out q).setCell (by simp) _).setCell (by simp) _).setCell (by simp) _).setCell (by simp) _)
    · obtain ⟨KB, hK, hKf⟩ := first_at hB
      have HKB := Lib.hid (And.intro hK hKf)
      have HB := Lib.hid hB
      have eb0 : ¬ ((KB : Int) < 0) := by omega
      clear hK hKf hB
      have HY := Lib.hid (show (aboveB ms vs bs p t 6 at_ && decide (t ∈ bids bs)) = true by simp [hA, HB.out])
      go_wp2_with (first | (go_at_call 68; refine cI.mono ?_; rintro e w' ⟨rfl, q, rfl⟩) | (go_at_call 71; refine (l02Banned_at w.heap.size _ n3 c3 W.heap.size bs t (W.drewN q) ((k0.drewN q).cell 3) (h.2.2.drewN q) (by omega) KB HKB.out.1 HKB.out.2).mono ?_; rintro e w' ⟨rfl, rfl⟩))
      have HV := Lib.hid (above_room hA)
      have z1 := k1.lt
      have hD : RoomAt (W.drewN q) (W.drewN q).heap.size (some a1) n1 (some a2) n2 (some a3) n3 ms vs bs := h
      have kD := k0.drewN q
      have k1D := k1.drewN q
      have hbD : Below w.heap.size w (W.drewN q) := HF.out q
      have zD : w.heap.size + 1 < (W.drewN q).heap.size := z1
      clear h k0 k1 hb0 z1 cI HF
      generalize W.drewN q = W1 at *
      go_at_call 54; refine (l02Copy_any w.heap.size n1 c1 n2 c2 n3 c3 a1 a2 a3 o ms vs bs W1 kD hD hn).mono ?_; rintro e W2 ⟨B1, d1, B2, d2, B3, d3, rfl, hO, hb1⟩
      have k0 := kD.below hb1 kD.lt
      have k1 := k1D.below hb1 zD
      have h := hD.to hb1
      have hb0 := hbD.trans (hb1.mono hbD.size)
      have zE := k1.lt
      have hO := hO.mono (Nat.succ_le_of_lt zD)
      clear hb1 kD k1D hbD hD
      obtain ⟨q1, hb1⟩ := one_box W2 32 #[.bool o, .slice B1 n1 d1, .slice B2 n2 d2, .slice (some ⟨W2.heap.size + 1, 0, none⟩) 0 0]
      have hO2 := hO.below hb1 (Nat.le_refl _)
      have ho := World.ownsRow_made (W2.alloc (.cells #[.bool o, .slice B1 n1 d1, .slice B2 n2 d2, .slice (some ⟨W2.heap.size + 1, 0, none⟩) 0 0] 32)) (base := W2.heap.size) (e := 56) (size := 2) #[] 0 hb1.size (by decide) rfl
      simp only [alloc_sz'] at ho
      have hY : OutAt ((W2.alloc (.cells #[.bool o, .slice B1 n1 d1, .slice B2 n2 d2, .slice (some ⟨W2.heap.size + 1, 0, none⟩) 0 0] 32)).alloc (.cells #[] 56)) W2.heap.size (w.heap.size + 1).succ (w.heap.size + 1).succ W2.heap.size o (.slice B1 n1 d1) (.slice B2 n2 d2) (.slice (some ⟨W2.heap.size + 1, 0, none⟩) 0 0) n1 n2 0 ms vs [] := ⟨q1.alloc _, hO2.1.alloc _, hO2.2.1.alloc _, ho⟩
      have hbY := hb1.alloc hb1.size (.cells #[] 56)
      obtain ⟨i0, hi, hz0, hz1, hz2⟩ := info_parts Tryz.info_Ban
      have HB0 := Lib.hid h.2.2
      have HL := Lib.hid h.2.2.1
      have lk0 := k0.lt
      clear ho hO2 q1 hb1
      go_wp2_with fail
      clear hO
      go_loopw [11] (fun i wr => ∃ (k : Nat) (v : Value), k ≤ n3 ∧ i = .int .i64 k ∧ OutAt wr W2.heap.size (w.heap.size + 1).succ (w.heap.size + 1).succ W2.heap.size o (.slice B1 n1 d1) (.slice B2 n2 d2) v n1 n2 (dropK Bn.id t (bs.take k)).length ms vs (dropK Bn.id t (bs.take k)) ∧ Below W2.heap.size W2 wr) (fun i _ => n3 - (intOf i).toNat)
      case atStart => exact ⟨0, _, by omega, rfl, hY, hbY⟩
      case round =>
        obtain ⟨k, v, hk, rfl, hX, hbel⟩ := hrel
        clear hY hbY
        have hbs := hbel.size
        have kr := k0.below hbel lk0
        have p3 := kr.cell 3
        by_cases hlt : k < n3
        · obtain ⟨b, off, z, ha, hb, hz, c0, c1⟩ := HB0.out.atbn hlt
          injection ha with ha
          subst ha
          have dd0 : wr.cell? ⟨b, off + k * 2, none⟩ = some (.int .i64 z.id) := (hbel.cell hb).trans c0
          have dd1 : wr.cell? ⟨b, off + k * 2 + 1, none⟩ = some (.int .i64 z.til) := (hbel.cell hb).trans c1
          have hln := drop_take_len (k := Bn.id) (t := t) bs k
          have i0' : (0 : Int) ≤ (k : Int) := Int.natCast_nonneg _
          have i1' : (k : Int) < (n3 : Int) := by omega
          clear c0 c1
          by_cases he : z.id = t
          · have HS := Lib.hid (drop_take_same (k := Bn.id) hz he)
            have he' : (z.id != t) = false := by simp [he]
            clear hz he
            go_wp2
            go_roundw
            case rel => exact ⟨k + 1, v, by omega, by go_num, by rw [HS.out]; exact hX, hbel⟩
            case measure => simp [intOf]; omega
          · have HS := Lib.hid (drop_take_next (k := Bn.id) hz he)
            have he' : (z.id != t) = true := by simp [he]
            have q3 := hX.1.cell 3
            have q3a := (hX.1.alloc (.cells #[.int .i64 z.id, .int .i64 z.til] 56)).cell 3
            have hXa := hX.alloc (.cells #[.int .i64 z.id, .int .i64 z.til] 56)
            have hba := hbel.alloc hbs (.cells #[.int .i64 z.id, .int .i64 z.til] 56)
            have TST : ∀ (gg cap : Nat) (w1 : World), w1.ownsRow W2.heap.size 56 2 (.slice (some ⟨gg, 0, none⟩) ((dropK Bn.id t (bs.take k)).length + 1) cap) ((dropK Bn.id t (bs.take k)).length + 1) ((dropK Bn.id t (bs.take k)).flatMap bnC ++ [.int .i64 z.id, .int .i64 z.til]) → (wr.alloc (.cells #[.int .i64 z.id, .int .i64 z.til] 56)).drew.grownBy w1 v.ownBlock →
                (w1.cell? ⟨W2.heap.size, 3, none⟩ = some v ∧ w1.cell? ⟨w.heap.size, 3, none⟩ = some (.slice (some ⟨b, off, none⟩) n3 c3) ∧ w1.cell? ⟨b, off + k * 2, none⟩ = some (.int .i64 z.id) ∧ w1.cell? ⟨b, off + k * 2 + 1, none⟩ = some (.int .i64 z.til)) ∧ w1.frozen? ⟨W2.heap.size, 3, none⟩ = false ∧
                OutAt (w1.setCell ⟨W2.heap.size, 3, none⟩ (.slice (some ⟨gg, 0, none⟩) ((dropK Bn.id t (bs.take k)).length + 1) cap)) W2.heap.size (w.heap.size + 1).succ (w.heap.size + 1).succ W2.heap.size o (.slice B1 n1 d1) (.slice B2 n2 d2) (.slice (some ⟨gg, 0, none⟩) ((dropK Bn.id t (bs.take k)).length + 1) cap) n1 n2 ((dropK Bn.id t (bs.take k)).length + 1) ms vs (dropK Bn.id t (bs.take k) ++ [z]) ∧
                Below W2.heap.size W2 (w1.setCell ⟨W2.heap.size, 3, none⟩ (.slice (some ⟨gg, 0, none⟩) ((dropK Bn.id t (bs.take k)).length + 1) cap)) := by
              intro gg cap w1 hown1 hgrow
              have hXa : OutAt (wr.alloc (.cells #[.int .i64 z.id, .int .i64 z.til] 56)).drew W2.heap.size (w.heap.size + 1).succ (w.heap.size + 1).succ W2.heap.size o (.slice B1 n1 d1) (.slice B2 n2 d2) v n1 n2 (dropK Bn.id t (bs.take k)).length ms vs (dropK Bn.id t (bs.take k)) := hXa
              have hbb := hba.drew.grown hgrow hba.size (own_ge hX.2.2.2 (Nat.le_refl _))
              have hk1 := hXa.1.grown hgrow (blk_apart hXa.1 hXa.2.2.2 (by decide))
              exact ⟨⟨hk1.cell 3, (hbb.cell (p := ⟨w.heap.size, 3, none⟩) lk0).trans (k0.cell 3), (hbb.cell (p := ⟨b, off + k * 2, none⟩) hb).trans ((hbel.cell hb).symm.trans dd0), (hbb.cell (p := ⟨b, off + k * 2 + 1, none⟩) hb).trans ((hbel.cell hb).symm.trans dd1)⟩, hk1.frozen 3, hXa.putB (bs' := dropK Bn.id t (bs.take k) ++ [z]) hgrow (by rw [List.flatMap_append]; exact hown1), hbb.setCell (Nat.le_refl _) _⟩
            have TS := Lib.hid TST
            clear TST
            go_wp2_with fail
            go_region_law ((first | (refine step_append_lies _ (by rfl) _ _ _ (by rfl) W2.heap.size 56 i0 _ 2 16 Tryz.underlying30 hi hz0 hz1 hz2 rfl (by omega) v (dropK Bn.id t (bs.take k)).length ((dropK Bn.id t (bs.take k)).flatMap bnC) (by rfl) hXa.2.2.2 ⟨wr.heap.size, 0, none⟩ 1 1 [.int .i64 z.id, .int .i64 z.til] (by rfl) (by rfl) (World.news_of_block (cs := #[.int .i64 z.id, .int .i64 z.til]) (t := 56) (fr := (0, 0)) (heap_alloc_new wr _)) (by simp [Value.oneCell']) (by omega) (by unfold maxLen; omega) (by omega) (by simp; omega) (wr.heap.size + 1) (by simp) ?_; intro gg cap w1 hown1 hgrow hat hlt1; obtain ⟨hSb, f3b, hZ, hbZ⟩ := TS.out gg cap w1 hown1 hgrow)))
            all_goals go_wp2
            all_goals go_roundw
            all_goals first | exact ⟨k + 1, _, by omega, by go_num, by rw [HS.out, List.length_append]; exact hZ, hbZ⟩ | (simp [intOf]; omega)
        · have hkn : k = n3 := by omega
          subst hkn
          rw [List.take_of_length_le (by have := HL.out; omega)] at hX
          obtain ⟨B4, d4, rfl⟩ := own_form hX.2.2.2
          have hb5 := hb0.trans (hbel.mono hb0.size)
          have k1 := k1.below hbel zE
          have l0 := hX.1.cell 0; have l1 := hX.1.cell 1; have l2 := hX.1.cell 2; have l3 := hX.1.cell 3
          have r0 := k1.cell 0; have r1 := k1.cell 1; have r2 := k1.cell 2; have r3 := k1.cell 3
          have f0 := k1.frozen 0; have f1 := k1.frozen 1; have f2 := k1.frozen 2; have f3 := k1.frozen 3
          have hRO := hX.room (base := (w.heap.size + 1).succ) (Nat.le_refl _) (Nat.le_refl _) (Nat.succ_le_of_lt zE)
          have hnn : n1 + n2 + (dropK Bn.id t bs).length ≤ 1048576 := by have := drop_len (k := Bn.id) (t := t) (xs := bs); have := HL.out; omega
          have HR := Lib.hid (show rz = ⟨o, ms, vs, dropK Bn.id t bs, true⟩ by rw [← HZ.out, liftS, if_pos HY.out])
          clear hX hbel k0 hb0
          go_wp2
          refine bodyPost_ret (v := .tuple #[.agg #[.bool o, .slice B1 n1 d1, .slice B2 n2 d2, .slice B4 (dropK Bn.id t bs).length d4], .bool true]) (by simp [results, Tryz.results34, go_sem, r0, r1, r2, r3]) rfl ?_
          rw [HR.out]
          exact roomOut_yes (r := ⟨o, ms, vs, dropK Bn.id t bs, true⟩) ((hRO.far4 k1 _ _ _ _ _ _ _ _).mono (by omega)) (below_set4 hb5 (Nat.le_succ _) _ _ _ _ _ _ _ _) hnn
end Go.Proofs.YtbamhnbmddopgaaGreatDoor
