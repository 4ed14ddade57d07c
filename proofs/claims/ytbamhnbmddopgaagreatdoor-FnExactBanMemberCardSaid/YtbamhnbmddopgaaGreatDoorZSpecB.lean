import Derived.Test.YtbamhnbmddopgaaGreatDoorChecked
import Derived.WalkKit
import Derived.ProofKit
import Derived.OpenShut
import Derived.ShutString
import Derived.ChangeOld
import Derived.Below
import Derived.Lib.Hide
import Derived.Test.YtbamhnbmddopgaaGreatDoorZOutC
namespace Go.Proofs.YtbamhnbmddopgaaGreatDoor
open Go.ChangeShapes Go.WideShapes Go.ChangeAt Go.RowKit
open Go.ChangeMaps (open_string shut_string)
set_option linter.unusedVariables false
set_option maxRecDepth 100000
set_option maxHeartbeats 3200000 in
theorem spec_BanMember_any (o : Bool) (a1 a2 a3 : Addr) (n1 c1 n2 c2 n3 c3 : Nat) (ms : List Mb) (vs : List Iv) (bs : List Bn) (p : Int) (t : Int) (til : Int) (at_ : Int) (w : World)
    (h : RoomAt w w.heap.size (some a1) n1 (some a2) n2 (some a3) n3 ms vs bs) (hn : n1 + n2 + n3 ≤ 1048576) :
    Calls Tryz.prog 32 #[.agg #[.bool o, .slice (some a1) n1 c1, .slice (some a2) n2 c2, .slice (some a3) n3 c3], .int .i64 p, .int .i64 t, .int .i64 til, .int .i64 at_] w (RoomOut (banS o ms vs bs p t til at_) w) := by
  obtain ⟨rz, hrz⟩ : ∃ z, banS o ms vs bs p t til at_ = z := ⟨_, rfl⟩
  have HZ := Lib.hid hrz
  rw [hrz]
  clear hrz
  go_enter Tryz.func32, Tryz.ntmps32
  go_wp2_with fail
  obtain ⟨k0, k1, hb0⟩ := two_boxes w 32 32 #[.bool o, .slice (some a1) n1 c1, .slice (some a2) n2 c2, .slice (some a3) n3 c3] #[.bool false, .slice none 0 0, .slice none 0 0, .slice none 0 0]
  generalize ((w.alloc (.cells #[.bool o, .slice (some a1) n1 c1, .slice (some a2) n2 c2, .slice (some a3) n3 c3] 32)).alloc (.cells #[.bool false, .slice none 0 0, .slice none 0 0, .slice none 0 0] 32)) = W at *
  have h := h.to hb0
  have cI := l02Above_any w.heap.size _ _ _ n1 c1 n2 c2 n3 c3 W.heap.size ms vs bs p t 6 at_ W (k0.cell 1) (k0.cell 2) (k0.cell 3) h hn
  have fin : ∀ q, Below w.heap.size w (W.drewN q) := fun q => hb0.trans (Below.mono (drew_below ⟨q, rfl⟩) hb0.size)
  have HF := Lib.hid fin
  clear fin
  cases hA : aboveB ms vs bs p t 6 at_ with
  | false =>
    rw [hA] at cI
    have HR := Lib.hid (show rz = rNo by rw [← HZ.out, banS, if_neg (by simp [hA])])
    have k1q := fun q => k1.drewN q
    have r0 : ∀ q, (W.drewN q).cell? ⟨w.heap.size + 1, 0, none⟩ = some (.bool false) := fun q => (k1q q).cell 0
    have r1 : ∀ q, (W.drewN q).cell? ⟨w.heap.size + 1, 1, none⟩ = some (.slice none 0 0) := fun q => (k1q q).cell 1
    have r2 : ∀ q, (W.drewN q).cell? ⟨w.heap.size + 1, 2, none⟩ = some (.slice none 0 0) := fun q => (k1q q).cell 2
    have r3 : ∀ q, (W.drewN q).cell? ⟨w.heap.size + 1, 3, none⟩ = some (.slice none 0 0) := fun q => (k1q q).cell 3
    have f0 := k1.frozen 0; have f1 := k1.frozen 1; have f2 := k1.frozen 2; have f3 := k1.frozen 3
    go_wp2_with (first | (go_at_call 68; refine cI.mono ?_; rintro e w' ⟨rfl, q, rfl⟩))
    refine bodyPost_ret (v := .tuple #[.agg #[.bool false, .slice none 0 0, .slice none 0 0, .slice none 0 0], .bool false]) (by simp [results, Tryz.results32, go_sem, r0, r1, r2, r3]) rfl ?_
    rw [HR.out]
    exact roomOut_no (((((HF.out q).setCell (by simp) _).setCell (by simp) _).setCell (by simp) _).setCell (by simp) _)
  | true =>
    rw [hA] at cI
    cases hT : tickB til with
    | false =>
      have HR := Lib.hid (show rz = rNo by rw [← HZ.out, banS, if_neg (by simp [hA, hT])])
      have k1q := fun q => k1.drewN q
      have r0 : ∀ q, (W.drewN q).cell? ⟨w.heap.size + 1, 0, none⟩ = some (.bool false) := fun q => (k1q q).cell 0
      have r1 : ∀ q, (W.drewN q).cell? ⟨w.heap.size + 1, 1, none⟩ = some (.slice none 0 0) := fun q => (k1q q).cell 1
      have r2 : ∀ q, (W.drewN q).cell? ⟨w.heap.size + 1, 2, none⟩ = some (.slice none 0 0) := fun q => (k1q q).cell 2
      have r3 : ∀ q, (W.drewN q).cell? ⟨w.heap.size + 1, 3, none⟩ = some (.slice none 0 0) := fun q => (k1q q).cell 3
      have f0 := k1.frozen 0; have f1 := k1.frozen 1; have f2 := k1.frozen 2; have f3 := k1.frozen 3
      go_wp2_with (first | (go_at_call 68; refine cI.mono ?_; rintro e w' ⟨rfl, q, rfl⟩) | (go_at_call 69; refine (l02Tick_b _ _ _ hT).mono ?_; rintro e w' ⟨rfl, rfl⟩))
      refine bodyPost_ret (v := .tuple #[.agg #[.bool false, .slice none 0 0, .slice none 0 0, .slice none 0 0], .bool false]) (by simp [results, Tryz.results32, go_sem, r0, r1, r2, r3]) rfl ?_
      rw [HR.out]
      exact roomOut_no (((((HF.out q).setCell (by simp) _).setCell (by simp) _).setCell (by simp) _).setCell (by simp) _)
    | true =>
      by_cases hl : til < at_
      · have hl' : decide (til < at_) = true := decide_eq_true hl
        have HR := Lib.hid (show rz = rNo by rw [← HZ.out, banS, if_neg (by simp [hA, hT, hl])])
        have k1q := fun q => k1.drewN q
        have r0 : ∀ q, (W.drewN q).cell? ⟨w.heap.size + 1, 0, none⟩ = some (.bool false) := fun q => (k1q q).cell 0
        have r1 : ∀ q, (W.drewN q).cell? ⟨w.heap.size + 1, 1, none⟩ = some (.slice none 0 0) := fun q => (k1q q).cell 1
        have r2 : ∀ q, (W.drewN q).cell? ⟨w.heap.size + 1, 2, none⟩ = some (.slice none 0 0) := fun q => (k1q q).cell 2
        have r3 : ∀ q, (W.drewN q).cell? ⟨w.heap.size + 1, 3, none⟩ = some (.slice none 0 0) := fun q => (k1q q).cell 3
        have f0 := k1.frozen 0; have f1 := k1.frozen 1; have f2 := k1.frozen 2; have f3 := k1.frozen 3
        clear hl
        go_wp2_with (first | (go_at_call 68; refine cI.mono ?_; rintro e w' ⟨rfl, q, rfl⟩) | (go_at_call 69; refine (l02Tick_b _ _ _ hT).mono ?_; rintro e w' ⟨rfl, rfl⟩))
        refine bodyPost_ret (v := .tuple #[.agg #[.bool false, .slice none 0 0, .slice none 0 0, .slice none 0 0], .bool false]) (by simp [results, Tryz.results32, go_sem, r0, r1, r2, r3]) rfl ?_
        rw [HR.out]
        exact roomOut_no (((((HF.out q).setCell (by simp) _).setCell (by simp) _).setCell (by simp) _).setCell (by simp) _)
      · have hl' : decide (til < at_) = false := decide_eq_false hl
        have HL := Lib.hid hl
        clear hl
        have HY := Lib.hid (show (aboveB ms vs bs p t 6 at_ && tickB til && !decide (til < at_)) = true by simp [hA, hT, HL.out])
        go_wp2_with (first | (go_at_call 68; refine cI.mono ?_; rintro e w' ⟨rfl, q, rfl⟩) | (go_at_call 69; refine (l02Tick_b _ _ _ hT).mono ?_; rintro e w' ⟨rfl, rfl⟩))
        have HV := Lib.hid (above_room hA)
        have z1 := k1.lt
        have hD : RoomAt (W.drewN q) (W.drewN q).heap.size (some a1) n1 (some a2) n2 (some a3) n3 ms vs bs := h
        have kD := k0.drewN q
        have k1D := k1.drewN q
        have hbD : Below w.heap.size w (W.drewN q) := HF.out q
        have zD : w.heap.size + 1 < (W.drewN q).heap.size := z1
        clear h k0 k1 hb0 z1 cI HF
        generalize W.drewN q = W1 at *
        go_at_call 54; refine (l02Copy_any w.heap.size n1 c1 n2 c2 n3 c3 a1 a2 a3 o ms vs bs W1 kD hD hn).mono ?_; rintro e W2 ⟨B1, d1, B2, d2, B3, d3, rfl, hO, hb1⟩
        have k0 := kD.below hb1 kD.lt
        have k1 := k1D.below hb1 zD
        have h := hD.to hb1
        have hb0 := hbD.trans (hb1.mono hbD.size)
        have zE := k1.lt
        have hO := hO.mono (Nat.succ_le_of_lt zD)
        clear hb1 kD k1D hbD hD
        obtain ⟨q1, hb1⟩ := one_box W2 32 #[.bool o, .slice B1 n1 d1, .slice B2 n2 d2, .slice B3 n3 d3]
        have hX : OutAt (W2.alloc (.cells #[.bool o, .slice B1 n1 d1, .slice B2 n2 d2, .slice B3 n3 d3] 32)) W2.heap.size (w.heap.size + 1).succ (w.heap.size + 1).succ (w.heap.size + 1).succ o (.slice B1 n1 d1) (.slice B2 n2 d2) (.slice B3 n3 d3) n1 n2 n3 ms vs bs := ⟨q1, hO.below hb1 (Nat.le_refl _)⟩
        have hr1 := h.1.to hb1
        have lk0 := k0.lt
        have p1 := (k0.alloc (.cells #[.bool o, .slice B1 n1 d1, .slice B2 n2 d2, .slice B3 n3 d3] 32)).cell 1
        have HB0 := Lib.hid h
        have HL1 := Lib.hid h.1.1
        have HL2 := Lib.hid h.2.1.1
        have HL := Lib.hid h.2.2.1
        clear hO q1
        go_wp2_with fail
        generalize W2.alloc (.cells #[.bool o, .slice B1 n1 d1, .slice B2 n2 d2, .slice B3 n3 d3] 32) = X at *
        go_at_call 80; refine (l02Rest_any _ _ _ ms t _ hr1 (by omega)).mono ?_; rintro e W3 ⟨A4, m4, c4, rfl, rfl, ho4, hb4⟩
        have hx1 := hX.below hb4
        have hXm := hx1.setM ho4
        have hbm := (hb1.trans (hb4.mono hb1.size)).setCell (p := ⟨W2.heap.size, 1, none⟩) (Nat.le_refl _) (.slice A4 (dropK Mb.id t ms).length c4)
        have gx1 := hx1.1.cell 1
        have gf1 := hx1.1.frozen 1
        have zX := hb1.size
        have hr2 := HB0.out.2.1.to hbm
        have p2 := (k0.below (hb1.trans (hb4.mono hb1.size)) lk0).cell 2
        have ne1 : ¬ w.heap.size = W2.heap.size := by omega
        have ne2 : ¬ W2.heap.size = w.heap.size := by omega
        clear hb4 ho4 hx1 hX hr1 p1 hb1
        go_wp2_with fail
        clear gx1 gf1
        generalize W3.setCell ⟨W2.heap.size, 1, none⟩ (.slice A4 (dropK Mb.id t ms).length c4) = Y at *
        go_at_call 72; refine (l02Without_any _ _ _ vs t _ hr2 (by omega)).mono ?_; rintro e W4 ⟨A5, m5, c5, rfl, rfl, ho5, hb5⟩
        have hx2 := hXm.below hb5
        have hXi := hx2.setI ho5
        have hbi := (hbm.trans (hb5.mono hbm.size)).setCell (p := ⟨W2.heap.size, 2, none⟩) (Nat.le_refl _) (.slice A5 (dropK Iv.id t vs).length c5)
        have gx2 := hx2.1.cell 2
        have gf2 := hx2.1.frozen 2
        have zY := hbm.size
        clear hb5 ho5 hXm hr2 p2 hbm
        have ho6 := World.ownsRow_made (W4.setCell ⟨W2.heap.size, 2, none⟩ (.slice A5 (dropK Iv.id t vs).length c5)) (base := W2.heap.size) (e := 56) (size := 2) #[] 0 hbi.size (by decide) rfl
        have hXi0 := hXi.alloc (.cells #[] 56)
        have gx3 := hXi0.1.cell 3
        have gf3 := hXi0.1.frozen 3
        have gx4 := hx2.1.cell 3
        have gf4 := hx2.1.frozen 3
        have hXb := hXi0.setB (bs' := []) ho6
        have hbb0 := (hbi.alloc hbi.size (.cells #[] 56)).setCell (p := ⟨W2.heap.size, 3, none⟩) (Nat.le_refl _) (.slice (some ⟨(W4.setCell ⟨W2.heap.size, 2, none⟩ (.slice A5 (dropK Iv.id t vs).length c5)).heap.size, 0, none⟩) 0 0)
        simp only [sz_set] at hXb hbb0
        obtain ⟨i0, hi, hz0, hz1, hz2⟩ := info_parts Tryz.info_Ban
        have hqB := Nat.le_refl W2.heap.size
        clear hXi0 ho6 hXi hbi hx2
        go_wp2_with fail
        clear gx2 gf2 gx3 gf3 gx4 gf4
        go_loopw [13, 14] (fun pv i wr => ∃ (k : Nat) (v : Value) (pb : Bool), k ≤ n3 ∧ pv = .bool pb ∧ i = .int .i64 k ∧ OutAt (wr) W2.heap.size (X.heap.size) (Y.heap.size) (W2.heap.size) o (.slice A4 (dropK Mb.id t ms).length c4) (.slice A5 (dropK Iv.id t vs).length c5) v ((dropK Mb.id t ms).length) ((dropK Iv.id t vs).length) ((banL Bn.id (⟨t, til⟩ : Bn) pb (bs.take k)).length) (dropK Mb.id t ms) (dropK Iv.id t vs) (banL Bn.id (⟨t, til⟩ : Bn) pb (bs.take k)) ∧ banM Bn.id (⟨t, til⟩ : Bn) pb (bs.take k) ∧ Below W2.heap.size W2 wr) (fun _ i _ => n3 - (intOf i).toNat)
        case atStart => exact ⟨0, _, false, by omega, rfl, rfl, hXb, by simp [banM], hbb0⟩
        case round =>
          obtain ⟨k, v, pb, hk, rfl, rfl, hX, hM, hbel⟩ := hrel
          clear hXb hbb0
          have hbs := hbel.size
          have p3 := (k0.below hbel lk0).cell 3
          by_cases hlt : k < n3
          · obtain ⟨b, off, z, ha, hb, hz, c0, c1⟩ := HB0.out.2.2.atbn hlt
            injection ha with ha
            subst ha
            have dd0 : wr.cell? ⟨b, off + k * 2, none⟩ = some (.int .i64 z.id) := (hbel.cell hb).trans c0
            have dd1 : wr.cell? ⟨b, off + k * 2 + 1, none⟩ = some (.int .i64 z.til) := (hbel.cell hb).trans c1
            have HC := Lib.hid (And.intro c0 c1)
            have i0' : (0 : Int) ≤ (k : Int) := Int.natCast_nonneg _
            have i1' : (k : Int) < (n3 : Int) := by omega
            have hln := banL_len (k := Bn.id) (x := (⟨t, til⟩ : Bn)) (put := pb) (xs := bs) (n := k)
            have HM := Lib.hid hM
            have HV1 := HV.out.r3
            clear c0 c1 hM
            cases pb with
            | true =>
              have hgt := ban_put_lt HV1 hz HM.out
              have HM2 := Lib.hid (banM_put HM.out)
              have HS := Lib.hid (ban_put_step HV1 hz HM.out)
              have he' : (z.id != t) = true := by have : t < z.id := hgt; simp; omega
              clear HV1 hz hgt
              have q3 := hX.1.cell 3
              have q3a := (hX.1.alloc (.cells #[.int .i64 z.id, .int .i64 z.til] 56)).cell 3
              have hbal := hbel.alloc hbel.size (.cells #[.int .i64 z.id, .int .i64 z.til] 56)
              have p3a := (hbal.cell (p := ⟨w.heap.size, 3, none⟩) lk0).trans (k0.cell 3)
              have dd0a := (hbal.cell (p := ⟨b, off + k * 2, none⟩) hb).trans HC.out.1
              have dd1a := (hbal.cell (p := ⟨b, off + k * 2 + 1, none⟩) hb).trans HC.out.2
              clear hbal
              have T9 : ∀ (gg cap : Nat) (w1 : World), w1.ownsRow (W2.heap.size) 56 2 (.slice (some ⟨gg, 0, none⟩) ((banL Bn.id (⟨t, til⟩ : Bn) true (bs.take k)).length + 1) cap) ((banL Bn.id (⟨t, til⟩ : Bn) true (bs.take k)).length + 1) ((banL Bn.id (⟨t, til⟩ : Bn) true (bs.take k)).flatMap bnC ++ [.int .i64 z.id, .int .i64 z.til]) → (((wr).alloc (.cells #[.int .i64 z.id, .int .i64 z.til] 56)).drew).grownBy w1 v.ownBlock →
                  (w1.cell? ⟨W2.heap.size, 3, none⟩ = some v ∧ w1.frozen? ⟨W2.heap.size, 3, none⟩ = false) ∧ OutAt (w1.setCell ⟨W2.heap.size, 3, none⟩ (.slice (some ⟨gg, 0, none⟩) ((banL Bn.id (⟨t, til⟩ : Bn) true (bs.take k)).length + 1) cap)) W2.heap.size (X.heap.size) (Y.heap.size) (W2.heap.size) o (.slice A4 (dropK Mb.id t ms).length c4) (.slice A5 (dropK Iv.id t vs).length c5) (.slice (some ⟨gg, 0, none⟩) ((banL Bn.id (⟨t, til⟩ : Bn) true (bs.take k)).length + 1) cap) ((dropK Mb.id t ms).length) ((dropK Iv.id t vs).length) ((banL Bn.id (⟨t, til⟩ : Bn) true (bs.take k)).length + 1) (dropK Mb.id t ms) (dropK Iv.id t vs) (banL Bn.id (⟨t, til⟩ : Bn) true (bs.take k) ++ [z]) ∧ Below W2.heap.size W2 (w1.setCell ⟨W2.heap.size, 3, none⟩ (.slice (some ⟨gg, 0, none⟩) ((banL Bn.id (⟨t, til⟩ : Bn) true (bs.take k)).length + 1) cap)) := by
                intro gg cap w1 hown1 hgrow
                have hXa : OutAt (((wr).alloc (.cells #[.int .i64 z.id, .int .i64 z.til] 56)).drew) W2.heap.size (X.heap.size) (Y.heap.size) (W2.heap.size) o (.slice A4 (dropK Mb.id t ms).length c4) (.slice A5 (dropK Iv.id t vs).length c5) v ((dropK Mb.id t ms).length) ((dropK Iv.id t vs).length) ((banL Bn.id (⟨t, til⟩ : Bn) true (bs.take k)).length) (dropK Mb.id t ms) (dropK Iv.id t vs) (banL Bn.id (⟨t, til⟩ : Bn) true (bs.take k)) := hX.alloc _
                have hba : Below W2.heap.size W2 (((wr).alloc (.cells #[.int .i64 z.id, .int .i64 z.til] 56)).drew) := (hbel.alloc hbel.size _).drew
                have hbb := hba.grown hgrow hba.size (own_ge hXa.2.2.2 (Nat.le_of_lt_succ (Nat.lt_succ_of_le hqB)))
                have hk1 := hXa.1.grown hgrow (blk_apart hXa.1 hXa.2.2.2 (by decide))
                have hbc := hbb.setCell (p := ⟨W2.heap.size, 3, none⟩) (Nat.le_refl _) (.slice (some ⟨gg, 0, none⟩) ((banL Bn.id (⟨t, til⟩ : Bn) true (bs.take k)).length + 1) cap)
                exact ⟨⟨hk1.cell 3, hk1.frozen 3⟩, hXa.putB (bs' := banL Bn.id (⟨t, til⟩ : Bn) true (bs.take k) ++ [z]) hgrow (by rw [List.flatMap_append]; exact hown1), hbc⟩
              have TS9 := Lib.hid T9
              clear T9
              have hbz := hbel.size
              go_wp2_with fail
              go_region_law ((first | (refine step_append_lies _ (by rfl) _ _ _ (by rfl) (W2.heap.size) 56 i0 _ 2 16 Tryz.underlying30 hi hz0 hz1 hz2 rfl (by omega) v (banL Bn.id (⟨t, til⟩ : Bn) true (bs.take k)).length ((banL Bn.id (⟨t, til⟩ : Bn) true (bs.take k)).flatMap bnC) (by rfl) (hX.alloc _).2.2.2 ⟨(wr).heap.size, 0, none⟩ 1 1 [.int .i64 z.id, .int .i64 z.til] (by rfl) (by rfl) (World.news_of_block (cs := #[.int .i64 z.id, .int .i64 z.til]) (t := 56) (fr := (0, 0)) (heap_alloc_new (wr) _)) (by simp [Value.oneCell']) (by omega) (by unfold maxLen; omega) (by omega) (by simp; omega) ((wr).heap.size + 1) (by simp) ?_; intro gg cap w1 hown1 hgrow hat hlt1; obtain ⟨⟨q3b, f3b⟩, hZ, hbZ⟩ := TS9.out gg cap w1 hown1 hgrow)))
              all_goals go_wp2
              all_goals go_roundw
              all_goals first | exact ⟨k + 1, _, true, by omega, rfl, by go_num, by rw [HS.out, List.length_append]; exact hZ, HM2.out, hbZ⟩ | (simp [intOf]; omega)
            | false =>
              by_cases hge : t ≤ z.id
              · have hge' : decide (t ≤ z.id) = true := decide_eq_true hge
                have HM2 := Lib.hid (banM_now (x := (⟨t, til⟩ : Bn)) hz hge)
                have q3 := hX.1.cell 3
                have hbz := hbel.size
                have T8 : ∀ (gg cap : Nat) (w1 : World), w1.ownsRow (W2.heap.size) 56 2 (.slice (some ⟨gg, 0, none⟩) ((banL Bn.id (⟨t, til⟩ : Bn) false (bs.take k)).length + 1) cap) ((banL Bn.id (⟨t, til⟩ : Bn) false (bs.take k)).length + 1) ((banL Bn.id (⟨t, til⟩ : Bn) false (bs.take k)).flatMap bnC ++ [.int .i64 t, .int .i64 til]) → ((wr).alloc (.cells #[.int .i64 t, .int .i64 til] 56)).grownBy w1 v.ownBlock →
                    (w1.cell? ⟨W2.heap.size, 3, none⟩ = some v ∧ w1.frozen? ⟨W2.heap.size, 3, none⟩ = false) ∧ OutAt (w1.setCell ⟨W2.heap.size, 3, none⟩ (.slice (some ⟨gg, 0, none⟩) ((banL Bn.id (⟨t, til⟩ : Bn) false (bs.take k)).length + 1) cap)) W2.heap.size (X.heap.size) (Y.heap.size) (W2.heap.size) o (.slice A4 (dropK Mb.id t ms).length c4) (.slice A5 (dropK Iv.id t vs).length c5) (.slice (some ⟨gg, 0, none⟩) ((banL Bn.id (⟨t, til⟩ : Bn) false (bs.take k)).length + 1) cap) ((dropK Mb.id t ms).length) ((dropK Iv.id t vs).length) ((banL Bn.id (⟨t, til⟩ : Bn) false (bs.take k)).length + 1) (dropK Mb.id t ms) (dropK Iv.id t vs) (banL Bn.id (⟨t, til⟩ : Bn) false (bs.take k) ++ [(⟨t, til⟩ : Bn)]) ∧ Below W2.heap.size W2 (w1.setCell ⟨W2.heap.size, 3, none⟩ (.slice (some ⟨gg, 0, none⟩) ((banL Bn.id (⟨t, til⟩ : Bn) false (bs.take k)).length + 1) cap)) ∧ (w1.setCell ⟨W2.heap.size, 3, none⟩ (.slice (some ⟨gg, 0, none⟩) ((banL Bn.id (⟨t, til⟩ : Bn) false (bs.take k)).length + 1) cap)).cell? ⟨w.heap.size, 3, none⟩ = some (.slice (some ⟨b, off, none⟩) n3 c3) ∧ (w1.setCell ⟨W2.heap.size, 3, none⟩ (.slice (some ⟨gg, 0, none⟩) ((banL Bn.id (⟨t, til⟩ : Bn) false (bs.take k)).length + 1) cap)).cell? ⟨b, off + k * 2, none⟩ = some (.int .i64 z.id) ∧ (w1.setCell ⟨W2.heap.size, 3, none⟩ (.slice (some ⟨gg, 0, none⟩) ((banL Bn.id (⟨t, til⟩ : Bn) false (bs.take k)).length + 1) cap)).cell? ⟨b, off + k * 2 + 1, none⟩ = some (.int .i64 z.til) := by
                  intro gg cap w1 hown1 hgrow
                  have hXa : OutAt ((wr).alloc (.cells #[.int .i64 t, .int .i64 til] 56)) W2.heap.size (X.heap.size) (Y.heap.size) (W2.heap.size) o (.slice A4 (dropK Mb.id t ms).length c4) (.slice A5 (dropK Iv.id t vs).length c5) v ((dropK Mb.id t ms).length) ((dropK Iv.id t vs).length) ((banL Bn.id (⟨t, til⟩ : Bn) false (bs.take k)).length) (dropK Mb.id t ms) (dropK Iv.id t vs) (banL Bn.id (⟨t, til⟩ : Bn) false (bs.take k)) := hX.alloc _
                  have hba : Below W2.heap.size W2 ((wr).alloc (.cells #[.int .i64 t, .int .i64 til] 56)) := (hbel.alloc hbel.size _)
                  have hbb := hba.grown hgrow hba.size (own_ge hXa.2.2.2 (Nat.le_of_lt_succ (Nat.lt_succ_of_le hqB)))
                  have hk1 := hXa.1.grown hgrow (blk_apart hXa.1 hXa.2.2.2 (by decide))
                  have hbc := hbb.setCell (p := ⟨W2.heap.size, 3, none⟩) (Nat.le_refl _) (.slice (some ⟨gg, 0, none⟩) ((banL Bn.id (⟨t, til⟩ : Bn) false (bs.take k)).length + 1) cap)
                  exact ⟨⟨hk1.cell 3, hk1.frozen 3⟩, hXa.putB (bs' := banL Bn.id (⟨t, til⟩ : Bn) false (bs.take k) ++ [(⟨t, til⟩ : Bn)]) hgrow (by rw [List.flatMap_append]; exact hown1), hbc, (hbc.cell (p := ⟨w.heap.size, 3, none⟩) lk0).trans (k0.cell 3), (hbc.cell (p := ⟨b, off + k * 2, none⟩) hb).trans HC.out.1, (hbc.cell (p := ⟨b, off + k * 2 + 1, none⟩) hb).trans HC.out.2⟩
                have TS8 := Lib.hid T8
                clear T8
                by_cases he : z.id = t
                · have HS := Lib.hid (ban_now_same hz HM.out he)
                  have he' : (z.id != t) = false := by simp [he]
                  clear HV1 hz hge he
                  have q3a := (hX.1.alloc (.cells #[.int .i64 t, .int .i64 til] 56)).cell 3
                  go_wp2_with (at_builtin; refine wpList_append_lies _ rfl (.tmp 64) (.tmp 68) 30 rfl (W2.heap.size) 56 i0 _ 2 16 Tryz.underlying30 hi hz0 hz1 hz2 rfl (by omega) v (banL Bn.id (⟨t, til⟩ : Bn) false (bs.take k)).length ((banL Bn.id (⟨t, til⟩ : Bn) false (bs.take k)).flatMap bnC) rfl ((hX.alloc _).2.2.2) ⟨(wr).heap.size, 0, none⟩ 1 1 [.int .i64 t, .int .i64 til] rfl rfl (World.news_of_block (cs := #[.int .i64 t, .int .i64 til]) (t := 56) (fr := (0, 0)) (heap_alloc_new (wr) _)) (by simp [Value.oneCell']) (by omega) (by unfold maxLen; omega) (by omega) (by simp; omega) ((wr).heap.size + 1) (by simp) ?_; intro gg cap w1 hown1 hgrow hat hlt1; obtain ⟨⟨q3b, f3b⟩, hZ, hbZ, p3b, dd0b, dd1b⟩ := TS8.out gg cap w1 hown1 hgrow)
                  go_roundw
                  case rel => exact ⟨k + 1, _, true, by omega, rfl, by go_num, by rw [HS.out, List.length_append]; exact hZ, HM2.out, hbZ⟩
                  case measure => simp [intOf]; omega
                · have HS := Lib.hid (ban_now_more hz HM.out (show t < z.id by omega))
                  have he' : (z.id != t) = true := by simp [he]
                  clear HV1 hz hge he
                  have q3a := (hX.1.alloc (.cells #[.int .i64 t, .int .i64 til] 56)).cell 3
                  go_wp2_with (at_builtin; refine wpList_append_lies _ rfl (.tmp 64) (.tmp 68) 30 rfl (W2.heap.size) 56 i0 _ 2 16 Tryz.underlying30 hi hz0 hz1 hz2 rfl (by omega) v (banL Bn.id (⟨t, til⟩ : Bn) false (bs.take k)).length ((banL Bn.id (⟨t, til⟩ : Bn) false (bs.take k)).flatMap bnC) rfl ((hX.alloc _).2.2.2) ⟨(wr).heap.size, 0, none⟩ 1 1 [.int .i64 t, .int .i64 til] rfl rfl (World.news_of_block (cs := #[.int .i64 t, .int .i64 til]) (t := 56) (fr := (0, 0)) (heap_alloc_new (wr) _)) (by simp [Value.oneCell']) (by omega) (by unfold maxLen; omega) (by omega) (by simp; omega) ((wr).heap.size + 1) (by simp) ?_; intro gg cap w1 hown1 hgrow hat hlt1; obtain ⟨⟨q3b, f3b⟩, hZ, hbZ, p3b, dd0b, dd1b⟩ := TS8.out gg cap w1 hown1 hgrow)
                  clear q3 q3a q3b f3b p3 dd0 dd1 TS8 hbel hX hown1 hgrow hat hlt1
                  generalize Value.slice (some ⟨gg, 0, none⟩) ((banL Bn.id (⟨t, til⟩ : Bn) false (bs.take k)).length + 1) cap = nv at *
                  generalize w1.setCell ⟨W2.heap.size, 3, none⟩ nv = V at *
                  have hX := hZ
                  have hbel := hbZ
                  clear hZ hbZ
                  rw [show (banL Bn.id (⟨t, til⟩ : Bn) false (bs.take k)).length + 1 = (banL Bn.id (⟨t, til⟩ : Bn) false (bs.take k) ++ [(⟨t, til⟩ : Bn)]).length by simp] at hX
                  have hln : (banL Bn.id (⟨t, til⟩ : Bn) false (bs.take k) ++ [(⟨t, til⟩ : Bn)]).length ≤ k + 2 := by simp; omega
                  generalize banL Bn.id (⟨t, til⟩ : Bn) false (bs.take k) ++ [(⟨t, til⟩ : Bn)] = LL at *
                  have q3 := hX.1.cell 3
                  have q3a := (hX.1.alloc (.cells #[.int .i64 z.id, .int .i64 z.til] 56)).cell 3
                  have hbal := hbel.alloc hbel.size (.cells #[.int .i64 z.id, .int .i64 z.til] 56)
                  have p3a := (hbal.cell (p := ⟨w.heap.size, 3, none⟩) lk0).trans (k0.cell 3)
                  have dd0a := (hbal.cell (p := ⟨b, off + k * 2, none⟩) hb).trans HC.out.1
                  have dd1a := (hbal.cell (p := ⟨b, off + k * 2 + 1, none⟩) hb).trans HC.out.2
                  clear hbal
                  have T9 : ∀ (gg cap : Nat) (w1 : World), w1.ownsRow (W2.heap.size) 56 2 (.slice (some ⟨gg, 0, none⟩) ((LL).length + 1) cap) ((LL).length + 1) ((LL).flatMap bnC ++ [.int .i64 z.id, .int .i64 z.til]) → (((V).alloc (.cells #[.int .i64 z.id, .int .i64 z.til] 56)).drew).grownBy w1 nv.ownBlock →
                      (w1.cell? ⟨W2.heap.size, 3, none⟩ = some nv ∧ w1.frozen? ⟨W2.heap.size, 3, none⟩ = false) ∧ OutAt (w1.setCell ⟨W2.heap.size, 3, none⟩ (.slice (some ⟨gg, 0, none⟩) ((LL).length + 1) cap)) W2.heap.size (X.heap.size) (Y.heap.size) (W2.heap.size) o (.slice A4 (dropK Mb.id t ms).length c4) (.slice A5 (dropK Iv.id t vs).length c5) (.slice (some ⟨gg, 0, none⟩) ((LL).length + 1) cap) ((dropK Mb.id t ms).length) ((dropK Iv.id t vs).length) ((LL).length + 1) (dropK Mb.id t ms) (dropK Iv.id t vs) (LL ++ [z]) ∧ Below W2.heap.size W2 (w1.setCell ⟨W2.heap.size, 3, none⟩ (.slice (some ⟨gg, 0, none⟩) ((LL).length + 1) cap)) := by
                    intro gg cap w1 hown1 hgrow
                    have hXa : OutAt (((V).alloc (.cells #[.int .i64 z.id, .int .i64 z.til] 56)).drew) W2.heap.size (X.heap.size) (Y.heap.size) (W2.heap.size) o (.slice A4 (dropK Mb.id t ms).length c4) (.slice A5 (dropK Iv.id t vs).length c5) nv ((dropK Mb.id t ms).length) ((dropK Iv.id t vs).length) ((LL).length) (dropK Mb.id t ms) (dropK Iv.id t vs) (LL) := hX.alloc _
                    have hba : Below W2.heap.size W2 (((V).alloc (.cells #[.int .i64 z.id, .int .i64 z.til] 56)).drew) := (hbel.alloc hbel.size _).drew
                    have hbb := hba.grown hgrow hba.size (own_ge hXa.2.2.2 (Nat.le_of_lt_succ (Nat.lt_succ_of_le hqB)))
                    have hk1 := hXa.1.grown hgrow (blk_apart hXa.1 hXa.2.2.2 (by decide))
                    have hbc := hbb.setCell (p := ⟨W2.heap.size, 3, none⟩) (Nat.le_refl _) (.slice (some ⟨gg, 0, none⟩) ((LL).length + 1) cap)
                    exact ⟨⟨hk1.cell 3, hk1.frozen 3⟩, hXa.putB (bs' := LL ++ [z]) hgrow (by rw [List.flatMap_append]; exact hown1), hbc⟩
                  have TS9 := Lib.hid T9
                  clear T9
                  have hbz := hbel.size
                  go_wp2_with fail
                  go_region_law ((first | (refine step_append_lies _ (by rfl) _ _ _ (by rfl) (W2.heap.size) 56 i0 _ 2 16 Tryz.underlying30 hi hz0 hz1 hz2 rfl (by omega) nv (LL).length ((LL).flatMap bnC) (by rfl) (hX.alloc _).2.2.2 ⟨(V).heap.size, 0, none⟩ 1 1 [.int .i64 z.id, .int .i64 z.til] (by rfl) (by rfl) (World.news_of_block (cs := #[.int .i64 z.id, .int .i64 z.til]) (t := 56) (fr := (0, 0)) (heap_alloc_new (V) _)) (by simp [Value.oneCell']) (by omega) (by unfold maxLen; omega) (by omega) (by simp; omega) ((V).heap.size + 1) (by simp) ?_; intro gg cap w1 hown1 hgrow hat hlt1; obtain ⟨⟨q3b, f3b⟩, hZ, hbZ⟩ := TS9.out gg cap w1 hown1 hgrow)))
                  all_goals go_wp2
                  all_goals go_roundw
                  all_goals first | exact ⟨k + 1, _, true, by omega, rfl, by go_num, by rw [HS.out, List.length_append]; exact hZ, HM2.out, hbZ⟩ | (simp [intOf]; omega)
              · have hge' : decide (t ≤ z.id) = false := decide_eq_false hge
                have HM2 := Lib.hid (banM_no (k := Bn.id) (x := (⟨t, til⟩ : Bn)) hz HM.out hge)
                have HS := Lib.hid (ban_no_step (k := Bn.id) (x := (⟨t, til⟩ : Bn)) hz)
                have he' : (z.id != t) = true := by simp; omega
                clear HV1 hz hge
                have q3 := hX.1.cell 3
                have q3a := (hX.1.alloc (.cells #[.int .i64 z.id, .int .i64 z.til] 56)).cell 3
                have hbal := hbel.alloc hbel.size (.cells #[.int .i64 z.id, .int .i64 z.til] 56)
                have p3a := (hbal.cell (p := ⟨w.heap.size, 3, none⟩) lk0).trans (k0.cell 3)
                have dd0a := (hbal.cell (p := ⟨b, off + k * 2, none⟩) hb).trans HC.out.1
                have dd1a := (hbal.cell (p := ⟨b, off + k * 2 + 1, none⟩) hb).trans HC.out.2
                clear hbal
                have T9 : ∀ (gg cap : Nat) (w1 : World), w1.ownsRow (W2.heap.size) 56 2 (.slice (some ⟨gg, 0, none⟩) ((banL Bn.id (⟨t, til⟩ : Bn) false (bs.take k)).length + 1) cap) ((banL Bn.id (⟨t, til⟩ : Bn) false (bs.take k)).length + 1) ((banL Bn.id (⟨t, til⟩ : Bn) false (bs.take k)).flatMap bnC ++ [.int .i64 z.id, .int .i64 z.til]) → (((wr).alloc (.cells #[.int .i64 z.id, .int .i64 z.til] 56)).drew).grownBy w1 v.ownBlock →
                    (w1.cell? ⟨W2.heap.size, 3, none⟩ = some v ∧ w1.frozen? ⟨W2.heap.size, 3, none⟩ = false) ∧ OutAt (w1.setCell ⟨W2.heap.size, 3, none⟩ (.slice (some ⟨gg, 0, none⟩) ((banL Bn.id (⟨t, til⟩ : Bn) false (bs.take k)).length + 1) cap)) W2.heap.size (X.heap.size) (Y.heap.size) (W2.heap.size) o (.slice A4 (dropK Mb.id t ms).length c4) (.slice A5 (dropK Iv.id t vs).length c5) (.slice (some ⟨gg, 0, none⟩) ((banL Bn.id (⟨t, til⟩ : Bn) false (bs.take k)).length + 1) cap) ((dropK Mb.id t ms).length) ((dropK Iv.id t vs).length) ((banL Bn.id (⟨t, til⟩ : Bn) false (bs.take k)).length + 1) (dropK Mb.id t ms) (dropK Iv.id t vs) (banL Bn.id (⟨t, til⟩ : Bn) false (bs.take k) ++ [z]) ∧ Below W2.heap.size W2 (w1.setCell ⟨W2.heap.size, 3, none⟩ (.slice (some ⟨gg, 0, none⟩) ((banL Bn.id (⟨t, til⟩ : Bn) false (bs.take k)).length + 1) cap)) := by
                  intro gg cap w1 hown1 hgrow
                  have hXa : OutAt (((wr).alloc (.cells #[.int .i64 z.id, .int .i64 z.til] 56)).drew) W2.heap.size (X.heap.size) (Y.heap.size) (W2.heap.size) o (.slice A4 (dropK Mb.id t ms).length c4) (.slice A5 (dropK Iv.id t vs).length c5) v ((dropK Mb.id t ms).length) ((dropK Iv.id t vs).length) ((banL Bn.id (⟨t, til⟩ : Bn) false (bs.take k)).length) (dropK Mb.id t ms) (dropK Iv.id t vs) (banL Bn.id (⟨t, til⟩ : Bn) false (bs.take k)) := hX.alloc _
                  have hba : Below W2.heap.size W2 (((wr).alloc (.cells #[.int .i64 z.id, .int .i64 z.til] 56)).drew) := (hbel.alloc hbel.size _).drew
                  have hbb := hba.grown hgrow hba.size (own_ge hXa.2.2.2 (Nat.le_of_lt_succ (Nat.lt_succ_of_le hqB)))
                  have hk1 := hXa.1.grown hgrow (blk_apart hXa.1 hXa.2.2.2 (by decide))
                  have hbc := hbb.setCell (p := ⟨W2.heap.size, 3, none⟩) (Nat.le_refl _) (.slice (some ⟨gg, 0, none⟩) ((banL Bn.id (⟨t, til⟩ : Bn) false (bs.take k)).length + 1) cap)
                  exact ⟨⟨hk1.cell 3, hk1.frozen 3⟩, hXa.putB (bs' := banL Bn.id (⟨t, til⟩ : Bn) false (bs.take k) ++ [z]) hgrow (by rw [List.flatMap_append]; exact hown1), hbc⟩
                have TS9 := Lib.hid T9
                clear T9
                have hbz := hbel.size
                go_wp2_with fail
                go_region_law ((first | (refine step_append_lies _ (by rfl) _ _ _ (by rfl) (W2.heap.size) 56 i0 _ 2 16 Tryz.underlying30 hi hz0 hz1 hz2 rfl (by omega) v (banL Bn.id (⟨t, til⟩ : Bn) false (bs.take k)).length ((banL Bn.id (⟨t, til⟩ : Bn) false (bs.take k)).flatMap bnC) (by rfl) (hX.alloc _).2.2.2 ⟨(wr).heap.size, 0, none⟩ 1 1 [.int .i64 z.id, .int .i64 z.til] (by rfl) (by rfl) (World.news_of_block (cs := #[.int .i64 z.id, .int .i64 z.til]) (t := 56) (fr := (0, 0)) (heap_alloc_new (wr) _)) (by simp [Value.oneCell']) (by omega) (by unfold maxLen; omega) (by omega) (by simp; omega) ((wr).heap.size + 1) (by simp) ?_; intro gg cap w1 hown1 hgrow hat hlt1; obtain ⟨⟨q3b, f3b⟩, hZ, hbZ⟩ := TS9.out gg cap w1 hown1 hgrow)))
                all_goals go_wp2
                all_goals go_roundw
                all_goals first | exact ⟨k + 1, _, false, by omega, rfl, by go_num, by rw [HS.out, List.length_append]; exact hZ, HM2.out, hbZ⟩ | (simp [intOf]; omega)
          · have hkn : k = n3 := by omega
            subst hkn
            rw [List.take_of_length_le (by have := HL.out; omega)] at hX hM
            cases pb with
            | true =>
              rw [show banL Bn.id (⟨t, til⟩ : Bn) true bs = putK Bn.id ⟨t, til⟩ bs from rfl] at hX
              obtain ⟨B4, d4, hv4⟩ := own_form hX.2.2.2
              subst hv4
              have hb5 := hb0.trans (hbel.mono hb0.size)
              have k1 := k1.below hbel zE
              have hRO := hX.room (base := (w.heap.size + 1).succ) (Nat.le_trans (Nat.succ_le_of_lt zE) zX) (Nat.le_trans (Nat.succ_le_of_lt zE) zY) (Nat.succ_le_of_lt zE)
              have hnn : (dropK Mb.id t ms).length + (dropK Iv.id t vs).length + (putK Bn.id (⟨t, til⟩ : Bn) bs).length ≤ 1048576 := by have := put_le0 (k := Bn.id) (⟨t, til⟩ : Bn) bs; have := drop_len (k := Mb.id) (t := t) (xs := ms); have := drop_len (k := Iv.id) (t := t) (xs := vs); have := HL1.out; have := HL2.out; have := HL.out; have := HV.out.l1; have := HV.out.l2; have := HV.out.l3; omega
              have HR := Lib.hid (show rz = rGive o (dropK Mb.id t ms) (dropK Iv.id t vs) (putK Bn.id ⟨t, til⟩ bs) by rw [← HZ.out, banS, if_pos HY.out])
              have l0 := hX.1.cell 0; have l1 := hX.1.cell 1; have l2 := hX.1.cell 2; have l3 := hX.1.cell 3
              have zK := k1.lt
              clear hX hbel k0 hb0
              cases hG : roomB (dropK Mb.id t ms) (dropK Iv.id t vs) (putK Bn.id ⟨t, til⟩ bs) with
              | false =>
                go_wp2_with fail
                go_at_call 73; refine (l02Give_no _ _ _ _ _ _ _ _ _ _ _ _ _ _ hRO.at_ hnn hG).mono ?_; rintro e w9 ⟨rfl, hb9⟩
                have k1 := k1.below hb9 zK
                have hb5 := hb5.trans (hb9.mono hb5.size)
                clear hb9 l0 l1 l2 l3
                have r0 := k1.cell 0; have r1 := k1.cell 1; have r2 := k1.cell 2; have r3 := k1.cell 3
                have f0 := k1.frozen 0; have f1 := k1.frozen 1; have f2 := k1.frozen 2; have f3 := k1.frozen 3
                go_wp2
                refine bodyPost_ret (v := .tuple #[.agg #[.bool false, .slice none 0 0, .slice none 0 0, .slice none 0 0], .bool false]) (by simp [results, Tryz.results32, go_sem, r0, r1, r2, r3]) rfl ?_
                rw [HR.out, rGive, if_neg (by simp [hG])]
                exact roomOut_no ((((hb5.setCell (by simp) _).setCell (by simp) _).setCell (by simp) _).setCell (by simp) _)
              | true =>
                go_wp2_with fail
                go_at_call 73; refine (l02Give_yes _ _ _ _ _ _ _ _ _ _ _ _ _ _ hRO.at_ hnn hG).mono ?_; rintro e w9 ⟨rfl, hb9⟩
                have k1 := k1.below hb9 zK
                have hRO := hRO.below hb9 (Nat.le_refl _)
                have hb5 := hb5.trans (hb9.mono hb5.size)
                clear hb9 l0 l1 l2 l3
                have r0 := k1.cell 0; have r1 := k1.cell 1; have r2 := k1.cell 2; have r3 := k1.cell 3
                have f0 := k1.frozen 0; have f1 := k1.frozen 1; have f2 := k1.frozen 2; have f3 := k1.frozen 3
                go_wp2
                refine bodyPost_ret (v := .tuple #[.agg #[.bool o, .slice A4 (dropK Mb.id t ms).length c4, .slice A5 (dropK Iv.id t vs).length c5, .slice B4 (putK Bn.id (⟨t, til⟩ : Bn) bs).length d4], .bool true]) (by simp [results, Tryz.results32, go_sem, r0, r1, r2, r3]) rfl ?_
                rw [HR.out, rGive, if_pos hG]
                exact roomOut_yes (r := ⟨o, dropK Mb.id t ms, dropK Iv.id t vs, putK Bn.id ⟨t, til⟩ bs, true⟩) ((hRO.far4 k1 _ _ _ _ _ _ _ _).mono (by omega)) (below_set4 hb5 (Nat.le_succ _) _ _ _ _ _ _ _ _) hnn
            | false =>
              have hln : (banL Bn.id (⟨t, til⟩ : Bn) false bs).length ≤ 1048576 := by rw [show banL Bn.id (⟨t, til⟩ : Bn) false bs = bs from rfl]; have := HL.out; omega
              have HS := Lib.hid (banL_rest hM)
              have q3 := hX.1.cell 3
              have q3a := (hX.1.alloc (.cells #[.int .i64 t, .int .i64 til] 56)).cell 3
              have hbz := hbel.size
              have T8 : ∀ (gg cap : Nat) (w1 : World), w1.ownsRow (W2.heap.size) 56 2 (.slice (some ⟨gg, 0, none⟩) ((banL Bn.id (⟨t, til⟩ : Bn) false bs).length + 1) cap) ((banL Bn.id (⟨t, til⟩ : Bn) false bs).length + 1) ((banL Bn.id (⟨t, til⟩ : Bn) false bs).flatMap bnC ++ [.int .i64 t, .int .i64 til]) → ((wr).alloc (.cells #[.int .i64 t, .int .i64 til] 56)).grownBy w1 v.ownBlock →
                  (w1.cell? ⟨W2.heap.size, 3, none⟩ = some v ∧ w1.frozen? ⟨W2.heap.size, 3, none⟩ = false ∧ w1.cell? ⟨W2.heap.size, 0, none⟩ = some (.bool o) ∧ w1.cell? ⟨W2.heap.size, 1, none⟩ = some (.slice A4 (dropK Mb.id t ms).length c4) ∧ w1.cell? ⟨W2.heap.size, 2, none⟩ = some (.slice A5 (dropK Iv.id t vs).length c5)) ∧ OutAt (w1.setCell ⟨W2.heap.size, 3, none⟩ (.slice (some ⟨gg, 0, none⟩) ((banL Bn.id (⟨t, til⟩ : Bn) false bs).length + 1) cap)) W2.heap.size (X.heap.size) (Y.heap.size) (W2.heap.size) o (.slice A4 (dropK Mb.id t ms).length c4) (.slice A5 (dropK Iv.id t vs).length c5) (.slice (some ⟨gg, 0, none⟩) ((banL Bn.id (⟨t, til⟩ : Bn) false bs).length + 1) cap) ((dropK Mb.id t ms).length) ((dropK Iv.id t vs).length) ((banL Bn.id (⟨t, til⟩ : Bn) false bs).length + 1) (dropK Mb.id t ms) (dropK Iv.id t vs) (banL Bn.id (⟨t, til⟩ : Bn) false bs ++ [(⟨t, til⟩ : Bn)]) ∧ Below W2.heap.size W2 (w1.setCell ⟨W2.heap.size, 3, none⟩ (.slice (some ⟨gg, 0, none⟩) ((banL Bn.id (⟨t, til⟩ : Bn) false bs).length + 1) cap)) := by
                intro gg cap w1 hown1 hgrow
                have hXa : OutAt ((wr).alloc (.cells #[.int .i64 t, .int .i64 til] 56)) W2.heap.size (X.heap.size) (Y.heap.size) (W2.heap.size) o (.slice A4 (dropK Mb.id t ms).length c4) (.slice A5 (dropK Iv.id t vs).length c5) v ((dropK Mb.id t ms).length) ((dropK Iv.id t vs).length) ((banL Bn.id (⟨t, til⟩ : Bn) false bs).length) (dropK Mb.id t ms) (dropK Iv.id t vs) (banL Bn.id (⟨t, til⟩ : Bn) false bs) := hX.alloc _
                have hba : Below W2.heap.size W2 ((wr).alloc (.cells #[.int .i64 t, .int .i64 til] 56)) := (hbel.alloc hbel.size _)
                have hbb := hba.grown hgrow hba.size (own_ge hXa.2.2.2 (Nat.le_of_lt_succ (Nat.lt_succ_of_le hqB)))
                have hk1 := hXa.1.grown hgrow (blk_apart hXa.1 hXa.2.2.2 (by decide))
                have hbc := hbb.setCell (p := ⟨W2.heap.size, 3, none⟩) (Nat.le_refl _) (.slice (some ⟨gg, 0, none⟩) ((banL Bn.id (⟨t, til⟩ : Bn) false bs).length + 1) cap)
                exact ⟨⟨hk1.cell 3, hk1.frozen 3, hk1.cell 0, hk1.cell 1, hk1.cell 2⟩, hXa.putB (bs' := banL Bn.id (⟨t, til⟩ : Bn) false bs ++ [(⟨t, til⟩ : Bn)]) hgrow (by rw [List.flatMap_append]; exact hown1), hbc⟩
              have TS8 := Lib.hid T8
              clear T8
              go_wp2_with (first | (at_builtin; refine wpList_append_lies _ rfl (.tmp 92) (.tmp 96) 30 rfl (W2.heap.size) 56 i0 _ 2 16 Tryz.underlying30 hi hz0 hz1 hz2 rfl (by omega) v (banL Bn.id (⟨t, til⟩ : Bn) false bs).length ((banL Bn.id (⟨t, til⟩ : Bn) false bs).flatMap bnC) rfl ((hX.alloc _).2.2.2) ⟨(wr).heap.size, 0, none⟩ 1 1 [.int .i64 t, .int .i64 til] rfl rfl (World.news_of_block (cs := #[.int .i64 t, .int .i64 til]) (t := 56) (fr := (0, 0)) (heap_alloc_new (wr) _)) (by simp [Value.oneCell']) (by omega) (by unfold maxLen; omega) (by omega) (by simp; omega) ((wr).heap.size + 1) (by simp) ?_; intro gg cap w1 hown1 hgrow hat hlt1; obtain ⟨⟨q3b, f3b, s0, s1, s2⟩, hZ, hbZ⟩ := TS8.out gg cap w1 hown1 hgrow) | fail)
              clear q3 q3a q3b f3b s0 s1 s2 p3 TS8 hbel hX hown1 hgrow hat hlt1 hln
              generalize Value.slice (some ⟨gg, 0, none⟩) ((banL Bn.id (⟨t, til⟩ : Bn) false bs).length + 1) cap = nv at *
              generalize w1.setCell ⟨W2.heap.size, 3, none⟩ nv = V at *
              have hX := hZ
              have hbel := hbZ
              clear hZ hbZ
              rw [HS.out, show (banL Bn.id (⟨t, til⟩ : Bn) false bs).length + 1 = (putK Bn.id (⟨t, til⟩ : Bn) bs).length by rw [← HS.out]; simp] at hX
              obtain ⟨B4, d4, hv4⟩ := own_form hX.2.2.2
              subst hv4
              have hb5 := hb0.trans (hbel.mono hb0.size)
              have k1 := k1.below hbel zE
              have hRO := hX.room (base := (w.heap.size + 1).succ) (Nat.le_trans (Nat.succ_le_of_lt zE) zX) (Nat.le_trans (Nat.succ_le_of_lt zE) zY) (Nat.succ_le_of_lt zE)
              have hnn : (dropK Mb.id t ms).length + (dropK Iv.id t vs).length + (putK Bn.id (⟨t, til⟩ : Bn) bs).length ≤ 1048576 := by have := put_le0 (k := Bn.id) (⟨t, til⟩ : Bn) bs; have := drop_len (k := Mb.id) (t := t) (xs := ms); have := drop_len (k := Iv.id) (t := t) (xs := vs); have := HL1.out; have := HL2.out; have := HL.out; have := HV.out.l1; have := HV.out.l2; have := HV.out.l3; omega
              have HR := Lib.hid (show rz = rGive o (dropK Mb.id t ms) (dropK Iv.id t vs) (putK Bn.id ⟨t, til⟩ bs) by rw [← HZ.out, banS, if_pos HY.out])
              have l0 := hX.1.cell 0; have l1 := hX.1.cell 1; have l2 := hX.1.cell 2; have l3 := hX.1.cell 3
              have zK := k1.lt
              clear hX hbel k0 hb0
              cases hG : roomB (dropK Mb.id t ms) (dropK Iv.id t vs) (putK Bn.id ⟨t, til⟩ bs) with
              | false =>
                go_at_call 73; refine (l02Give_no _ _ _ _ _ _ _ _ _ _ _ _ _ _ hRO.at_ hnn hG).mono ?_; rintro e w9 ⟨rfl, hb9⟩
                have k1 := k1.below hb9 zK
                have hb5 := hb5.trans (hb9.mono hb5.size)
                clear hb9 l0 l1 l2 l3
                have r0 := k1.cell 0; have r1 := k1.cell 1; have r2 := k1.cell 2; have r3 := k1.cell 3
                have f0 := k1.frozen 0; have f1 := k1.frozen 1; have f2 := k1.frozen 2; have f3 := k1.frozen 3
                go_wp2
                refine bodyPost_ret (v := .tuple #[.agg #[.bool false, .slice none 0 0, .slice none 0 0, .slice none 0 0], .bool false]) (by simp [results, Tryz.results32, go_sem, r0, r1, r2, r3]) rfl ?_
                rw [HR.out, rGive, if_neg (by simp [hG])]
                exact roomOut_no ((((hb5.setCell (by simp) _).setCell (by simp) _).setCell (by simp) _).setCell (by simp) _)
              | true =>
                go_at_call 73; refine (l02Give_yes _ _ _ _ _ _ _ _ _ _ _ _ _ _ hRO.at_ hnn hG).mono ?_; rintro e w9 ⟨rfl, hb9⟩
                have k1 := k1.below hb9 zK
                have hRO := hRO.below hb9 (Nat.le_refl _)
                have hb5 := hb5.trans (hb9.mono hb5.size)
                clear hb9 l0 l1 l2 l3
                have r0 := k1.cell 0; have r1 := k1.cell 1; have r2 := k1.cell 2; have r3 := k1.cell 3
                have f0 := k1.frozen 0; have f1 := k1.frozen 1; have f2 := k1.frozen 2; have f3 := k1.frozen 3
                go_wp2
                refine bodyPost_ret (v := .tuple #[.agg #[.bool o, .slice A4 (dropK Mb.id t ms).length c4, .slice A5 (dropK Iv.id t vs).length c5, .slice B4 (putK Bn.id (⟨t, til⟩ : Bn) bs).length d4], .bool true]) (by simp [results, Tryz.results32, go_sem, r0, r1, r2, r3]) rfl ?_
                rw [HR.out, rGive, if_pos hG]
                exact roomOut_yes (r := ⟨o, dropK Mb.id t ms, dropK Iv.id t vs, putK Bn.id ⟨t, til⟩ bs, true⟩) ((hRO.far4 k1 _ _ _ _ _ _ _ _).mono (by omega)) (below_set4 hb5 (Nat.le_succ _) _ _ _ _ _ _ _ _) hnn
end Go.Proofs.YtbamhnbmddopgaaGreatDoor
