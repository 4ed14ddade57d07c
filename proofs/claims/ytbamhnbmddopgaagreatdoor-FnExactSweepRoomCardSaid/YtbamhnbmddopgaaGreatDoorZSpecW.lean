import Derived.Test.YtbamhnbmddopgaaGreatDoorChecked
import Derived.WalkKit
import Derived.ProofKit
import Derived.OpenShut
import Derived.ShutString
import Derived.ChangeOld
import Derived.Below
import Derived.Lib.Hide
import Derived.Test.YtbamhnbmddopgaaGreatDoorZSpecA
import Derived.Test.YtbamhnbmddopgaaGreatDoorZHushP
namespace Go.Proofs.YtbamhnbmddopgaaGreatDoor
open Go.ChangeShapes Go.WideShapes Go.ChangeAt Go.RowKit
open Go.ChangeMaps (open_string shut_string)
set_option linter.unusedVariables false
set_option maxRecDepth 100000
theorem OutAt.stored {w : World} {Q e1 e2 e3 g1 d1 : Nat} {o : Bool} {v2 v3 : Value} {l1 l2 l3 : Nat} {ms : List Mb} {vs : List Iv} {bs : List Bn} (h : OutAt w Q e1 e2 e3 o (.slice (some ⟨g1, 0, none⟩) l1 d1) v2 v3 l1 l2 l3 ms vs bs) {k i : Nat} {z z' : Mb} {u : Value} (hz : ms[k]? = some z) (hi : i < 4) (hu : mbC z' = (mbC z).set i u) :
    OutAt (w.setCell ⟨g1, k * 4 + i, none⟩ u) Q e1 e2 e3 o (.slice (some ⟨g1, 0, none⟩) l1 d1) v2 v3 l1 l2 l3 (ms.set k z') vs bs := by
  have st := h.2.1.stored (k * 4 + i) u
  rw [flat_set mbC_len ms k z z' i u hz hi hu] at st
  have nq : some Q ≠ some g1 := blk_apart h.1 h.2.1 (by decide)
  exact ⟨h.1.far (p := ⟨g1, k * 4 + i, none⟩) (fun e => nq (by rw [e])) u, st.1, h.2.2.1.kept st.2 (own_types2 h.2.2.1 h.2.1 (by decide)), h.2.2.2.kept st.2 (own_types2 h.2.2.2 h.2.1 (by decide))⟩
set_option maxHeartbeats 6400000 in
theorem spec_SweepRoom_any (o : Bool) (a1 a2 a3 : Addr) (n1 c1 n2 c2 n3 c3 : Nat) (ms : List Mb) (vs : List Iv) (bs : List Bn) (at_ : Int) (w : World)
    (h : RoomAt w w.heap.size (some a1) n1 (some a2) n2 (some a3) n3 ms vs bs) (hn : n1 + n2 + n3 ≤ 1048576) :
    Calls Tryz.prog 36 #[.agg #[.bool o, .slice (some a1) n1 c1, .slice (some a2) n2 c2, .slice (some a3) n3 c3], .int .i64 at_] w (RoomOut (sweepS o ms vs bs at_) w) := by
  obtain ⟨rz, hrz⟩ : ∃ z, sweepS o ms vs bs at_ = z := ⟨_, rfl⟩
  have HZ := Lib.hid hrz
  rw [hrz]
  clear hrz
  go_enter Tryz.func36, Tryz.ntmps36
  go_wp2_with fail
  obtain ⟨k0, k1, hb0⟩ := two_boxes w 32 32 #[.bool o, .slice (some a1) n1 c1, .slice (some a2) n2 c2, .slice (some a3) n3 c3] #[.bool false, .slice none 0 0, .slice none 0 0, .slice none 0 0]
  generalize ((w.alloc (.cells #[.bool o, .slice (some a1) n1 c1, .slice (some a2) n2 c2, .slice (some a3) n3 c3] 32)).alloc (.cells #[.bool false, .slice none 0 0, .slice none 0 0, .slice none 0 0] 32)) = W at *
  have h := h.to hb0
  have cI := l02Is_any w.heap.size _ _ _ n1 c1 n2 c2 n3 c3 W.heap.size ms vs bs W (k0.cell 1) (k0.cell 2) (k0.cell 3) h hn
  have fin : ∀ q, Below w.heap.size w (W.drewN q) := fun q => hb0.trans (Below.mono (drew_below ⟨q, rfl⟩) hb0.size)
  have HF := Lib.hid fin
  clear fin
  cases hA : roomB ms vs bs with
  | false =>
    rw [hA] at cI
    have HR := Lib.hid (show rz = rNo by rw [← HZ.out, sweepS, if_neg (by simp [hA])])
    have k1q := fun q => k1.drewN q
    have r0 : ∀ q, (W.drewN q).cell? ⟨w.heap.size + 1, 0, none⟩ = some (.bool false) := fun q => (k1q q).cell 0
    have r1 : ∀ q, (W.drewN q).cell? ⟨w.heap.size + 1, 1, none⟩ = some (.slice none 0 0) := fun q => (k1q q).cell 1
    have r2 : ∀ q, (W.drewN q).cell? ⟨w.heap.size + 1, 2, none⟩ = some (.slice none 0 0) := fun q => (k1q q).cell 2
    have r3 : ∀ q, (W.drewN q).cell? ⟨w.heap.size + 1, 3, none⟩ = some (.slice none 0 0) := fun q => (k1q q).cell 3
    have f0 := k1.frozen 0; have f1 := k1.frozen 1; have f2 := k1.frozen 2; have f3 := k1.frozen 3
    go_wp2_with (first | (go_at_call 52; refine cI.mono ?_; rintro e w' ⟨rfl, q, rfl⟩))
    refine bodyPost_ret (v := .tuple #[.agg #[.bool false, .slice none 0 0, .slice none 0 0, .slice none 0 0], .bool false]) (by simp [results, Tryz.results36, go_sem, r0, r1, r2, r3]) rfl ?_
    rw [HR.out]
    exact roomOut_no (((((HF.out q).setCell (by simp) _).setCell (by simp) _).setCell (by simp) _).setCell (by simp) _)
  | true =>
    rw [hA] at cI
    cases hT : tickB at_ with
    | false =>
      have HR := Lib.hid (show rz = rNo by rw [← HZ.out, sweepS, if_neg (by simp [hA, hT])])
      have k1q := fun q => k1.drewN q
      have r0 : ∀ q, (W.drewN q).cell? ⟨w.heap.size + 1, 0, none⟩ = some (.bool false) := fun q => (k1q q).cell 0
      have r1 : ∀ q, (W.drewN q).cell? ⟨w.heap.size + 1, 1, none⟩ = some (.slice none 0 0) := fun q => (k1q q).cell 1
      have r2 : ∀ q, (W.drewN q).cell? ⟨w.heap.size + 1, 2, none⟩ = some (.slice none 0 0) := fun q => (k1q q).cell 2
      have r3 : ∀ q, (W.drewN q).cell? ⟨w.heap.size + 1, 3, none⟩ = some (.slice none 0 0) := fun q => (k1q q).cell 3
      have f0 := k1.frozen 0; have f1 := k1.frozen 1; have f2 := k1.frozen 2; have f3 := k1.frozen 3
      go_wp2_with (first | (go_at_call 52; refine cI.mono ?_; rintro e w' ⟨rfl, q, rfl⟩) | (go_at_call 69; refine (l02Tick_b _ _ _ hT).mono ?_; rintro e w' ⟨rfl, rfl⟩))
      refine bodyPost_ret (v := .tuple #[.agg #[.bool false, .slice none 0 0, .slice none 0 0, .slice none 0 0], .bool false]) (by simp [results, Tryz.results36, go_sem, r0, r1, r2, r3]) rfl ?_
      rw [HR.out]
      exact roomOut_no (((((HF.out q).setCell (by simp) _).setCell (by simp) _).setCell (by simp) _).setCell (by simp) _)
    | true =>
      have HY := Lib.hid (show (roomB ms vs bs && tickB at_) = true by simp [hA, hT])
      go_wp2_with (first | (go_at_call 52; refine cI.mono ?_; rintro e w' ⟨rfl, q, rfl⟩) | (go_at_call 69; refine (l02Tick_b _ _ _ hT).mono ?_; rintro e w' ⟨rfl, rfl⟩))
      have HV := Lib.hid (roomB_iff.1 hA)
      have z1 := k1.lt
      have hD : RoomAt (W.drewN q) (W.drewN q).heap.size (some a1) n1 (some a2) n2 (some a3) n3 ms vs bs := h
      have kD := k0.drewN q
      have k1D := k1.drewN q
      have hbD : Below w.heap.size w (W.drewN q) := HF.out q
      have zD : w.heap.size + 1 < (W.drewN q).heap.size := z1
      clear h k0 k1 hb0 z1 cI HF
      generalize W.drewN q = W1 at *
      go_at_call 54; refine (l02Copy_any w.heap.size n1 c1 n2 c2 n3 c3 a1 a2 a3 o ms vs bs W1 kD hD hn).mono ?_; rintro e W2 ⟨B1, d1, B2, d2, B3, d3, rfl, hO, hb1⟩
      have k0 := kD.below hb1 kD.lt
      have k1 := k1D.below hb1 zD
      have h := hD.to hb1
      have hb0 := hbD.trans (hb1.mono hbD.size)
      have zE := k1.lt
      have hO := hO.mono (Nat.succ_le_of_lt zD)
      clear hb1 kD k1D hbD hD
      obtain ⟨q1, hb1⟩ := one_box W2 32 #[.bool o, .slice B1 n1 d1, .slice (some ⟨W2.heap.size + 1, 0, none⟩) 0 0, .slice B3 n3 d3]
      have hO2 := hO.below hb1 (Nat.le_refl _)
      have ho := World.ownsRow_made (W2.alloc (.cells #[.bool o, .slice B1 n1 d1, .slice (some ⟨W2.heap.size + 1, 0, none⟩) 0 0, .slice B3 n3 d3] 32)) (base := W2.heap.size) (e := 54) (size := 3) #[] 0 hb1.size (by decide) rfl
      simp only [alloc_sz'] at ho
      have hX0 : OutAt ((W2.alloc (.cells #[.bool o, .slice B1 n1 d1, .slice (some ⟨W2.heap.size + 1, 0, none⟩) 0 0, .slice B3 n3 d3] 32)).alloc (.cells #[] 54)) W2.heap.size (w.heap.size + 1).succ W2.heap.size (w.heap.size + 1).succ o (.slice B1 n1 d1) (.slice (some ⟨W2.heap.size + 1, 0, none⟩) 0 0) (.slice B3 n3 d3) n1 0 n3 ms [] bs := ⟨q1.alloc _, hO2.1.alloc _, ho, hO2.2.2.alloc _⟩
      have hbY := hb1.alloc hb1.size (.cells #[] 54)
      have hqI := Nat.le_refl W2.heap.size
      have hqB := Nat.le_refl W2.heap.size
      have lk0 := k0.lt
      have HB0 := Lib.hid h
      have HL1 := Lib.hid h.1.1
      have HL2 := Lib.hid h.2.1.1
      have HL := Lib.hid h.2.2.1
      obtain ⟨i0, hi, hz0, hz1, hz2⟩ := info_parts Tryz.info_Invite
      clear ho hO2 q1 hb1 hO
      go_wp2_with fail
      go_loopw [7] (fun i wr => ∃ (k : Nat) (v : Value), k ≤ n2 ∧ i = .int .i64 k ∧ OutAt (wr) W2.heap.size ((w.heap.size + 1).succ) (W2.heap.size) ((w.heap.size + 1).succ) o (.slice B1 n1 d1) v (.slice B3 n3 d3) (n1) (((vs.take k).filter (fun x : Iv => !decide (x.til < at_))).length) (n3) (ms) (((vs.take k).filter (fun x : Iv => !decide (x.til < at_)))) (bs) ∧ Below W2.heap.size W2 wr) (fun i _ => n2 - (intOf i).toNat)
      case atStart => exact ⟨0, _, by omega, rfl, hX0, hbY⟩
      case round =>
        obtain ⟨k, v, hk, rfl, hX, hbel⟩ := hrel
        clear hX0 hbY
        have hbs := hbel.size
        have p3 := (k0.below hbel lk0).cell 2
        by_cases hlt : k < n2
        · obtain ⟨b, off, z, ha, hb, hz, cc0, cc1, cc2⟩ := HB0.out.2.1.ativ hlt
          injection ha with ha
          subst ha
          have dd0 := (hbel.cell hb).trans cc0
          have dd1 := (hbel.cell hb).trans cc1
          have dd2 := (hbel.cell hb).trans cc2
          have HC := Lib.hid (And.intro cc0 (And.intro cc1 cc2))
          have i0' : (0 : Int) ≤ (k : Int) := Int.natCast_nonneg _
          have i1' : (k : Int) < (n2 : Int) := by omega
          have hln := filt_len (f := (fun x : Iv => !decide (x.til < at_))) (xs := vs) (n := k)
          clear cc0 cc1 cc2
          by_cases he : z.til < at_
          · have HS := Lib.hid (filt_no (f := (fun x : Iv => !decide (x.til < at_))) hz (by simp; omega))
            have he' : decide (at_ ≤ z.til) = false := decide_eq_false (by omega)
            clear hz he
            go_wp2
            go_roundw
            case rel => exact ⟨k + 1, v, by omega, by go_num, by rw [HS.out]; exact hX, hbel⟩
            case measure => simp [intOf]; omega
          · have HS := Lib.hid (filt_yes (f := (fun x : Iv => !decide (x.til < at_))) hz (by simp; omega))
            have he' : decide (at_ ≤ z.til) = true := decide_eq_true (by omega)
            have q3 := hX.1.cell 2
            have q3a := (hX.1.alloc (.cells #[.int .i64 z.id, .int .i64 z.byy, .int .i64 z.til] 54)).cell 2
            have hbal := hbel.alloc hbs (.cells #[.int .i64 z.id, .int .i64 z.byy, .int .i64 z.til] 54)
            have p3a := (hbal.cell (p := ⟨w.heap.size, 2, none⟩) lk0).trans (k0.cell 2)
            have dd0a := (hbal.cell (p := ⟨b, off + k * 3, none⟩) hb).trans HC.out.1
            have dd1a := (hbal.cell (p := ⟨b, off + k * 3 + 1, none⟩) hb).trans HC.out.2.1
            have dd2a := (hbal.cell (p := ⟨b, off + k * 3 + 2, none⟩) hb).trans HC.out.2.2
            clear hbal hz he
            have T9 : ∀ (gg cap : Nat) (w1 : World), w1.ownsRow (W2.heap.size) 54 3 (.slice (some ⟨gg, 0, none⟩) ((((vs.take k).filter (fun x : Iv => !decide (x.til < at_)))).length + 1) cap) ((((vs.take k).filter (fun x : Iv => !decide (x.til < at_)))).length + 1) ((((vs.take k).filter (fun x : Iv => !decide (x.til < at_)))).flatMap ivC ++ [.int .i64 z.id, .int .i64 z.byy, .int .i64 z.til]) → (((wr).alloc (.cells #[.int .i64 z.id, .int .i64 z.byy, .int .i64 z.til] 54)).drew).grownBy w1 v.ownBlock →
                (w1.cell? ⟨W2.heap.size, 2, none⟩ = some v ∧ w1.frozen? ⟨W2.heap.size, 2, none⟩ = false) ∧ OutAt (w1.setCell ⟨W2.heap.size, 2, none⟩ (.slice (some ⟨gg, 0, none⟩) ((((vs.take k).filter (fun x : Iv => !decide (x.til < at_)))).length + 1) cap)) W2.heap.size ((w.heap.size + 1).succ) (W2.heap.size) ((w.heap.size + 1).succ) o (.slice B1 n1 d1) (.slice (some ⟨gg, 0, none⟩) ((((vs.take k).filter (fun x : Iv => !decide (x.til < at_)))).length + 1) cap) (.slice B3 n3 d3) (n1) ((((vs.take k).filter (fun x : Iv => !decide (x.til < at_)))).length + 1) (n3) (ms) (((vs.take k).filter (fun x : Iv => !decide (x.til < at_))) ++ [z]) (bs) ∧ Below W2.heap.size W2 (w1.setCell ⟨W2.heap.size, 2, none⟩ (.slice (some ⟨gg, 0, none⟩) ((((vs.take k).filter (fun x : Iv => !decide (x.til < at_)))).length + 1) cap)) := by
              intro gg cap w1 hown1 hgrow
              have hXa : OutAt (((wr).alloc (.cells #[.int .i64 z.id, .int .i64 z.byy, .int .i64 z.til] 54)).drew) W2.heap.size ((w.heap.size + 1).succ) (W2.heap.size) ((w.heap.size + 1).succ) o (.slice B1 n1 d1) v (.slice B3 n3 d3) (n1) ((((vs.take k).filter (fun x : Iv => !decide (x.til < at_)))).length) (n3) (ms) (((vs.take k).filter (fun x : Iv => !decide (x.til < at_)))) (bs) := hX.alloc _
              have hba : Below W2.heap.size W2 (((wr).alloc (.cells #[.int .i64 z.id, .int .i64 z.byy, .int .i64 z.til] 54)).drew) := (hbel.alloc hbel.size _).drew
              have hbb := hba.grown hgrow hba.size (own_ge hXa.2.2.1 (Nat.le_of_lt_succ (Nat.lt_succ_of_le hqI)))
              have hk1 := hXa.1.grown hgrow (blk_apart hXa.1 hXa.2.2.1 (by decide))
              have hbc := hbb.setCell (p := ⟨W2.heap.size, 2, none⟩) (Nat.le_refl _) (.slice (some ⟨gg, 0, none⟩) ((((vs.take k).filter (fun x : Iv => !decide (x.til < at_)))).length + 1) cap)
              exact ⟨⟨hk1.cell 2, hk1.frozen 2⟩, hXa.putI (vs' := ((vs.take k).filter (fun x : Iv => !decide (x.til < at_))) ++ [z]) hgrow (by rw [List.flatMap_append]; exact hown1), hbc⟩
            have TS9 := Lib.hid T9
            clear T9
            have hbz := hbs
            go_wp2_with fail
            go_region_law ((first | (refine step_append_lies _ (by rfl) _ _ _ (by rfl) (W2.heap.size) 54 i0 _ 3 24 Tryz.underlying29 hi hz0 hz1 hz2 rfl (by omega) v (((vs.take k).filter (fun x : Iv => !decide (x.til < at_)))).length ((((vs.take k).filter (fun x : Iv => !decide (x.til < at_)))).flatMap ivC) (by rfl) (hX.alloc _).2.2.1 ⟨(wr).heap.size, 0, none⟩ 1 1 [.int .i64 z.id, .int .i64 z.byy, .int .i64 z.til] (by rfl) (by rfl) (World.news_of_block (cs := #[.int .i64 z.id, .int .i64 z.byy, .int .i64 z.til]) (t := 54) (fr := (0, 0)) (heap_alloc_new (wr) _)) (by simp [Value.oneCell']) (by omega) (by unfold maxLen; omega) (by omega) (by simp; omega) ((wr).heap.size + 1) (by simp) ?_; intro gg cap w1 hown1 hgrow hat hlt1; obtain ⟨⟨q3b, f3b⟩, hZ, hbZ⟩ := TS9.out gg cap w1 hown1 hgrow)))
            all_goals go_wp2
            all_goals go_roundw
            all_goals first | exact ⟨k + 1, _, by omega, by go_num, by rw [HS.out, List.length_append]; exact hZ, hbZ⟩ | (simp [intOf]; omega)
        · have hkn : k = n2 := by omega
          subst hkn
          rw [List.take_of_length_le (by have := HL2.out; omega)] at hX
          obtain ⟨A5, c5, rfl⟩ := own_form hX.2.2.1
          have gx3 := hX.1.cell 3
          have gf3 := hX.1.frozen 3
          have gx3a := (hX.1.alloc (.cells #[] 56)).cell 3
          have gf3a := (hX.1.alloc (.cells #[] 56)).frozen 3
          have ho6 := World.ownsRow_made wr (base := W2.heap.size) (e := 56) (size := 2) #[] 0 hbs (by decide) rfl
          have hX0 := (hX.alloc (.cells #[] 56)).setB (bs' := []) ho6
          have hbY := (hbel.alloc hbs (.cells #[] 56)).setCell (p := ⟨W2.heap.size, 3, none⟩) (Nat.le_refl _) (.slice (some ⟨wr.heap.size, 0, none⟩) 0 0)
          clear hX hbel ho6 hi hz0 hz1 hz2 i0
          obtain ⟨i0, hi, hz0, hz1, hz2⟩ := info_parts Tryz.info_Ban
          go_wp2_with fail
          clear gx3 gf3 gx3a gf3a p3
          go_loopw [8] (fun i wr => ∃ (k : Nat) (v : Value), k ≤ n3 ∧ i = .int .i64 k ∧ OutAt (wr) W2.heap.size ((w.heap.size + 1).succ) (W2.heap.size) (W2.heap.size) o (.slice B1 n1 d1) (.slice A5 (vs.filter (fun x : Iv => !decide (x.til < at_))).length c5) v (n1) ((vs.filter (fun x : Iv => !decide (x.til < at_))).length) (((bs.take k).filter (fun x : Bn => !decide (x.til < at_))).length) (ms) ((vs.filter (fun x : Iv => !decide (x.til < at_)))) (((bs.take k).filter (fun x : Bn => !decide (x.til < at_)))) ∧ Below W2.heap.size W2 wr) (fun i _ => n3 - (intOf i).toNat)
          case atStart => exact ⟨0, _, by omega, rfl, hX0, hbY⟩
          case round =>
            obtain ⟨k, v, hk, rfl, hX, hbel⟩ := hrel
            clear hX0 hbY
            have hbs := hbel.size
            have p3 := (k0.below hbel lk0).cell 3
            by_cases hlt : k < n3
            · obtain ⟨b, off, z, ha, hb, hz, cc0, cc1⟩ := HB0.out.2.2.atbn hlt
              injection ha with ha
              subst ha
              have dd0 := (hbel.cell hb).trans cc0
              have dd1 := (hbel.cell hb).trans cc1
              have HC := Lib.hid (And.intro cc0 cc1)
              have i0' : (0 : Int) ≤ (k : Int) := Int.natCast_nonneg _
              have i1' : (k : Int) < (n3 : Int) := by omega
              have hln := filt_len (f := (fun x : Bn => !decide (x.til < at_))) (xs := bs) (n := k)
              clear cc0 cc1
              by_cases he : z.til < at_
              · have HS := Lib.hid (filt_no (f := (fun x : Bn => !decide (x.til < at_))) hz (by simp; omega))
                have he' : decide (at_ ≤ z.til) = false := decide_eq_false (by omega)
                clear hz he
                go_wp2
                go_roundw
                case rel => exact ⟨k + 1, v, by omega, by go_num, by rw [HS.out]; exact hX, hbel⟩
                case measure => simp [intOf]; omega
              · have HS := Lib.hid (filt_yes (f := (fun x : Bn => !decide (x.til < at_))) hz (by simp; omega))
                have he' : decide (at_ ≤ z.til) = true := decide_eq_true (by omega)
                have q3 := hX.1.cell 3
                have q3a := (hX.1.alloc (.cells #[.int .i64 z.id, .int .i64 z.til] 56)).cell 3
                have hbal := hbel.alloc hbs (.cells #[.int .i64 z.id, .int .i64 z.til] 56)
                have p3a := (hbal.cell (p := ⟨w.heap.size, 3, none⟩) lk0).trans (k0.cell 3)
                have dd0a := (hbal.cell (p := ⟨b, off + k * 2, none⟩) hb).trans HC.out.1
                have dd1a := (hbal.cell (p := ⟨b, off + k * 2 + 1, none⟩) hb).trans HC.out.2
                clear hbal hz he
                have T9 : ∀ (gg cap : Nat) (w1 : World), w1.ownsRow (W2.heap.size) 56 2 (.slice (some ⟨gg, 0, none⟩) ((((bs.take k).filter (fun x : Bn => !decide (x.til < at_)))).length + 1) cap) ((((bs.take k).filter (fun x : Bn => !decide (x.til < at_)))).length + 1) ((((bs.take k).filter (fun x : Bn => !decide (x.til < at_)))).flatMap bnC ++ [.int .i64 z.id, .int .i64 z.til]) → (((wr).alloc (.cells #[.int .i64 z.id, .int .i64 z.til] 56)).drew).grownBy w1 v.ownBlock →
                    (w1.cell? ⟨W2.heap.size, 3, none⟩ = some v ∧ w1.frozen? ⟨W2.heap.size, 3, none⟩ = false) ∧ OutAt (w1.setCell ⟨W2.heap.size, 3, none⟩ (.slice (some ⟨gg, 0, none⟩) ((((bs.take k).filter (fun x : Bn => !decide (x.til < at_)))).length + 1) cap)) W2.heap.size ((w.heap.size + 1).succ) (W2.heap.size) (W2.heap.size) o (.slice B1 n1 d1) (.slice A5 (vs.filter (fun x : Iv => !decide (x.til < at_))).length c5) (.slice (some ⟨gg, 0, none⟩) ((((bs.take k).filter (fun x : Bn => !decide (x.til < at_)))).length + 1) cap) (n1) ((vs.filter (fun x : Iv => !decide (x.til < at_))).length) ((((bs.take k).filter (fun x : Bn => !decide (x.til < at_)))).length + 1) (ms) ((vs.filter (fun x : Iv => !decide (x.til < at_)))) (((bs.take k).filter (fun x : Bn => !decide (x.til < at_))) ++ [z]) ∧ Below W2.heap.size W2 (w1.setCell ⟨W2.heap.size, 3, none⟩ (.slice (some ⟨gg, 0, none⟩) ((((bs.take k).filter (fun x : Bn => !decide (x.til < at_)))).length + 1) cap)) := by
                  intro gg cap w1 hown1 hgrow
                  have hXa : OutAt (((wr).alloc (.cells #[.int .i64 z.id, .int .i64 z.til] 56)).drew) W2.heap.size ((w.heap.size + 1).succ) (W2.heap.size) (W2.heap.size) o (.slice B1 n1 d1) (.slice A5 (vs.filter (fun x : Iv => !decide (x.til < at_))).length c5) v (n1) ((vs.filter (fun x : Iv => !decide (x.til < at_))).length) ((((bs.take k).filter (fun x : Bn => !decide (x.til < at_)))).length) (ms) ((vs.filter (fun x : Iv => !decide (x.til < at_)))) (((bs.take k).filter (fun x : Bn => !decide (x.til < at_)))) := hX.alloc _
                  have hba : Below W2.heap.size W2 (((wr).alloc (.cells #[.int .i64 z.id, .int .i64 z.til] 56)).drew) := (hbel.alloc hbel.size _).drew
                  have hbb := hba.grown hgrow hba.size (own_ge hXa.2.2.2 (Nat.le_of_lt_succ (Nat.lt_succ_of_le hqB)))
                  have hk1 := hXa.1.grown hgrow (blk_apart hXa.1 hXa.2.2.2 (by decide))
                  have hbc := hbb.setCell (p := ⟨W2.heap.size, 3, none⟩) (Nat.le_refl _) (.slice (some ⟨gg, 0, none⟩) ((((bs.take k).filter (fun x : Bn => !decide (x.til < at_)))).length + 1) cap)
                  exact ⟨⟨hk1.cell 3, hk1.frozen 3⟩, hXa.putB (bs' := ((bs.take k).filter (fun x : Bn => !decide (x.til < at_))) ++ [z]) hgrow (by rw [List.flatMap_append]; exact hown1), hbc⟩
                have TS9 := Lib.hid T9
                clear T9
                have hbz := hbs
                go_wp2_with fail
                go_region_law ((first | (refine step_append_lies _ (by rfl) _ _ _ (by rfl) (W2.heap.size) 56 i0 _ 2 16 Tryz.underlying30 hi hz0 hz1 hz2 rfl (by omega) v (((bs.take k).filter (fun x : Bn => !decide (x.til < at_)))).length ((((bs.take k).filter (fun x : Bn => !decide (x.til < at_)))).flatMap bnC) (by rfl) (hX.alloc _).2.2.2 ⟨(wr).heap.size, 0, none⟩ 1 1 [.int .i64 z.id, .int .i64 z.til] (by rfl) (by rfl) (World.news_of_block (cs := #[.int .i64 z.id, .int .i64 z.til]) (t := 56) (fr := (0, 0)) (heap_alloc_new (wr) _)) (by simp [Value.oneCell']) (by omega) (by unfold maxLen; omega) (by omega) (by simp; omega) ((wr).heap.size + 1) (by simp) ?_; intro gg cap w1 hown1 hgrow hat hlt1; obtain ⟨⟨q3b, f3b⟩, hZ, hbZ⟩ := TS9.out gg cap w1 hown1 hgrow)))
                all_goals go_wp2
                all_goals go_roundw
                all_goals first | exact ⟨k + 1, _, by omega, by go_num, by rw [HS.out, List.length_append]; exact hZ, hbZ⟩ | (simp [intOf]; omega)
            · have hkn : k = n3 := by omega
              subst hkn
              rw [List.take_of_length_le (by have := HL.out; omega)] at hX
              obtain ⟨A6, c6, rfl⟩ := own_form hX.2.2.2
              have hn1 : 0 < n1 := by obtain ⟨m, hm, _⟩ := HV.out.o1; have := List.length_pos_of_mem hm; have := HL1.out; omega
              obtain ⟨g1, rfl, hg1⟩ := own_some hX.2.1 hn1
              have hb5 := hb0.trans (hbel.mono hb0.size)
              have k1 := k1.below hbel zE
              have hX0 : OutAt wr W2.heap.size (w.heap.size + 1).succ W2.heap.size W2.heap.size o (.slice (some ⟨g1, 0, none⟩) n1 d1) (.slice A5 (vs.filter (fun x : Iv => !decide (x.til < at_))).length c5) (.slice A6 (bs.filter (fun x : Bn => !decide (x.til < at_))).length c6) n1 (vs.filter (fun x : Iv => !decide (x.til < at_))).length (bs.filter (fun x : Bn => !decide (x.til < at_))).length (hushK at_ 0 ms) (vs.filter (fun x : Iv => !decide (x.til < at_))) (bs.filter (fun x : Bn => !decide (x.til < at_))) := by rw [hushK_zero]; exact hX
              clear hX hbel k0 hb0 hi hz0 hz1 hz2 i0
              go_wp2_with fail
              clear p3
              go_loopw [9] (fun i wr => ∃ (k : Nat), k ≤ n1 ∧ i = .int .i64 k ∧ OutAt wr W2.heap.size (w.heap.size + 1).succ W2.heap.size W2.heap.size o (.slice (some ⟨g1, 0, none⟩) n1 d1) (.slice A5 (vs.filter (fun x : Iv => !decide (x.til < at_))).length c5) (.slice A6 (bs.filter (fun x : Bn => !decide (x.til < at_))).length c6) n1 (vs.filter (fun x : Iv => !decide (x.til < at_))).length (bs.filter (fun x : Bn => !decide (x.til < at_))).length (hushK at_ k ms) (vs.filter (fun x : Iv => !decide (x.til < at_))) (bs.filter (fun x : Bn => !decide (x.til < at_))) ∧ Blk wr (w.heap.size + 1) 32 #[.bool false, .slice none 0 0, .slice none 0 0, .slice none 0 0] ∧ Below w.heap.size w wr) (fun i _ => n1 - (intOf i).toNat)
              case atStart => exact ⟨0, by omega, rfl, hX0, k1, hb5⟩
              case round =>
                obtain ⟨k, hk, rfl, hX, k1, hbel⟩ := hrel
                clear hX0 hb5
                have l0 := hX.1.cell 0; have l1 := hX.1.cell 1; have l2 := hX.1.cell 2; have l3 := hX.1.cell 3
                by_cases hlt : k < n1
                · have hlm : k < ms.length := by have := HL1.out; omega
                  obtain ⟨z, hz⟩ : ∃ z, ms[k]? = some z := ⟨_, List.getElem?_eq_getElem hlm⟩
                  have hzk := hushK_at (at_ := at_) hz
                  have i0' : (0 : Int) ≤ (k : Int) := Int.natCast_nonneg _
                  have i1' : (k : Int) < (n1 : Int) := by omega
                  have c1' : wr.cell? ⟨g1, k * 4 + 3, none⟩ = some (.int .i64 z.quiet) := by
                    have hq := hX.2.1.cellAt (k * 4 + 3) (by omega)
                    rw [hq, flat_get mbC_len _ k z hzk 3 (by decide)]; rfl
                  have c2' : wr.frozen? ⟨g1, k * 4 + 3, none⟩ = false := hX.2.1.frozenAt _
                  by_cases he : z.quiet ≤ at_
                  · have he' : decide (z.quiet ≤ at_) = true := decide_eq_true he
                    have hZ := hX.stored (i := 3) (z' := hush at_ z) (u := .int .i64 0) hzk (by decide) (by simp [hush, he, mbC])
                    rw [hushK_step hz] at hZ
                    have n1q : w.heap.size + 1 ≠ g1 := by omega
                    have kZ := k1.far (p := ⟨g1, k * 4 + 3, none⟩) n1q (.int .i64 0)
                    have hbZ := hbel.setCell (p := ⟨g1, k * 4 + 3, none⟩) (by simp; omega) (.int .i64 0)
                    clear hz hzk he hX
                    go_wp2
                    go_roundw
                    case rel => exact ⟨k + 1, by omega, by go_num, hZ, kZ, hbZ⟩
                    case measure => simp [intOf]; omega
                  · have he' : decide (z.quiet ≤ at_) = false := decide_eq_false he
                    have HS := Lib.hid (hushK_same hz he)
                    clear hz hzk he
                    go_wp2
                    go_roundw
                    case rel => exact ⟨k + 1, by omega, by go_num, by rw [HS.out]; exact hX, k1, hbel⟩
                    case measure => simp [intOf]; omega
                · have hkn : k = n1 := by omega
                  subst hkn
                  rw [show hushK at_ k ms = ms.map (hush at_) by rw [← HL1.out]; exact hushK_all] at hX
                  have r0 := k1.cell 0; have r1 := k1.cell 1; have r2 := k1.cell 2; have r3 := k1.cell 3
                  have f0 := k1.frozen 0; have f1 := k1.frozen 1; have f2 := k1.frozen 2; have f3 := k1.frozen 3
                  have hRO := hX.room (base := (w.heap.size + 1).succ) (Nat.le_refl _) (Nat.succ_le_of_lt zE) (Nat.succ_le_of_lt zE)
                  have hnn : k + (vs.filter (fun x : Iv => !decide (x.til < at_))).length + (bs.filter (fun x : Bn => !decide (x.til < at_))).length ≤ 1048576 := by have := List.length_filter_le (fun x : Iv => !decide (x.til < at_)) vs; have := List.length_filter_le (fun x : Bn => !decide (x.til < at_)) bs; have := HL2.out; have := HL.out; omega
                  have HR := Lib.hid (show rz = ⟨o, ms.map (hush at_), (vs.filter (fun x : Iv => !decide (x.til < at_))), (bs.filter (fun x : Bn => !decide (x.til < at_))), true⟩ by rw [← HZ.out, sweepS, if_pos HY.out])
                  clear hX
                  go_wp2
                  refine bodyPost_ret (v := .tuple #[.agg #[.bool o, .slice (some ⟨g1, 0, none⟩) k d1, .slice A5 (vs.filter (fun x : Iv => !decide (x.til < at_))).length c5, .slice A6 (bs.filter (fun x : Bn => !decide (x.til < at_))).length c6], .bool true]) (by simp [results, Tryz.results36, go_sem, r0, r1, r2, r3]) rfl ?_
                  rw [HR.out]
                  exact roomOut_yes (r := ⟨o, ms.map (hush at_), (vs.filter (fun x : Iv => !decide (x.til < at_))), (bs.filter (fun x : Bn => !decide (x.til < at_))), true⟩) ((hRO.far4 k1 _ _ _ _ _ _ _ _).mono (by omega)) (below_set4 hbel (Nat.le_succ _) _ _ _ _ _ _ _ _) hnn
end Go.Proofs.YtbamhnbmddopgaaGreatDoor
