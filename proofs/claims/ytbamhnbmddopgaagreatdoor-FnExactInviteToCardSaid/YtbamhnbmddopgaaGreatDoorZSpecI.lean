import Derived.Test.YtbamhnbmddopgaaGreatDoorChecked
import Derived.WalkKit
import Derived.ProofKit
import Derived.OpenShut
import Derived.ShutString
import Derived.ChangeOld
import Derived.Below
import Derived.Lib.Hide
import Derived.Test.YtbamhnbmddopgaaGreatDoorZOutC
namespace Go.Proofs.YtbamhnbmddopgaaGreatDoor
open Go.ChangeShapes Go.WideShapes Go.ChangeAt Go.RowKit
open Go.ChangeMaps (open_string shut_string)
set_option linter.unusedVariables false
set_option maxRecDepth 100000
set_option maxHeartbeats 3200000 in
theorem spec_InviteTo_any (o : Bool) (a1 a2 a3 : Addr) (n1 c1 n2 c2 n3 c3 : Nat) (ms : List Mb) (vs : List Iv) (bs : List Bn) (p : Int) (t : Int) (til : Int) (at_ : Int) (w : World)
    (h : RoomAt w w.heap.size (some a1) n1 (some a2) n2 (some a3) n3 ms vs bs) (hn : n1 + n2 + n3 ≤ 1048576) :
    Calls Tryz.prog 22 #[.agg #[.bool o, .slice (some a1) n1 c1, .slice (some a2) n2 c2, .slice (some a3) n3 c3], .int .i64 p, .int .i64 t, .int .i64 til, .int .i64 at_] w (RoomOut (inviteS o ms vs bs p t til at_) w) := by
  obtain ⟨rz, hrz⟩ : ∃ z, inviteS o ms vs bs p t til at_ = z := ⟨_, rfl⟩
  have HZ := Lib.hid hrz
  rw [hrz]
  clear hrz
  go_enter Tryz.func22, Tryz.ntmps22
  go_wp2_with fail
  obtain ⟨k0, k1, hb0⟩ := two_boxes w 32 32 #[.bool o, .slice (some a1) n1 c1, .slice (some a2) n2 c2, .slice (some a3) n3 c3] #[.bool false, .slice none 0 0, .slice none 0 0, .slice none 0 0]
  generalize ((w.alloc (.cells #[.bool o, .slice (some a1) n1 c1, .slice (some a2) n2 c2, .slice (some a3) n3 c3] 32)).alloc (.cells #[.bool false, .slice none 0 0, .slice none 0 0, .slice none 0 0] 32)) = W at *
  have h := h.to hb0
  have cI := l02Above_any w.heap.size _ _ _ n1 c1 n2 c2 n3 c3 W.heap.size ms vs bs p t 3 at_ W (k0.cell 1) (k0.cell 2) (k0.cell 3) h hn
  have fin : ∀ q, Below w.heap.size w (W.drewN q) := fun q => hb0.trans (Below.mono (drew_below ⟨q, rfl⟩) hb0.size)
  have HF := Lib.hid fin
  clear fin
  cases hA : aboveB ms vs bs p t 3 at_ with
  | false =>
    rw [hA] at cI
    have HR := Lib.hid (show rz = rNo by rw [← HZ.out, inviteS, if_neg (by simp [hA])])
    have k1q := fun q => k1.drewN q
    have r0 : ∀ q, (W.drewN q).cell? ⟨w.heap.size + 1, 0, none⟩ = some (.bool false) := fun q => (k1q q).cell 0
    have r1 : ∀ q, (W.drewN q).cell? ⟨w.heap.size + 1, 1, none⟩ = some (.slice none 0 0) := fun q => (k1q q).cell 1
    have r2 : ∀ q, (W.drewN q).cell? ⟨w.heap.size + 1, 2, none⟩ = some (.slice none 0 0) := fun q => (k1q q).cell 2
    have r3 : ∀ q, (W.drewN q).cell? ⟨w.heap.size + 1, 3, none⟩ = some (.slice none 0 0) := fun q => (k1q q).cell 3
    have f0 := k1.frozen 0; have f1 := k1.frozen 1; have f2 := k1.frozen 2; have f3 := k1.frozen 3
    go_wp2_with (first | (go_at_call 68; refine cI.mono ?_; rintro e w' ⟨rfl, q, rfl⟩))
    refine bodyPost_ret (v := .tuple #[.agg #[.bool false, .slice none 0 0, .slice none 0 0, .slice none 0 0], .bool false]) (by simp [results, Tryz.results22, go_sem, r0, r1, r2, r3]) rfl ?_
    rw [HR.out]
    exact roomOut_no (((((HF.out q).setCell (by simp) _).setCell (by simp) _).setCell (by simp) _).setCell (by simp) _)
  | true =>
    rw [hA] at cI
    cases hT : tickB til with
    | false =>
      have HR := Lib.hid (show rz = rNo by rw [← HZ.out, inviteS, if_neg (by simp [hA, hT])])
      have k1q := fun q => k1.drewN q
      have r0 : ∀ q, (W.drewN q).cell? ⟨w.heap.size + 1, 0, none⟩ = some (.bool false) := fun q => (k1q q).cell 0
      have r1 : ∀ q, (W.drewN q).cell? ⟨w.heap.size + 1, 1, none⟩ = some (.slice none 0 0) := fun q => (k1q q).cell 1
      have r2 : ∀ q, (W.drewN q).cell? ⟨w.heap.size + 1, 2, none⟩ = some (.slice none 0 0) := fun q => (k1q q).cell 2
      have r3 : ∀ q, (W.drewN q).cell? ⟨w.heap.size + 1, 3, none⟩ = some (.slice none 0 0) := fun q => (k1q q).cell 3
      have f0 := k1.frozen 0; have f1 := k1.frozen 1; have f2 := k1.frozen 2; have f3 := k1.frozen 3
      go_wp2_with (first | (go_at_call 68; refine cI.mono ?_; rintro e w' ⟨rfl, q, rfl⟩) | (go_at_call 69; refine (l02Tick_b _ _ _ hT).mono ?_; rintro e w' ⟨rfl, rfl⟩))
      refine bodyPost_ret (v := .tuple #[.agg #[.bool false, .slice none 0 0, .slice none 0 0, .slice none 0 0], .bool false]) (by simp [results, Tryz.results22, go_sem, r0, r1, r2, r3]) rfl ?_
      rw [HR.out]
      exact roomOut_no (((((HF.out q).setCell (by simp) _).setCell (by simp) _).setCell (by simp) _).setCell (by simp) _)
    | true =>
      by_cases hl : til < at_
      · have hl' : decide (til < at_) = true := decide_eq_true hl
        have HR := Lib.hid (show rz = rNo by rw [← HZ.out, inviteS, if_neg (by simp [hA, hT, hl])])
        have k1q := fun q => k1.drewN q
        have r0 : ∀ q, (W.drewN q).cell? ⟨w.heap.size + 1, 0, none⟩ = some (.bool false) := fun q => (k1q q).cell 0
        have r1 : ∀ q, (W.drewN q).cell? ⟨w.heap.size + 1, 1, none⟩ = some (.slice none 0 0) := fun q => (k1q q).cell 1
        have r2 : ∀ q, (W.drewN q).cell? ⟨w.heap.size + 1, 2, none⟩ = some (.slice none 0 0) := fun q => (k1q q).cell 2
        have r3 : ∀ q, (W.drewN q).cell? ⟨w.heap.size + 1, 3, none⟩ = some (.slice none 0 0) := fun q => (k1q q).cell 3
        have f0 := k1.frozen 0; have f1 := k1.frozen 1; have f2 := k1.frozen 2; have f3 := k1.frozen 3
        clear hl
        go_wp2_with (first | (go_at_call 68; refine cI.mono ?_; rintro e w' ⟨rfl, q, rfl⟩) | (go_at_call 69; refine (l02Tick_b _ _ _ hT).mono ?_; rintro e w' ⟨rfl, rfl⟩))
        refine bodyPost_ret (v := .tuple #[.agg #[.bool false, .slice none 0 0, .slice none 0 0, .slice none 0 0], .bool false]) (by simp [results, Tryz.results22, go_sem, r0, r1, r2, r3]) rfl ?_
        rw [HR.out]
        exact roomOut_no (((((HF.out q).setCell (by simp) _).setCell (by simp) _).setCell (by simp) _).setCell (by simp) _)
      · have hl' : decide (til < at_) = false := decide_eq_false hl
        have HL := Lib.hid hl
        clear hl
        cases hf : findM ms t with
        | some m =>
          have hmem := findM_mem hf
          obtain ⟨K, hz, hK, hKf⟩ := find_split hf
          have hKn : K < n1 := by rw [← h.1.1]; exact (List.getElem?_eq_some_iff.1 hz).1
          have HK := Lib.hid (And.intro hK hKf)
          have e0 : ¬ ((K : Int) < 0) := by omega
          clear hK hKf hz hf
          have HR := Lib.hid (show rz = rNo by rw [← HZ.out, inviteS, if_neg (by simp [hA, hT, HL.out, hmem])])
          have k1q := fun q => k1.drewN q
          have r0 : ∀ q, (W.drewN q).cell? ⟨w.heap.size + 1, 0, none⟩ = some (.bool false) := fun q => (k1q q).cell 0
          have r1 : ∀ q, (W.drewN q).cell? ⟨w.heap.size + 1, 1, none⟩ = some (.slice none 0 0) := fun q => (k1q q).cell 1
          have r2 : ∀ q, (W.drewN q).cell? ⟨w.heap.size + 1, 2, none⟩ = some (.slice none 0 0) := fun q => (k1q q).cell 2
          have r3 : ∀ q, (W.drewN q).cell? ⟨w.heap.size + 1, 3, none⟩ = some (.slice none 0 0) := fun q => (k1q q).cell 3
          have f0 := k1.frozen 0; have f1 := k1.frozen 1; have f2 := k1.frozen 2; have f3 := k1.frozen 3
          clear hmem
          go_wp2_with (first | (go_at_call 68; refine cI.mono ?_; rintro e w' ⟨rfl, q, rfl⟩) | (go_at_call 69; refine (l02Tick_b _ _ _ hT).mono ?_; rintro e w' ⟨rfl, rfl⟩) | (go_at_call 70; refine (l02Find_at w.heap.size _ n1 c1 W.heap.size ms t (W.drewN q) ((k0.drewN q).cell 1) (h.1.drewN q) (by omega) K HK.out.1 HK.out.2).mono ?_; rintro e w' ⟨rfl, rfl⟩))
          refine bodyPost_ret (v := .tuple #[.agg #[.bool false, .slice none 0 0, .slice none 0 0, .slice none 0 0], .bool false]) (by simp [results, Tryz.results22, go_sem, r0, r1, r2, r3]) rfl ?_
          rw [HR.out]
          exact roomOut_no (((((HF.out q).setCell (by simp) _).setCell (by simp) _).setCell (by simp) _).setCell (by simp) _)
        | none =>
          have HN := Lib.hid (findM_none.1 hf)
          clear hf
          by_cases hB : t ∈ bids bs
          · obtain ⟨KB, hK, hKf⟩ := first_at hB
            have HKB := Lib.hid (And.intro hK hKf)
            have eb0 : ¬ ((KB : Int) < 0) := by omega
            clear hK hKf
            have HR := Lib.hid (show rz = rNo by rw [← HZ.out, inviteS, if_neg (by simp [hA, hT, HL.out, HN.out, hB])])
            have k1q := fun q => k1.drewN q
            have r0 : ∀ q, (W.drewN q).cell? ⟨w.heap.size + 1, 0, none⟩ = some (.bool false) := fun q => (k1q q).cell 0
            have r1 : ∀ q, (W.drewN q).cell? ⟨w.heap.size + 1, 1, none⟩ = some (.slice none 0 0) := fun q => (k1q q).cell 1
            have r2 : ∀ q, (W.drewN q).cell? ⟨w.heap.size + 1, 2, none⟩ = some (.slice none 0 0) := fun q => (k1q q).cell 2
            have r3 : ∀ q, (W.drewN q).cell? ⟨w.heap.size + 1, 3, none⟩ = some (.slice none 0 0) := fun q => (k1q q).cell 3
            have f0 := k1.frozen 0; have f1 := k1.frozen 1; have f2 := k1.frozen 2; have f3 := k1.frozen 3
            clear hB
            go_wp2_with (first | (go_at_call 68; refine cI.mono ?_; rintro e w' ⟨rfl, q, rfl⟩) | (go_at_call 69; refine (l02Tick_b _ _ _ hT).mono ?_; rintro e w' ⟨rfl, rfl⟩) | (go_at_call 70; refine (l02Find_no w.heap.size _ n1 c1 W.heap.size ms t (W.drewN q) ((k0.drewN q).cell 1) (h.1.drewN q) (by omega) HN.out).mono ?_; rintro e w' ⟨rfl, rfl⟩) | (go_at_call 71; refine (l02Banned_at w.heap.size _ n3 c3 W.heap.size bs t (W.drewN q) ((k0.drewN q).cell 3) (h.2.2.drewN q) (by omega) KB HKB.out.1 HKB.out.2).mono ?_; rintro e w' ⟨rfl, rfl⟩))
            refine bodyPost_ret (v := .tuple #[.agg #[.bool false, .slice none 0 0, .slice none 0 0, .slice none 0 0], .bool false]) (by simp [results, Tryz.results22, go_sem, r0, r1, r2, r3]) rfl ?_
            rw [HR.out]
            exact roomOut_no (((((HF.out q).setCell (by simp) _).setCell (by simp) _).setCell (by simp) _).setCell (by simp) _)
          · have HNB := Lib.hid hB
            clear hB
            have HY := Lib.hid (show (aboveB ms vs bs p t 3 at_ && tickB til && !decide (til < at_) && !decide (t ∈ mids ms) && !decide (t ∈ bids bs)) = true by simp [hA, hT, HL.out, HN.out, HNB.out])
            go_wp2_with (first | (go_at_call 68; refine cI.mono ?_; rintro e w' ⟨rfl, q, rfl⟩) | (go_at_call 69; refine (l02Tick_b _ _ _ hT).mono ?_; rintro e w' ⟨rfl, rfl⟩) | (go_at_call 70; refine (l02Find_no w.heap.size _ n1 c1 W.heap.size ms t (W.drewN q) ((k0.drewN q).cell 1) (h.1.drewN q) (by omega) HN.out).mono ?_; rintro e w' ⟨rfl, rfl⟩) | (go_at_call 71; refine (l02Banned_no w.heap.size _ n3 c3 W.heap.size bs t (W.drewN q) ((k0.drewN q).cell 3) (h.2.2.drewN q) (by omega) HNB.out).mono ?_; rintro e w' ⟨rfl, rfl⟩))
            have HV := Lib.hid (above_room hA)
            have z1 := k1.lt
            have hD : RoomAt (W.drewN q) (W.drewN q).heap.size (some a1) n1 (some a2) n2 (some a3) n3 ms vs bs := h
            have kD := k0.drewN q
            have k1D := k1.drewN q
            have hbD : Below w.heap.size w (W.drewN q) := HF.out q
            have zD : w.heap.size + 1 < (W.drewN q).heap.size := z1
            clear h k0 k1 hb0 z1 cI HF
            generalize W.drewN q = W1 at *
            go_at_call 54; refine (l02Copy_any w.heap.size n1 c1 n2 c2 n3 c3 a1 a2 a3 o ms vs bs W1 kD hD hn).mono ?_; rintro e W2 ⟨B1, d1, B2, d2, B3, d3, rfl, hO, hb1⟩
            have k0 := kD.below hb1 kD.lt
            have k1 := k1D.below hb1 zD
            have h := hD.to hb1
            have hb0 := hbD.trans (hb1.mono hbD.size)
            have zE := k1.lt
            have hO := hO.mono (Nat.succ_le_of_lt zD)
            clear hb1 kD k1D hbD hD
            obtain ⟨q1, hb1⟩ := one_box W2 32 #[.bool o, .slice B1 n1 d1, .slice B2 n2 d2, .slice B3 n3 d3]
            have hX : OutAt (W2.alloc (.cells #[.bool o, .slice B1 n1 d1, .slice B2 n2 d2, .slice B3 n3 d3] 32)) W2.heap.size (w.heap.size + 1).succ (w.heap.size + 1).succ (w.heap.size + 1).succ o (.slice B1 n1 d1) (.slice B2 n2 d2) (.slice B3 n3 d3) n1 n2 n3 ms vs bs := ⟨q1, hO.below hb1 (Nat.le_refl _)⟩
            have hr2 := h.2.1.to hb1
            have lk0 := k0.lt
            have p2 := (k0.alloc (.cells #[.bool o, .slice B1 n1 d1, .slice B2 n2 d2, .slice B3 n3 d3] 32)).cell 2
            have HL1 := Lib.hid h.1.1
            have HL2 := Lib.hid h.2.1.1
            have HL3 := Lib.hid h.2.2.1
            clear hO q1
            go_wp2_with fail
            generalize W2.alloc (.cells #[.bool o, .slice B1 n1 d1, .slice B2 n2 d2, .slice B3 n3 d3] 32) = X at *
            go_at_call 72; refine (l02Without_any _ _ _ vs t _ hr2 (by omega)).mono ?_; rintro e W3 ⟨A4, m4, c4, rfl, rfl, ho4, hb4⟩
            have HO4 := Lib.hid ho4
            have hXi := (hX.below hb4).alloc (.cells #[] 54)
            have hbi := (hb1.trans (hb4.mono hb1.size)).alloc (hb1.trans (hb4.mono hb1.size)).size (.cells #[] 54)
            have zW3 := (hb1.trans (hb4.mono hb1.size)).size
            have zX := hb1.size
            have gx1 := hXi.1.cell 2
            have gf1 := hXi.1.frozen 2
            have ho6 := World.ownsRow_made W3 (base := W3.heap.size) (e := 54) (size := 3) #[] 0 (Nat.le_refl _) (by decide) rfl
            have hXb := hXi.setI (vs' := []) ho6
            have hbb0 := hbi.setCell (p := ⟨W2.heap.size, 2, none⟩) (Nat.le_refl _) (.slice (some ⟨W3.heap.size, 0, none⟩) 0 0)
            have hR0 := ownsRow_setCell_other (ho4.alloc (.cells #[] 54)) (a := ⟨W2.heap.size, 2, none⟩) (fun e => blk_apart hXi.1 (ho4.alloc (.cells #[] 54)) (by decide) e.symm) (.slice (some ⟨W3.heap.size, 0, none⟩) 0 0)
            obtain ⟨i0, hi, hz0, hz1, hz2⟩ := info_parts Tryz.info_Invite
            have hqI := zW3
            clear hXi ho6 hbi hb4 hX hr2 p2 hb1 ho4
            go_wp2_with fail
            clear gx1 gf1
            go_loopw [14, 15] (fun pv i wr => ∃ (k : Nat) (v : Value) (pb : Bool), k ≤ (dropK Iv.id t vs).length ∧ pv = .bool pb ∧ i = .int .i64 k ∧ OutAt (wr) W2.heap.size ((w.heap.size + 1).succ) (W3.heap.size) ((w.heap.size + 1).succ) o (.slice B1 n1 d1) v (.slice B3 n3 d3) (n1) ((addL Iv.id (⟨t, p, til⟩ : Iv) pb ((dropK Iv.id t vs).take k)).length) (n3) (ms) (addL Iv.id (⟨t, p, til⟩ : Iv) pb ((dropK Iv.id t vs).take k)) (bs) ∧ addM Iv.id (⟨t, p, til⟩ : Iv) pb ((dropK Iv.id t vs).take k) ∧ (wr).ownsRow X.heap.size 54 3 (.slice A4 (dropK Iv.id t vs).length c4) (dropK Iv.id t vs).length ((dropK Iv.id t vs).flatMap ivC) ∧ W3.heap.size ≤ wr.heap.size ∧ Below W2.heap.size W2 wr) (fun _ i _ => (dropK Iv.id t vs).length - (intOf i).toNat)
            case atStart => exact ⟨0, _, false, by omega, rfl, rfl, hXb, by simp [addM], hR0, by simp, hbb0⟩
            case round =>
              obtain ⟨k, v, pb, hk, rfl, rfl, hX, hM, hR, hw3, hbel⟩ := hrel
              clear hXb hbb0 hR0
              have hbs := hbel.size
              have hRS := SRow.of_own_any ivC_len (by decide) hR
              have hvl := drop_len (k := Iv.id) (t := t) (xs := vs)
              have hvn := HL2.out
              by_cases hlt : k < (dropK Iv.id t vs).length
              · obtain ⟨b, off, z, ha, hb, hz, dd0, dd1, dd2⟩ := hRS.ativ hlt
                subst ha
                have i0' : (0 : Int) ≤ (k : Int) := Int.natCast_nonneg _
                have i1' : (k : Int) < ((dropK Iv.id t vs).length : Int) := by omega
                have hln := addL_len (k := Iv.id) (x := (⟨t, p, til⟩ : Iv)) (put := pb) (xs := (dropK Iv.id t vs)) (n := k)
                have HM := Lib.hid hM
                clear hM hRS
                cases pb with
                | true =>
                  have HM2 := Lib.hid (addM_put HM.out)
                  have HS := Lib.hid (add_put_step hz (show ∃ y ∈ (dropK Iv.id t vs).take k, Iv.id (⟨t, p, til⟩ : Iv) < Iv.id y by simpa [addM] using HM.out))
                  clear hz
                  have q3 := hX.1.cell 2
                  have q3a := (hX.1.alloc (.cells #[.int .i64 z.id, .int .i64 z.byy, .int .i64 z.til] 54)).cell 2
                  have hbal := (Below.refl _ (wr)).alloc (Nat.le_refl _) (.cells #[.int .i64 z.id, .int .i64 z.byy, .int .i64 z.til] 54)
                  have dd0a := (hbal.cell (p := ⟨b, off + k * 3, none⟩) hb).trans dd0
                  have dd1a := (hbal.cell (p := ⟨b, off + k * 3 + 1, none⟩) hb).trans dd1
                  have dd2a := (hbal.cell (p := ⟨b, off + k * 3 + 2, none⟩) hb).trans dd2
                  clear hbal
                  have T9 : ∀ (gg cap : Nat) (w1 : World), w1.ownsRow (W3.heap.size) 54 3 (.slice (some ⟨gg, 0, none⟩) ((addL Iv.id (⟨t, p, til⟩ : Iv) true ((dropK Iv.id t vs).take k)).length + 1) cap) ((addL Iv.id (⟨t, p, til⟩ : Iv) true ((dropK Iv.id t vs).take k)).length + 1) ((addL Iv.id (⟨t, p, til⟩ : Iv) true ((dropK Iv.id t vs).take k)).flatMap ivC ++ [.int .i64 z.id, .int .i64 z.byy, .int .i64 z.til]) → (((wr).alloc (.cells #[.int .i64 z.id, .int .i64 z.byy, .int .i64 z.til] 54)).drew).grownBy w1 v.ownBlock →
                      (w1.cell? ⟨W2.heap.size, 2, none⟩ = some v ∧ w1.frozen? ⟨W2.heap.size, 2, none⟩ = false) ∧ OutAt (w1.setCell ⟨W2.heap.size, 2, none⟩ (.slice (some ⟨gg, 0, none⟩) ((addL Iv.id (⟨t, p, til⟩ : Iv) true ((dropK Iv.id t vs).take k)).length + 1) cap)) W2.heap.size ((w.heap.size + 1).succ) (W3.heap.size) ((w.heap.size + 1).succ) o (.slice B1 n1 d1) (.slice (some ⟨gg, 0, none⟩) ((addL Iv.id (⟨t, p, til⟩ : Iv) true ((dropK Iv.id t vs).take k)).length + 1) cap) (.slice B3 n3 d3) (n1) ((addL Iv.id (⟨t, p, til⟩ : Iv) true ((dropK Iv.id t vs).take k)).length + 1) (n3) (ms) (addL Iv.id (⟨t, p, til⟩ : Iv) true ((dropK Iv.id t vs).take k) ++ [z]) (bs) ∧ Below W2.heap.size W2 (w1.setCell ⟨W2.heap.size, 2, none⟩ (.slice (some ⟨gg, 0, none⟩) ((addL Iv.id (⟨t, p, til⟩ : Iv) true ((dropK Iv.id t vs).take k)).length + 1) cap)) ∧ ((w1.setCell ⟨W2.heap.size, 2, none⟩ (.slice (some ⟨gg, 0, none⟩) ((addL Iv.id (⟨t, p, til⟩ : Iv) true ((dropK Iv.id t vs).take k)).length + 1) cap))).ownsRow X.heap.size 54 3 (.slice (some ⟨b, off, none⟩) (dropK Iv.id t vs).length c4) (dropK Iv.id t vs).length ((dropK Iv.id t vs).flatMap ivC) ∧ W3.heap.size ≤ (w1.setCell ⟨W2.heap.size, 2, none⟩ (.slice (some ⟨gg, 0, none⟩) ((addL Iv.id (⟨t, p, til⟩ : Iv) true ((dropK Iv.id t vs).take k)).length + 1) cap)).heap.size := by
                    intro gg cap w1 hown1 hgrow
                    have hXa : OutAt (((wr).alloc (.cells #[.int .i64 z.id, .int .i64 z.byy, .int .i64 z.til] 54)).drew) W2.heap.size ((w.heap.size + 1).succ) (W3.heap.size) ((w.heap.size + 1).succ) o (.slice B1 n1 d1) v (.slice B3 n3 d3) (n1) ((addL Iv.id (⟨t, p, til⟩ : Iv) true ((dropK Iv.id t vs).take k)).length) (n3) (ms) (addL Iv.id (⟨t, p, til⟩ : Iv) true ((dropK Iv.id t vs).take k)) (bs) := hX.alloc _
                    have hba : Below W2.heap.size W2 (((wr).alloc (.cells #[.int .i64 z.id, .int .i64 z.byy, .int .i64 z.til] 54)).drew) := (hbel.alloc hbel.size _).drew
                    have hbb := hba.grown hgrow hba.size (own_ge hXa.2.2.1 (Nat.le_of_lt_succ (Nat.lt_succ_of_le hqI)))
                    have hk1 := hXa.1.grown hgrow (blk_apart hXa.1 hXa.2.2.1 (by decide))
                    have hRa : (((wr).alloc (.cells #[.int .i64 z.id, .int .i64 z.byy, .int .i64 z.til] 54)).drew).ownsRow X.heap.size 54 3 (.slice (some ⟨b, off, none⟩) (dropK Iv.id t vs).length c4) (dropK Iv.id t vs).length ((dropK Iv.id t vs).flatMap ivC) := hR.alloc _
                    have hRk := hRa.kept hgrow (own_apart_lt HO4.out hXa.2.2.1 (Nat.le_refl _))
                    have hbc := hbb.setCell (p := ⟨W2.heap.size, 2, none⟩) (Nat.le_refl _) (.slice (some ⟨gg, 0, none⟩) ((addL Iv.id (⟨t, p, til⟩ : Iv) true ((dropK Iv.id t vs).take k)).length + 1) cap)
                    exact ⟨⟨hk1.cell 2, hk1.frozen 2⟩, hXa.putI (vs' := addL Iv.id (⟨t, p, til⟩ : Iv) true ((dropK Iv.id t vs).take k) ++ [z]) hgrow (by rw [List.flatMap_append]; exact hown1), hbc, ownsRow_setCell_other hRk (a := ⟨W2.heap.size, 2, none⟩) (fun e => blk_apart hk1 hRk (by decide) e.symm) (.slice (some ⟨gg, 0, none⟩) ((addL Iv.id (⟨t, p, til⟩ : Iv) true ((dropK Iv.id t vs).take k)).length + 1) cap), by have := hgrow.size; simp at this ⊢; omega⟩
                  have TS9 := Lib.hid T9
                  clear T9
                  have hbz := hbel.size
                  go_wp2_with fail
                  go_region_law ((first | (refine step_append_lies _ (by rfl) _ _ _ (by rfl) (W3.heap.size) 54 i0 _ 3 24 Tryz.underlying29 hi hz0 hz1 hz2 rfl (by omega) v (addL Iv.id (⟨t, p, til⟩ : Iv) true ((dropK Iv.id t vs).take k)).length ((addL Iv.id (⟨t, p, til⟩ : Iv) true ((dropK Iv.id t vs).take k)).flatMap ivC) (by rfl) (hX.alloc _).2.2.1 ⟨(wr).heap.size, 0, none⟩ 1 1 [.int .i64 z.id, .int .i64 z.byy, .int .i64 z.til] (by rfl) (by rfl) (World.news_of_block (cs := #[.int .i64 z.id, .int .i64 z.byy, .int .i64 z.til]) (t := 54) (fr := (0, 0)) (heap_alloc_new (wr) _)) (by simp [Value.oneCell']) (by omega) (by unfold maxLen; omega) (by omega) (by simp; omega) ((wr).heap.size + 1) (by simp) ?_; intro gg cap w1 hown1 hgrow hat hlt1; obtain ⟨⟨q3b, f3b⟩, hZ, hbZ, hRZ, hwZ⟩ := TS9.out gg cap w1 hown1 hgrow)))
                  all_goals go_wp2
                  all_goals go_roundw
                  all_goals first | exact ⟨k + 1, _, true, by omega, rfl, by go_num, by rw [HS.out, List.length_append]; exact hZ, HM2.out, hRZ, hwZ, hbZ⟩ | (simp [intOf]; omega)
                | false =>
                  by_cases hge : t < z.id
                  · have hge' : decide (t < z.id) = true := decide_eq_true hge
                    have HM2 := Lib.hid (addM_now (k := Iv.id) (x := (⟨t, p, til⟩ : Iv)) hz hge)
                    have q3 := hX.1.cell 2
                    have hbz := hbel.size
                    have T8 : ∀ (gg cap : Nat) (w1 : World), w1.ownsRow (W3.heap.size) 54 3 (.slice (some ⟨gg, 0, none⟩) ((addL Iv.id (⟨t, p, til⟩ : Iv) false ((dropK Iv.id t vs).take k)).length + 1) cap) ((addL Iv.id (⟨t, p, til⟩ : Iv) false ((dropK Iv.id t vs).take k)).length + 1) ((addL Iv.id (⟨t, p, til⟩ : Iv) false ((dropK Iv.id t vs).take k)).flatMap ivC ++ [.int .i64 t, .int .i64 p, .int .i64 til]) → ((wr).alloc (.cells #[.int .i64 t, .int .i64 p, .int .i64 til] 54)).grownBy w1 v.ownBlock →
                        (w1.cell? ⟨W2.heap.size, 2, none⟩ = some v ∧ w1.frozen? ⟨W2.heap.size, 2, none⟩ = false) ∧ OutAt (w1.setCell ⟨W2.heap.size, 2, none⟩ (.slice (some ⟨gg, 0, none⟩) ((addL Iv.id (⟨t, p, til⟩ : Iv) false ((dropK Iv.id t vs).take k)).length + 1) cap)) W2.heap.size ((w.heap.size + 1).succ) (W3.heap.size) ((w.heap.size + 1).succ) o (.slice B1 n1 d1) (.slice (some ⟨gg, 0, none⟩) ((addL Iv.id (⟨t, p, til⟩ : Iv) false ((dropK Iv.id t vs).take k)).length + 1) cap) (.slice B3 n3 d3) (n1) ((addL Iv.id (⟨t, p, til⟩ : Iv) false ((dropK Iv.id t vs).take k)).length + 1) (n3) (ms) (addL Iv.id (⟨t, p, til⟩ : Iv) false ((dropK Iv.id t vs).take k) ++ [(⟨t, p, til⟩ : Iv)]) (bs) ∧ Below W2.heap.size W2 (w1.setCell ⟨W2.heap.size, 2, none⟩ (.slice (some ⟨gg, 0, none⟩) ((addL Iv.id (⟨t, p, til⟩ : Iv) false ((dropK Iv.id t vs).take k)).length + 1) cap)) ∧ ((w1.setCell ⟨W2.heap.size, 2, none⟩ (.slice (some ⟨gg, 0, none⟩) ((addL Iv.id (⟨t, p, til⟩ : Iv) false ((dropK Iv.id t vs).take k)).length + 1) cap))).ownsRow X.heap.size 54 3 (.slice (some ⟨b, off, none⟩) (dropK Iv.id t vs).length c4) (dropK Iv.id t vs).length ((dropK Iv.id t vs).flatMap ivC) ∧ W3.heap.size ≤ (w1.setCell ⟨W2.heap.size, 2, none⟩ (.slice (some ⟨gg, 0, none⟩) ((addL Iv.id (⟨t, p, til⟩ : Iv) false ((dropK Iv.id t vs).take k)).length + 1) cap)).heap.size := by
                      intro gg cap w1 hown1 hgrow
                      have hXa : OutAt ((wr).alloc (.cells #[.int .i64 t, .int .i64 p, .int .i64 til] 54)) W2.heap.size ((w.heap.size + 1).succ) (W3.heap.size) ((w.heap.size + 1).succ) o (.slice B1 n1 d1) v (.slice B3 n3 d3) (n1) ((addL Iv.id (⟨t, p, til⟩ : Iv) false ((dropK Iv.id t vs).take k)).length) (n3) (ms) (addL Iv.id (⟨t, p, til⟩ : Iv) false ((dropK Iv.id t vs).take k)) (bs) := hX.alloc _
                      have hba : Below W2.heap.size W2 ((wr).alloc (.cells #[.int .i64 t, .int .i64 p, .int .i64 til] 54)) := (hbel.alloc hbel.size _)
                      have hbb := hba.grown hgrow hba.size (own_ge hXa.2.2.1 (Nat.le_of_lt_succ (Nat.lt_succ_of_le hqI)))
                      have hk1 := hXa.1.grown hgrow (blk_apart hXa.1 hXa.2.2.1 (by decide))
                      have hRa : ((wr).alloc (.cells #[.int .i64 t, .int .i64 p, .int .i64 til] 54)).ownsRow X.heap.size 54 3 (.slice (some ⟨b, off, none⟩) (dropK Iv.id t vs).length c4) (dropK Iv.id t vs).length ((dropK Iv.id t vs).flatMap ivC) := hR.alloc _
                      have hRk := hRa.kept hgrow (own_apart_lt HO4.out hXa.2.2.1 (Nat.le_refl _))
                      have hbc := hbb.setCell (p := ⟨W2.heap.size, 2, none⟩) (Nat.le_refl _) (.slice (some ⟨gg, 0, none⟩) ((addL Iv.id (⟨t, p, til⟩ : Iv) false ((dropK Iv.id t vs).take k)).length + 1) cap)
                      exact ⟨⟨hk1.cell 2, hk1.frozen 2⟩, hXa.putI (vs' := addL Iv.id (⟨t, p, til⟩ : Iv) false ((dropK Iv.id t vs).take k) ++ [(⟨t, p, til⟩ : Iv)]) hgrow (by rw [List.flatMap_append]; exact hown1), hbc, ownsRow_setCell_other hRk (a := ⟨W2.heap.size, 2, none⟩) (fun e => blk_apart hk1 hRk (by decide) e.symm) (.slice (some ⟨gg, 0, none⟩) ((addL Iv.id (⟨t, p, til⟩ : Iv) false ((dropK Iv.id t vs).take k)).length + 1) cap), by have := hgrow.size; simp at this ⊢; omega⟩
                    have TS8 := Lib.hid T8
                    clear T8
                    have HS := Lib.hid (add_now_step (k := Iv.id) (x := (⟨t, p, til⟩ : Iv)) hz (show ∀ y ∈ (dropK Iv.id t vs).take k, ¬ Iv.id (⟨t, p, til⟩ : Iv) < Iv.id y by simpa [addM] using HM.out) hge)
                    have HZ9 := Lib.hid hz
                    clear hz hge
                    have q3a := (hX.1.alloc (.cells #[.int .i64 t, .int .i64 p, .int .i64 til] 54)).cell 2
                    go_wp2_with (at_builtin; refine wpList_append_lies _ rfl (.tmp 67) (.tmp 72) 29 rfl (W3.heap.size) 54 i0 _ 3 24 Tryz.underlying29 hi hz0 hz1 hz2 rfl (by omega) v (addL Iv.id (⟨t, p, til⟩ : Iv) false ((dropK Iv.id t vs).take k)).length ((addL Iv.id (⟨t, p, til⟩ : Iv) false ((dropK Iv.id t vs).take k)).flatMap ivC) rfl ((hX.alloc _).2.2.1) ⟨(wr).heap.size, 0, none⟩ 1 1 [.int .i64 t, .int .i64 p, .int .i64 til] rfl rfl (World.news_of_block (cs := #[.int .i64 t, .int .i64 p, .int .i64 til]) (t := 54) (fr := (0, 0)) (heap_alloc_new (wr) _)) (by simp [Value.oneCell']) (by omega) (by unfold maxLen; omega) (by omega) (by simp; omega) ((wr).heap.size + 1) (by simp) ?_; intro gg cap w1 hown1 hgrow hat hlt1; obtain ⟨⟨q3b, f3b⟩, hZ, hbZ, hRZ, hwZ⟩ := TS8.out gg cap w1 hown1 hgrow)
                    clear q3 q3a q3b f3b dd0 dd1 dd2 TS8 hbel hX hR hown1 hgrow hat hlt1 hb
                    generalize Value.slice (some ⟨gg, 0, none⟩) ((addL Iv.id (⟨t, p, til⟩ : Iv) false ((dropK Iv.id t vs).take k)).length + 1) cap = nv at *
                    generalize w1.setCell ⟨W2.heap.size, 2, none⟩ nv = V at *
                    have hX := hZ
                    have hbel := hbZ
                    have hR := hRZ
                    have hw3 := hwZ
                    clear hZ hbZ hRZ hwZ
                    have hRS := SRow.of_own_any ivC_len (by decide) hR
                    obtain ⟨b', off', z', ha, hb, hz', dd0, dd1, dd2⟩ := hRS.ativ hlt
                    injection ha with ha
                    injection ha with ha1 ha2
                    subst ha1 ha2
                    have hzz : z = z' := Option.some.inj (HZ9.out.symm.trans hz')
                    subst hzz
                    clear hz' hRS
                    rw [show (addL Iv.id (⟨t, p, til⟩ : Iv) false ((dropK Iv.id t vs).take k)).length + 1 = (addL Iv.id (⟨t, p, til⟩ : Iv) false ((dropK Iv.id t vs).take k) ++ [(⟨t, p, til⟩ : Iv)]).length by simp] at hX
                    have hln : (addL Iv.id (⟨t, p, til⟩ : Iv) false ((dropK Iv.id t vs).take k) ++ [(⟨t, p, til⟩ : Iv)]).length ≤ k + 2 := by simp; omega
                    generalize addL Iv.id (⟨t, p, til⟩ : Iv) false ((dropK Iv.id t vs).take k) ++ [(⟨t, p, til⟩ : Iv)] = LL at *
                    have q3 := hX.1.cell 2
                    have q3a := (hX.1.alloc (.cells #[.int .i64 z.id, .int .i64 z.byy, .int .i64 z.til] 54)).cell 2
                    have hbal := (Below.refl _ (V)).alloc (Nat.le_refl _) (.cells #[.int .i64 z.id, .int .i64 z.byy, .int .i64 z.til] 54)
                    have dd0a := (hbal.cell (p := ⟨b, off + k * 3, none⟩) hb).trans dd0
                    have dd1a := (hbal.cell (p := ⟨b, off + k * 3 + 1, none⟩) hb).trans dd1
                    have dd2a := (hbal.cell (p := ⟨b, off + k * 3 + 2, none⟩) hb).trans dd2
                    clear hbal
                    have T9 : ∀ (gg cap : Nat) (w1 : World), w1.ownsRow (W3.heap.size) 54 3 (.slice (some ⟨gg, 0, none⟩) ((LL).length + 1) cap) ((LL).length + 1) ((LL).flatMap ivC ++ [.int .i64 z.id, .int .i64 z.byy, .int .i64 z.til]) → (((V).alloc (.cells #[.int .i64 z.id, .int .i64 z.byy, .int .i64 z.til] 54)).drew).grownBy w1 nv.ownBlock →
                        (w1.cell? ⟨W2.heap.size, 2, none⟩ = some nv ∧ w1.frozen? ⟨W2.heap.size, 2, none⟩ = false) ∧ OutAt (w1.setCell ⟨W2.heap.size, 2, none⟩ (.slice (some ⟨gg, 0, none⟩) ((LL).length + 1) cap)) W2.heap.size ((w.heap.size + 1).succ) (W3.heap.size) ((w.heap.size + 1).succ) o (.slice B1 n1 d1) (.slice (some ⟨gg, 0, none⟩) ((LL).length + 1) cap) (.slice B3 n3 d3) (n1) ((LL).length + 1) (n3) (ms) (LL ++ [z]) (bs) ∧ Below W2.heap.size W2 (w1.setCell ⟨W2.heap.size, 2, none⟩ (.slice (some ⟨gg, 0, none⟩) ((LL).length + 1) cap)) ∧ ((w1.setCell ⟨W2.heap.size, 2, none⟩ (.slice (some ⟨gg, 0, none⟩) ((LL).length + 1) cap))).ownsRow X.heap.size 54 3 (.slice (some ⟨b, off, none⟩) (dropK Iv.id t vs).length c4) (dropK Iv.id t vs).length ((dropK Iv.id t vs).flatMap ivC) ∧ W3.heap.size ≤ (w1.setCell ⟨W2.heap.size, 2, none⟩ (.slice (some ⟨gg, 0, none⟩) ((LL).length + 1) cap)).heap.size := by
                      intro gg cap w1 hown1 hgrow
                      have hXa : OutAt (((V).alloc (.cells #[.int .i64 z.id, .int .i64 z.byy, .int .i64 z.til] 54)).drew) W2.heap.size ((w.heap.size + 1).succ) (W3.heap.size) ((w.heap.size + 1).succ) o (.slice B1 n1 d1) nv (.slice B3 n3 d3) (n1) ((LL).length) (n3) (ms) (LL) (bs) := hX.alloc _
                      have hba : Below W2.heap.size W2 (((V).alloc (.cells #[.int .i64 z.id, .int .i64 z.byy, .int .i64 z.til] 54)).drew) := (hbel.alloc hbel.size _).drew
                      have hbb := hba.grown hgrow hba.size (own_ge hXa.2.2.1 (Nat.le_of_lt_succ (Nat.lt_succ_of_le hqI)))
                      have hk1 := hXa.1.grown hgrow (blk_apart hXa.1 hXa.2.2.1 (by decide))
                      have hRa : (((V).alloc (.cells #[.int .i64 z.id, .int .i64 z.byy, .int .i64 z.til] 54)).drew).ownsRow X.heap.size 54 3 (.slice (some ⟨b, off, none⟩) (dropK Iv.id t vs).length c4) (dropK Iv.id t vs).length ((dropK Iv.id t vs).flatMap ivC) := hR.alloc _
                      have hRk := hRa.kept hgrow (own_apart_lt HO4.out hXa.2.2.1 (Nat.le_refl _))
                      have hbc := hbb.setCell (p := ⟨W2.heap.size, 2, none⟩) (Nat.le_refl _) (.slice (some ⟨gg, 0, none⟩) ((LL).length + 1) cap)
                      exact ⟨⟨hk1.cell 2, hk1.frozen 2⟩, hXa.putI (vs' := LL ++ [z]) hgrow (by rw [List.flatMap_append]; exact hown1), hbc, ownsRow_setCell_other hRk (a := ⟨W2.heap.size, 2, none⟩) (fun e => blk_apart hk1 hRk (by decide) e.symm) (.slice (some ⟨gg, 0, none⟩) ((LL).length + 1) cap), by have := hgrow.size; simp at this ⊢; omega⟩
                    have TS9 := Lib.hid T9
                    clear T9
                    have hbz := hbel.size
                    go_wp2_with fail
                    go_region_law ((first | (refine step_append_lies _ (by rfl) _ _ _ (by rfl) (W3.heap.size) 54 i0 _ 3 24 Tryz.underlying29 hi hz0 hz1 hz2 rfl (by omega) nv (LL).length ((LL).flatMap ivC) (by rfl) (hX.alloc _).2.2.1 ⟨(V).heap.size, 0, none⟩ 1 1 [.int .i64 z.id, .int .i64 z.byy, .int .i64 z.til] (by rfl) (by rfl) (World.news_of_block (cs := #[.int .i64 z.id, .int .i64 z.byy, .int .i64 z.til]) (t := 54) (fr := (0, 0)) (heap_alloc_new (V) _)) (by simp [Value.oneCell']) (by omega) (by unfold maxLen; omega) (by omega) (by simp; omega) ((V).heap.size + 1) (by simp) ?_; intro gg cap w1 hown1 hgrow hat hlt1; obtain ⟨⟨q3b, f3b⟩, hZ, hbZ, hRZ, hwZ⟩ := TS9.out gg cap w1 hown1 hgrow)))
                    all_goals go_wp2
                    all_goals go_roundw
                    all_goals first | exact ⟨k + 1, _, true, by omega, rfl, by go_num, by rw [HS.out, List.length_append]; exact hZ, HM2.out, hRZ, hwZ, hbZ⟩ | (simp [intOf]; omega)
                  · have hge' : decide (t < z.id) = false := decide_eq_false hge
                    have HM2 := Lib.hid (addM_no (k := Iv.id) (x := (⟨t, p, til⟩ : Iv)) hz HM.out hge)
                    have HS := Lib.hid (add_no_step (k := Iv.id) (x := (⟨t, p, til⟩ : Iv)) hz)
                    clear hz hge
                    have q3 := hX.1.cell 2
                    have q3a := (hX.1.alloc (.cells #[.int .i64 z.id, .int .i64 z.byy, .int .i64 z.til] 54)).cell 2
                    have hbal := (Below.refl _ (wr)).alloc (Nat.le_refl _) (.cells #[.int .i64 z.id, .int .i64 z.byy, .int .i64 z.til] 54)
                    have dd0a := (hbal.cell (p := ⟨b, off + k * 3, none⟩) hb).trans dd0
                    have dd1a := (hbal.cell (p := ⟨b, off + k * 3 + 1, none⟩) hb).trans dd1
                    have dd2a := (hbal.cell (p := ⟨b, off + k * 3 + 2, none⟩) hb).trans dd2
                    clear hbal
                    have T9 : ∀ (gg cap : Nat) (w1 : World), w1.ownsRow (W3.heap.size) 54 3 (.slice (some ⟨gg, 0, none⟩) ((addL Iv.id (⟨t, p, til⟩ : Iv) false ((dropK Iv.id t vs).take k)).length + 1) cap) ((addL Iv.id (⟨t, p, til⟩ : Iv) false ((dropK Iv.id t vs).take k)).length + 1) ((addL Iv.id (⟨t, p, til⟩ : Iv) false ((dropK Iv.id t vs).take k)).flatMap ivC ++ [.int .i64 z.id, .int .i64 z.byy, .int .i64 z.til]) → (((wr).alloc (.cells #[.int .i64 z.id, .int .i64 z.byy, .int .i64 z.til] 54)).drew).grownBy w1 v.ownBlock →
                        (w1.cell? ⟨W2.heap.size, 2, none⟩ = some v ∧ w1.frozen? ⟨W2.heap.size, 2, none⟩ = false) ∧ OutAt (w1.setCell ⟨W2.heap.size, 2, none⟩ (.slice (some ⟨gg, 0, none⟩) ((addL Iv.id (⟨t, p, til⟩ : Iv) false ((dropK Iv.id t vs).take k)).length + 1) cap)) W2.heap.size ((w.heap.size + 1).succ) (W3.heap.size) ((w.heap.size + 1).succ) o (.slice B1 n1 d1) (.slice (some ⟨gg, 0, none⟩) ((addL Iv.id (⟨t, p, til⟩ : Iv) false ((dropK Iv.id t vs).take k)).length + 1) cap) (.slice B3 n3 d3) (n1) ((addL Iv.id (⟨t, p, til⟩ : Iv) false ((dropK Iv.id t vs).take k)).length + 1) (n3) (ms) (addL Iv.id (⟨t, p, til⟩ : Iv) false ((dropK Iv.id t vs).take k) ++ [z]) (bs) ∧ Below W2.heap.size W2 (w1.setCell ⟨W2.heap.size, 2, none⟩ (.slice (some ⟨gg, 0, none⟩) ((addL Iv.id (⟨t, p, til⟩ : Iv) false ((dropK Iv.id t vs).take k)).length + 1) cap)) ∧ ((w1.setCell ⟨W2.heap.size, 2, none⟩ (.slice (some ⟨gg, 0, none⟩) ((addL Iv.id (⟨t, p, til⟩ : Iv) false ((dropK Iv.id t vs).take k)).length + 1) cap))).ownsRow X.heap.size 54 3 (.slice (some ⟨b, off, none⟩) (dropK Iv.id t vs).length c4) (dropK Iv.id t vs).length ((dropK Iv.id t vs).flatMap ivC) ∧ W3.heap.size ≤ (w1.setCell ⟨W2.heap.size, 2, none⟩ (.slice (some ⟨gg, 0, none⟩) ((addL Iv.id (⟨t, p, til⟩ : Iv) false ((dropK Iv.id t vs).take k)).length + 1) cap)).heap.size := by
                      intro gg cap w1 hown1 hgrow
                      have hXa : OutAt (((wr).alloc (.cells #[.int .i64 z.id, .int .i64 z.byy, .int .i64 z.til] 54)).drew) W2.heap.size ((w.heap.size + 1).succ) (W3.heap.size) ((w.heap.size + 1).succ) o (.slice B1 n1 d1) v (.slice B3 n3 d3) (n1) ((addL Iv.id (⟨t, p, til⟩ : Iv) false ((dropK Iv.id t vs).take k)).length) (n3) (ms) (addL Iv.id (⟨t, p, til⟩ : Iv) false ((dropK Iv.id t vs).take k)) (bs) := hX.alloc _
                      have hba : Below W2.heap.size W2 (((wr).alloc (.cells #[.int .i64 z.id, .int .i64 z.byy, .int .i64 z.til] 54)).drew) := (hbel.alloc hbel.size _).drew
                      have hbb := hba.grown hgrow hba.size (own_ge hXa.2.2.1 (Nat.le_of_lt_succ (Nat.lt_succ_of_le hqI)))
                      have hk1 := hXa.1.grown hgrow (blk_apart hXa.1 hXa.2.2.1 (by decide))
                      have hRa : (((wr).alloc (.cells #[.int .i64 z.id, .int .i64 z.byy, .int .i64 z.til] 54)).drew).ownsRow X.heap.size 54 3 (.slice (some ⟨b, off, none⟩) (dropK Iv.id t vs).length c4) (dropK Iv.id t vs).length ((dropK Iv.id t vs).flatMap ivC) := hR.alloc _
                      have hRk := hRa.kept hgrow (own_apart_lt HO4.out hXa.2.2.1 (Nat.le_refl _))
                      have hbc := hbb.setCell (p := ⟨W2.heap.size, 2, none⟩) (Nat.le_refl _) (.slice (some ⟨gg, 0, none⟩) ((addL Iv.id (⟨t, p, til⟩ : Iv) false ((dropK Iv.id t vs).take k)).length + 1) cap)
                      exact ⟨⟨hk1.cell 2, hk1.frozen 2⟩, hXa.putI (vs' := addL Iv.id (⟨t, p, til⟩ : Iv) false ((dropK Iv.id t vs).take k) ++ [z]) hgrow (by rw [List.flatMap_append]; exact hown1), hbc, ownsRow_setCell_other hRk (a := ⟨W2.heap.size, 2, none⟩) (fun e => blk_apart hk1 hRk (by decide) e.symm) (.slice (some ⟨gg, 0, none⟩) ((addL Iv.id (⟨t, p, til⟩ : Iv) false ((dropK Iv.id t vs).take k)).length + 1) cap), by have := hgrow.size; simp at this ⊢; omega⟩
                    have TS9 := Lib.hid T9
                    clear T9
                    have hbz := hbel.size
                    go_wp2_with fail
                    go_region_law ((first | (refine step_append_lies _ (by rfl) _ _ _ (by rfl) (W3.heap.size) 54 i0 _ 3 24 Tryz.underlying29 hi hz0 hz1 hz2 rfl (by omega) v (addL Iv.id (⟨t, p, til⟩ : Iv) false ((dropK Iv.id t vs).take k)).length ((addL Iv.id (⟨t, p, til⟩ : Iv) false ((dropK Iv.id t vs).take k)).flatMap ivC) (by rfl) (hX.alloc _).2.2.1 ⟨(wr).heap.size, 0, none⟩ 1 1 [.int .i64 z.id, .int .i64 z.byy, .int .i64 z.til] (by rfl) (by rfl) (World.news_of_block (cs := #[.int .i64 z.id, .int .i64 z.byy, .int .i64 z.til]) (t := 54) (fr := (0, 0)) (heap_alloc_new (wr) _)) (by simp [Value.oneCell']) (by omega) (by unfold maxLen; omega) (by omega) (by simp; omega) ((wr).heap.size + 1) (by simp) ?_; intro gg cap w1 hown1 hgrow hat hlt1; obtain ⟨⟨q3b, f3b⟩, hZ, hbZ, hRZ, hwZ⟩ := TS9.out gg cap w1 hown1 hgrow)))
                    all_goals go_wp2
                    all_goals go_roundw
                    all_goals first | exact ⟨k + 1, _, false, by omega, rfl, by go_num, by rw [HS.out, List.length_append]; exact hZ, HM2.out, hRZ, hwZ, hbZ⟩ | (simp [intOf]; omega)
              · have hkn : k = (dropK Iv.id t vs).length := by omega
                subst hkn
                rw [List.take_of_length_le (Nat.le_refl _)] at hX hM
                clear hR hRS
                cases pb with
                | true =>
                  rw [show addL Iv.id (⟨t, p, til⟩ : Iv) true (dropK Iv.id t vs) = putK Iv.id (⟨t, p, til⟩ : Iv) vs from addL_done hM] at hX
                  obtain ⟨B4, d4, hv4⟩ := own_form hX.2.2.1
                  subst hv4
                  have hb5 := hb0.trans (hbel.mono hb0.size)
                  have k1 := k1.below hbel zE
                  have hRO := hX.room (base := (w.heap.size + 1).succ) (Nat.le_refl _) (Nat.le_trans (Nat.succ_le_of_lt zE) zW3) (Nat.le_refl _)
                  have hnn : n1 + (putK Iv.id (⟨t, p, til⟩ : Iv) vs).length + n3 ≤ 1048576 := by have := put_le0 (k := Iv.id) (⟨t, p, til⟩ : Iv) vs; have := HL1.out; have := HL2.out; have := HL3.out; have := HV.out.l1; have := HV.out.l2; have := HV.out.l3; omega
                  have HR := Lib.hid (show rz = rGive o ms (putK Iv.id (⟨t, p, til⟩ : Iv) vs) bs by rw [← HZ.out, inviteS, if_pos HY.out])
                  have l0 := hX.1.cell 0; have l1 := hX.1.cell 1; have l2 := hX.1.cell 2; have l3 := hX.1.cell 3
                  have zK := k1.lt
                  clear hX hbel k0 hb0
                  cases hG : roomB ms (putK Iv.id (⟨t, p, til⟩ : Iv) vs) bs with
                  | false =>
                    go_wp2_with fail
                    go_at_call 73; refine (l02Give_no _ _ _ _ _ _ _ _ _ _ _ _ _ _ hRO.at_ hnn hG).mono ?_; rintro e w9 ⟨rfl, hb9⟩
                    have k1 := k1.below hb9 zK
                    have hb5 := hb5.trans (hb9.mono hb5.size)
                    clear hb9 l0 l1 l2 l3
                    have r0 := k1.cell 0; have r1 := k1.cell 1; have r2 := k1.cell 2; have r3 := k1.cell 3
                    have f0 := k1.frozen 0; have f1 := k1.frozen 1; have f2 := k1.frozen 2; have f3 := k1.frozen 3
                    go_wp2
                    refine bodyPost_ret (v := .tuple #[.agg #[.bool false, .slice none 0 0, .slice none 0 0, .slice none 0 0], .bool false]) (by simp [results, Tryz.results22, go_sem, r0, r1, r2, r3]) rfl ?_
                    rw [HR.out, rGive, if_neg (by simp [hG])]
                    exact roomOut_no ((((hb5.setCell (by simp) _).setCell (by simp) _).setCell (by simp) _).setCell (by simp) _)
                  | true =>
                    go_wp2_with fail
                    go_at_call 73; refine (l02Give_yes _ _ _ _ _ _ _ _ _ _ _ _ _ _ hRO.at_ hnn hG).mono ?_; rintro e w9 ⟨rfl, hb9⟩
                    have k1 := k1.below hb9 zK
                    have hRO := hRO.below hb9 (Nat.le_refl _)
                    have hb5 := hb5.trans (hb9.mono hb5.size)
                    clear hb9 l0 l1 l2 l3
                    have r0 := k1.cell 0; have r1 := k1.cell 1; have r2 := k1.cell 2; have r3 := k1.cell 3
                    have f0 := k1.frozen 0; have f1 := k1.frozen 1; have f2 := k1.frozen 2; have f3 := k1.frozen 3
                    go_wp2
                    refine bodyPost_ret (v := .tuple #[.agg #[.bool o, .slice B1 n1 d1, .slice B4 (putK Iv.id (⟨t, p, til⟩ : Iv) vs).length d4, .slice B3 n3 d3], .bool true]) (by simp [results, Tryz.results22, go_sem, r0, r1, r2, r3]) rfl ?_
                    rw [HR.out, rGive, if_pos hG]
                    exact roomOut_yes (r := ⟨o, ms, (putK Iv.id (⟨t, p, til⟩ : Iv) vs), bs, true⟩) ((hRO.far4 k1 _ _ _ _ _ _ _ _).mono (by omega)) (below_set4 hb5 (Nat.le_succ _) _ _ _ _ _ _ _ _) hnn
                | false =>
                  have hln : (addL Iv.id (⟨t, p, til⟩ : Iv) false (dropK Iv.id t vs)).length ≤ 1048576 := by rw [show addL Iv.id (⟨t, p, til⟩ : Iv) false (dropK Iv.id t vs) = (dropK Iv.id t vs) from rfl]; omega
                  have HS := Lib.hid (show addL Iv.id (⟨t, p, til⟩ : Iv) false (dropK Iv.id t vs) ++ [(⟨t, p, til⟩ : Iv)] = putK Iv.id (⟨t, p, til⟩ : Iv) vs from addL_rest hM)
                  have q3 := hX.1.cell 2
                  have q3a := (hX.1.alloc (.cells #[.int .i64 t, .int .i64 p, .int .i64 til] 54)).cell 2
                  have hbz := hbel.size
                  have T8 : ∀ (gg cap : Nat) (w1 : World), w1.ownsRow (W3.heap.size) 54 3 (.slice (some ⟨gg, 0, none⟩) ((addL Iv.id (⟨t, p, til⟩ : Iv) false (dropK Iv.id t vs)).length + 1) cap) ((addL Iv.id (⟨t, p, til⟩ : Iv) false (dropK Iv.id t vs)).length + 1) ((addL Iv.id (⟨t, p, til⟩ : Iv) false (dropK Iv.id t vs)).flatMap ivC ++ [.int .i64 t, .int .i64 p, .int .i64 til]) → ((wr).alloc (.cells #[.int .i64 t, .int .i64 p, .int .i64 til] 54)).grownBy w1 v.ownBlock →
                      (w1.cell? ⟨W2.heap.size, 2, none⟩ = some v ∧ w1.frozen? ⟨W2.heap.size, 2, none⟩ = false ∧ w1.cell? ⟨W2.heap.size, 0, none⟩ = some (.bool o) ∧ w1.cell? ⟨W2.heap.size, 1, none⟩ = some (.slice B1 n1 d1) ∧ w1.cell? ⟨W2.heap.size, 3, none⟩ = some (.slice B3 n3 d3)) ∧ OutAt (w1.setCell ⟨W2.heap.size, 2, none⟩ (.slice (some ⟨gg, 0, none⟩) ((addL Iv.id (⟨t, p, til⟩ : Iv) false (dropK Iv.id t vs)).length + 1) cap)) W2.heap.size ((w.heap.size + 1).succ) (W3.heap.size) ((w.heap.size + 1).succ) o (.slice B1 n1 d1) (.slice (some ⟨gg, 0, none⟩) ((addL Iv.id (⟨t, p, til⟩ : Iv) false (dropK Iv.id t vs)).length + 1) cap) (.slice B3 n3 d3) (n1) ((addL Iv.id (⟨t, p, til⟩ : Iv) false (dropK Iv.id t vs)).length + 1) (n3) (ms) (addL Iv.id (⟨t, p, til⟩ : Iv) false (dropK Iv.id t vs) ++ [(⟨t, p, til⟩ : Iv)]) (bs) ∧ Below W2.heap.size W2 (w1.setCell ⟨W2.heap.size, 2, none⟩ (.slice (some ⟨gg, 0, none⟩) ((addL Iv.id (⟨t, p, til⟩ : Iv) false (dropK Iv.id t vs)).length + 1) cap)) := by
                    intro gg cap w1 hown1 hgrow
                    have hXa : OutAt ((wr).alloc (.cells #[.int .i64 t, .int .i64 p, .int .i64 til] 54)) W2.heap.size ((w.heap.size + 1).succ) (W3.heap.size) ((w.heap.size + 1).succ) o (.slice B1 n1 d1) v (.slice B3 n3 d3) (n1) ((addL Iv.id (⟨t, p, til⟩ : Iv) false (dropK Iv.id t vs)).length) (n3) (ms) (addL Iv.id (⟨t, p, til⟩ : Iv) false (dropK Iv.id t vs)) (bs) := hX.alloc _
                    have hba : Below W2.heap.size W2 ((wr).alloc (.cells #[.int .i64 t, .int .i64 p, .int .i64 til] 54)) := (hbel.alloc hbel.size _)
                    have hbb := hba.grown hgrow hba.size (own_ge hXa.2.2.1 (Nat.le_of_lt_succ (Nat.lt_succ_of_le hqI)))
                    have hk1 := hXa.1.grown hgrow (blk_apart hXa.1 hXa.2.2.1 (by decide))
                    have hbc := hbb.setCell (p := ⟨W2.heap.size, 2, none⟩) (Nat.le_refl _) (.slice (some ⟨gg, 0, none⟩) ((addL Iv.id (⟨t, p, til⟩ : Iv) false (dropK Iv.id t vs)).length + 1) cap)
                    exact ⟨⟨hk1.cell 2, hk1.frozen 2, hk1.cell 0, hk1.cell 1, hk1.cell 3⟩, hXa.putI (vs' := addL Iv.id (⟨t, p, til⟩ : Iv) false (dropK Iv.id t vs) ++ [(⟨t, p, til⟩ : Iv)]) hgrow (by rw [List.flatMap_append]; exact hown1), hbc⟩
                  have TS8 := Lib.hid T8
                  clear T8
                  go_wp2_with (first | (at_builtin; refine wpList_append_lies _ rfl (.tmp 87) (.tmp 92) 29 rfl (W3.heap.size) 54 i0 _ 3 24 Tryz.underlying29 hi hz0 hz1 hz2 rfl (by omega) v (addL Iv.id (⟨t, p, til⟩ : Iv) false (dropK Iv.id t vs)).length ((addL Iv.id (⟨t, p, til⟩ : Iv) false (dropK Iv.id t vs)).flatMap ivC) rfl ((hX.alloc _).2.2.1) ⟨(wr).heap.size, 0, none⟩ 1 1 [.int .i64 t, .int .i64 p, .int .i64 til] rfl rfl (World.news_of_block (cs := #[.int .i64 t, .int .i64 p, .int .i64 til]) (t := 54) (fr := (0, 0)) (heap_alloc_new (wr) _)) (by simp [Value.oneCell']) (by omega) (by unfold maxLen; omega) (by omega) (by simp; omega) ((wr).heap.size + 1) (by simp) ?_; intro gg cap w1 hown1 hgrow hat hlt1; obtain ⟨⟨q3b, f3b, s0, s1, s2⟩, hZ, hbZ⟩ := TS8.out gg cap w1 hown1 hgrow) | fail)
                  clear q3 q3a q3b f3b s0 s1 s2 TS8 hbel hX hown1 hgrow hat hlt1 hln
                  generalize Value.slice (some ⟨gg, 0, none⟩) ((addL Iv.id (⟨t, p, til⟩ : Iv) false (dropK Iv.id t vs)).length + 1) cap = nv at *
                  generalize w1.setCell ⟨W2.heap.size, 2, none⟩ nv = V at *
                  have hX := hZ
                  have hbel := hbZ
                  clear hZ hbZ
                  rw [HS.out, show (addL Iv.id (⟨t, p, til⟩ : Iv) false (dropK Iv.id t vs)).length + 1 = (putK Iv.id (⟨t, p, til⟩ : Iv) vs).length by rw [← HS.out]; simp] at hX
                  obtain ⟨B4, d4, hv4⟩ := own_form hX.2.2.1
                  subst hv4
                  have hb5 := hb0.trans (hbel.mono hb0.size)
                  have k1 := k1.below hbel zE
                  have hRO := hX.room (base := (w.heap.size + 1).succ) (Nat.le_refl _) (Nat.le_trans (Nat.succ_le_of_lt zE) zW3) (Nat.le_refl _)
                  have hnn : n1 + (putK Iv.id (⟨t, p, til⟩ : Iv) vs).length + n3 ≤ 1048576 := by have := put_le0 (k := Iv.id) (⟨t, p, til⟩ : Iv) vs; have := HL1.out; have := HL2.out; have := HL3.out; have := HV.out.l1; have := HV.out.l2; have := HV.out.l3; omega
                  have HR := Lib.hid (show rz = rGive o ms (putK Iv.id (⟨t, p, til⟩ : Iv) vs) bs by rw [← HZ.out, inviteS, if_pos HY.out])
                  have l0 := hX.1.cell 0; have l1 := hX.1.cell 1; have l2 := hX.1.cell 2; have l3 := hX.1.cell 3
                  have zK := k1.lt
                  clear hX hbel k0 hb0
                  cases hG : roomB ms (putK Iv.id (⟨t, p, til⟩ : Iv) vs) bs with
                  | false =>
                    go_at_call 73; refine (l02Give_no _ _ _ _ _ _ _ _ _ _ _ _ _ _ hRO.at_ hnn hG).mono ?_; rintro e w9 ⟨rfl, hb9⟩
                    have k1 := k1.below hb9 zK
                    have hb5 := hb5.trans (hb9.mono hb5.size)
                    clear hb9 l0 l1 l2 l3
                    have r0 := k1.cell 0; have r1 := k1.cell 1; have r2 := k1.cell 2; have r3 := k1.cell 3
                    have f0 := k1.frozen 0; have f1 := k1.frozen 1; have f2 := k1.frozen 2; have f3 := k1.frozen 3
                    go_wp2
                    refine bodyPost_ret (v := .tuple #[.agg #[.bool false, .slice none 0 0, .slice none 0 0, .slice none 0 0], .bool false]) (by simp [results, Tryz.results22, go_sem, r0, r1, r2, r3]) rfl ?_
                    rw [HR.out, rGive, if_neg (by simp [hG])]
                    exact roomOut_no ((((hb5.setCell (by simp) _).setCell (by simp) _).setCell (by simp) _).setCell (by simp) _)
                  | true =>
                    go_at_call 73; refine (l02Give_yes _ _ _ _ _ _ _ _ _ _ _ _ _ _ hRO.at_ hnn hG).mono ?_; rintro e w9 ⟨rfl, hb9⟩
                    have k1 := k1.below hb9 zK
                    have hRO := hRO.below hb9 (Nat.le_refl _)
                    have hb5 := hb5.trans (hb9.mono hb5.size)
                    clear hb9 l0 l1 l2 l3
                    have r0 := k1.cell 0; have r1 := k1.cell 1; have r2 := k1.cell 2; have r3 := k1.cell 3
                    have f0 := k1.frozen 0; have f1 := k1.frozen 1; have f2 := k1.frozen 2; have f3 := k1.frozen 3
                    go_wp2
                    refine bodyPost_ret (v := .tuple #[.agg #[.bool o, .slice B1 n1 d1, .slice B4 (putK Iv.id (⟨t, p, til⟩ : Iv) vs).length d4, .slice B3 n3 d3], .bool true]) (by simp [results, Tryz.results22, go_sem, r0, r1, r2, r3]) rfl ?_
                    rw [HR.out, rGive, if_pos hG]
                    exact roomOut_yes (r := ⟨o, ms, (putK Iv.id (⟨t, p, til⟩ : Iv) vs), bs, true⟩) ((hRO.far4 k1 _ _ _ _ _ _ _ _).mono (by omega)) (below_set4 hb5 (Nat.le_succ _) _ _ _ _ _ _ _ _) hnn
end Go.Proofs.YtbamhnbmddopgaaGreatDoor
