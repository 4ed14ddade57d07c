import Derived.Test.YtbamhnbmddopgaaGreatDoorChecked
import Derived.WalkKit
import Derived.ProofKit
import Derived.OpenShut
import Derived.ShutString
import Derived.ChangeOld
import Derived.Below
import Derived.Lib.Hide
import Derived.Test.YtbamhnbmddopgaaGreatDoorZSpecA
namespace Go.Proofs.YtbamhnbmddopgaaGreatDoor
open Go.ChangeShapes Go.WideShapes Go.ChangeAt Go.RowKit
open Go.ChangeMaps (open_string shut_string)
set_option linter.unusedVariables false
set_option maxRecDepth 100000
theorem find_firstI {vs : List Iv} {K : Nat} {t : Int} (hK : (iids vs)[K]? = some t) (hf : NotIn (iids vs) t K) : ∃ z, vs[K]? = some z ∧ findI vs t = some z ∧ z.id = t := by
  simp only [iids, List.getElem?_map, Option.map_eq_some_iff] at hK
  obtain ⟨m, hm, hid⟩ := hK
  refine ⟨m, hm, ?_, hid⟩
  obtain ⟨hlt, he⟩ := List.getElem?_eq_some_iff.1 hm
  unfold findI
  rw [List.find?_eq_some_iff_getElem]
  refine ⟨by simpa using hid, K, hlt, he, fun j hj => ?_⟩
  have := hf j (vs[j].id) hj (by simp [iids, List.getElem?_eq_getElem (show j < vs.length by omega)])
  simpa using this
theorem findI_none {vs : List Iv} {t : Int} (h : ¬ t ∈ iids vs) : findI vs t = none := findK_none (k := Iv.id) h
set_option maxHeartbeats 3200000 in
theorem spec_JoinRoom_any (o : Bool) (a1 a2 a3 : Addr) (n1 c1 n2 c2 n3 c3 : Nat) (ms : List Mb) (vs : List Iv) (bs : List Bn) (t : Int) (at_ : Int) (w : World)
    (h : RoomAt w w.heap.size (some a1) n1 (some a2) n2 (some a3) n3 ms vs bs) (hn : n1 + n2 + n3 ≤ 1048576) :
    Calls Tryz.prog 24 #[.agg #[.bool o, .slice (some a1) n1 c1, .slice (some a2) n2 c2, .slice (some a3) n3 c3], .int .i64 t, .int .i64 at_] w (RoomOut (joinS o ms vs bs t at_) w) := by
  obtain ⟨rz, hrz⟩ : ∃ z, joinS o ms vs bs t at_ = z := ⟨_, rfl⟩
  have HZ := Lib.hid hrz
  rw [hrz]
  clear hrz
  go_enter Tryz.func24, Tryz.ntmps24
  go_wp2_with fail
  obtain ⟨k0, k1, hb0⟩ := two_boxes w 32 32 #[.bool o, .slice (some a1) n1 c1, .slice (some a2) n2 c2, .slice (some a3) n3 c3] #[.bool false, .slice none 0 0, .slice none 0 0, .slice none 0 0]
  generalize ((w.alloc (.cells #[.bool o, .slice (some a1) n1 c1, .slice (some a2) n2 c2, .slice (some a3) n3 c3] 32)).alloc (.cells #[.bool false, .slice none 0 0, .slice none 0 0, .slice none 0 0] 32)) = W at *
  have h := h.to hb0
  have cI := l02Is_any w.heap.size _ _ _ n1 c1 n2 c2 n3 c3 W.heap.size ms vs bs W (k0.cell 1) (k0.cell 2) (k0.cell 3) h hn
  have fin : ∀ q, Below w.heap.size w (W.drewN q) := fun q => hb0.trans (Below.mono (drew_below ⟨q, rfl⟩) hb0.size)
  have HF := Lib.hid fin
  clear fin
  cases hA : roomB ms vs bs with
  | false =>
    rw [hA] at cI
    have HR := Lib.hid (show rz = rNo by rw [← HZ.out, joinS, if_neg (by simp [hA])])
    have k1q := fun q => k1.drewN q
    have r0 : ∀ q, (W.drewN q).cell? ⟨w.heap.size + 1, 0, none⟩ = some (.bool false) := fun q => (k1q q).cell 0
    have r1 : ∀ q, (W.drewN q).cell? ⟨w.heap.size + 1, 1, none⟩ = some (.slice none 0 0) := fun q => (k1q q).cell 1
    have r2 : ∀ q, (W.drewN q).cell? ⟨w.heap.size + 1, 2, none⟩ = some (.slice none 0 0) := fun q => (k1q q).cell 2
    have r3 : ∀ q, (W.drewN q).cell? ⟨w.heap.size + 1, 3, none⟩ = some (.slice none 0 0) := fun q => (k1q q).cell 3
    have f0 := k1.frozen 0; have f1 := k1.frozen 1; have f2 := k1.frozen 2; have f3 := k1.frozen 3
    go_wp2_with (first | (go_at_call 52; refine cI.mono ?_; rintro e w' ⟨rfl, q, rfl⟩))
    refine bodyPost_ret (v := .tuple #[.agg #[.bool false, .slice none 0 0, .slice none 0 0, .slice none 0 0], .bool false]) (by simp [results, Tryz.results24, go_sem, r0, r1, r2, r3]) rfl ?_
    rw [HR.out]
    exact roomOut_no (((((HF.out q).setCell (by simp) _).setCell (by simp) _).setCell (by simp) _).setCell (by simp) _)
  | true =>
    rw [hA] at cI
    cases hI : idB t with
    | false =>
      have HR := Lib.hid (show rz = rNo by rw [← HZ.out, joinS, if_neg (by simp [hA, hI])])
      have k1q := fun q => k1.drewN q
      have r0 : ∀ q, (W.drewN q).cell? ⟨w.heap.size + 1, 0, none⟩ = some (.bool false) := fun q => (k1q q).cell 0
      have r1 : ∀ q, (W.drewN q).cell? ⟨w.heap.size + 1, 1, none⟩ = some (.slice none 0 0) := fun q => (k1q q).cell 1
      have r2 : ∀ q, (W.drewN q).cell? ⟨w.heap.size + 1, 2, none⟩ = some (.slice none 0 0) := fun q => (k1q q).cell 2
      have r3 : ∀ q, (W.drewN q).cell? ⟨w.heap.size + 1, 3, none⟩ = some (.slice none 0 0) := fun q => (k1q q).cell 3
      have f0 := k1.frozen 0; have f1 := k1.frozen 1; have f2 := k1.frozen 2; have f3 := k1.frozen 3
      go_wp2_with (first | (go_at_call 52; refine cI.mono ?_; rintro e w' ⟨rfl, q, rfl⟩) | (go_at_call 74; refine (l02Id_b _ _ _ hI).mono ?_; rintro e w' ⟨rfl, rfl⟩))
      refine bodyPost_ret (v := .tuple #[.agg #[.bool false, .slice none 0 0, .slice none 0 0, .slice none 0 0], .bool false]) (by simp [results, Tryz.results24, go_sem, r0, r1, r2, r3]) rfl ?_
      rw [HR.out]
      exact roomOut_no (((((HF.out q).setCell (by simp) _).setCell (by simp) _).setCell (by simp) _).setCell (by simp) _)
    | true =>
      cases hT : tickB at_ with
      | false =>
        have HR := Lib.hid (show rz = rNo by rw [← HZ.out, joinS, if_neg (by simp [hA, hI, hT])])
        have k1q := fun q => k1.drewN q
        have r0 : ∀ q, (W.drewN q).cell? ⟨w.heap.size + 1, 0, none⟩ = some (.bool false) := fun q => (k1q q).cell 0
        have r1 : ∀ q, (W.drewN q).cell? ⟨w.heap.size + 1, 1, none⟩ = some (.slice none 0 0) := fun q => (k1q q).cell 1
        have r2 : ∀ q, (W.drewN q).cell? ⟨w.heap.size + 1, 2, none⟩ = some (.slice none 0 0) := fun q => (k1q q).cell 2
        have r3 : ∀ q, (W.drewN q).cell? ⟨w.heap.size + 1, 3, none⟩ = some (.slice none 0 0) := fun q => (k1q q).cell 3
        have f0 := k1.frozen 0; have f1 := k1.frozen 1; have f2 := k1.frozen 2; have f3 := k1.frozen 3
        go_wp2_with (first | (go_at_call 52; refine cI.mono ?_; rintro e w' ⟨rfl, q, rfl⟩) | (go_at_call 74; refine (l02Id_b _ _ _ hI).mono ?_; rintro e w' ⟨rfl, rfl⟩) | (go_at_call 69; refine (l02Tick_b _ _ _ hT).mono ?_; rintro e w' ⟨rfl, rfl⟩))
        refine bodyPost_ret (v := .tuple #[.agg #[.bool false, .slice none 0 0, .slice none 0 0, .slice none 0 0], .bool false]) (by simp [results, Tryz.results24, go_sem, r0, r1, r2, r3]) rfl ?_
        rw [HR.out]
        exact roomOut_no (((((HF.out q).setCell (by simp) _).setCell (by simp) _).setCell (by simp) _).setCell (by simp) _)
      | true =>
        cases hf : findM ms t with
        | some m =>
          have hmem := findM_mem hf
          obtain ⟨K, hz, hK, hKf⟩ := find_split hf
          have hKn : K < n1 := by rw [← h.1.1]; exact (List.getElem?_eq_some_iff.1 hz).1
          have HK := Lib.hid (And.intro hK hKf)
          have e0 : ¬ ((K : Int) < 0) := by omega
          clear hK hKf hz hf
          have HR := Lib.hid (show rz = rNo by rw [← HZ.out, joinS, if_neg (by simp [hA, hI, hT, hmem])])
          have k1q := fun q => k1.drewN q
          have r0 : ∀ q, (W.drewN q).cell? ⟨w.heap.size + 1, 0, none⟩ = some (.bool false) := fun q => (k1q q).cell 0
          have r1 : ∀ q, (W.drewN q).cell? ⟨w.heap.size + 1, 1, none⟩ = some (.slice none 0 0) := fun q => (k1q q).cell 1
          have r2 : ∀ q, (W.drewN q).cell? ⟨w.heap.size + 1, 2, none⟩ = some (.slice none 0 0) := fun q => (k1q q).cell 2
          have r3 : ∀ q, (W.drewN q).cell? ⟨w.heap.size + 1, 3, none⟩ = some (.slice none 0 0) := fun q => (k1q q).cell 3
          have f0 := k1.frozen 0; have f1 := k1.frozen 1; have f2 := k1.frozen 2; have f3 := k1.frozen 3
          clear hmem
          go_wp2_with (first | (go_at_call 52; refine cI.mono ?_; rintro e w' ⟨rfl, q, rfl⟩) | (go_at_call 74; refine (l02Id_b _ _ _ hI).mono ?_; rintro e w' ⟨rfl, rfl⟩) | (go_at_call 69; refine (l02Tick_b _ _ _ hT).mono ?_; rintro e w' ⟨rfl, rfl⟩) | (go_at_call 70; refine (l02Find_at w.heap.size _ n1 c1 W.heap.size ms t (W.drewN q) ((k0.drewN q).cell 1) (h.1.drewN q) (by omega) K HK.out.1 HK.out.2).mono ?_; rintro e w' ⟨rfl, rfl⟩))
          refine bodyPost_ret (v := .tuple #[.agg #[.bool false, .slice none 0 0, .slice none 0 0, .slice none 0 0], .bool false]) (by simp [results, Tryz.results24, go_sem, r0, r1, r2, r3]) rfl ?_
          rw [HR.out]
          exact roomOut_no (((((HF.out q).setCell (by simp) _).setCell (by simp) _).setCell (by simp) _).setCell (by simp) _)
        | none =>
          have HN := Lib.hid (findM_none.1 hf)
          clear hf
          by_cases hB : t ∈ bids bs
          · obtain ⟨KB, hK, hKf⟩ := first_at hB
            have HKB := Lib.hid (And.intro hK hKf)
            have eb0 : ¬ ((KB : Int) < 0) := by omega
            clear hK hKf
            have HR := Lib.hid (show rz = rNo by rw [← HZ.out, joinS, if_neg (by simp [hA, hI, hT, HN.out, hB])])
            have k1q := fun q => k1.drewN q
            have r0 : ∀ q, (W.drewN q).cell? ⟨w.heap.size + 1, 0, none⟩ = some (.bool false) := fun q => (k1q q).cell 0
            have r1 : ∀ q, (W.drewN q).cell? ⟨w.heap.size + 1, 1, none⟩ = some (.slice none 0 0) := fun q => (k1q q).cell 1
            have r2 : ∀ q, (W.drewN q).cell? ⟨w.heap.size + 1, 2, none⟩ = some (.slice none 0 0) := fun q => (k1q q).cell 2
            have r3 : ∀ q, (W.drewN q).cell? ⟨w.heap.size + 1, 3, none⟩ = some (.slice none 0 0) := fun q => (k1q q).cell 3
            have f0 := k1.frozen 0; have f1 := k1.frozen 1; have f2 := k1.frozen 2; have f3 := k1.frozen 3
            clear hB
            go_wp2_with (first | (go_at_call 52; refine cI.mono ?_; rintro e w' ⟨rfl, q, rfl⟩) | (go_at_call 74; refine (l02Id_b _ _ _ hI).mono ?_; rintro e w' ⟨rfl, rfl⟩) | (go_at_call 69; refine (l02Tick_b _ _ _ hT).mono ?_; rintro e w' ⟨rfl, rfl⟩) | (go_at_call 70; refine (l02Find_no w.heap.size _ n1 c1 W.heap.size ms t (W.drewN q) ((k0.drewN q).cell 1) (h.1.drewN q) (by omega) HN.out).mono ?_; rintro e w' ⟨rfl, rfl⟩) | (go_at_call 71; refine (l02Banned_at w.heap.size _ n3 c3 W.heap.size bs t (W.drewN q) ((k0.drewN q).cell 3) (h.2.2.drewN q) (by omega) KB HKB.out.1 HKB.out.2).mono ?_; rintro e w' ⟨rfl, rfl⟩))
            refine bodyPost_ret (v := .tuple #[.agg #[.bool false, .slice none 0 0, .slice none 0 0, .slice none 0 0], .bool false]) (by simp [results, Tryz.results24, go_sem, r0, r1, r2, r3]) rfl ?_
            rw [HR.out]
            exact roomOut_no (((((HF.out q).setCell (by simp) _).setCell (by simp) _).setCell (by simp) _).setCell (by simp) _)
          · have HNB := Lib.hid hB
            clear hB
            have p0 := k0.cell 0; have p2 := k0.cell 2
            by_cases hV : t ∈ iids vs
            · obtain ⟨KV, hK, hKf⟩ := first_at hV
              obtain ⟨z, hz, hfz, hzi⟩ := find_firstI hK hKf
              have HKV := Lib.hid (And.intro hK hKf)
              have KVn : KV < n2 := by rw [← h.2.1.1]; exact (List.getElem?_eq_some_iff.1 hz).1
              obtain ⟨b, off, z', ha, hb, hz2, dd0, dd1, dd2⟩ := h.2.1.ativ KVn
              obtain rfl : z = z' := Option.some.inj (hz.symm.trans hz2)
              injection ha with ha
              subst ha
              have ev0 : ¬ ((KV : Int) < 0) := by omega
              have iv0 : (0 : Int) ≤ (KV : Int) := Int.natCast_nonneg _
              have iv1 : (KV : Int) < (n2 : Int) := by omega
              clear hK hKf hz hz2 hV dd0 dd1
              cases o with
              | true =>
                have hd : doorB true vs t at_ = true := by simp [doorB]
                clear hfz
                have HY := Lib.hid (show (roomB ms vs bs && idB t && tickB at_ && !decide (t ∈ mids ms) && !decide (t ∈ bids bs) && doorB true vs t at_) = true by simp [hA, hI, hT, HN.out, HNB.out, hd])
                clear hd
                go_wp2_with (first | (go_at_call 52; refine cI.mono ?_; rintro e w' ⟨rfl, q, rfl⟩) | (go_at_call 74; refine (l02Id_b _ _ _ hI).mono ?_; rintro e w' ⟨rfl, rfl⟩) | (go_at_call 69; refine (l02Tick_b _ _ _ hT).mono ?_; rintro e w' ⟨rfl, rfl⟩) | (go_at_call 70; refine (l02Find_no w.heap.size _ n1 c1 W.heap.size ms t (W.drewN q) ((k0.drewN q).cell 1) (h.1.drewN q) (by omega) HN.out).mono ?_; rintro e w' ⟨rfl, rfl⟩) | (go_at_call 71; refine (l02Banned_no w.heap.size _ n3 c3 W.heap.size bs t (W.drewN q) ((k0.drewN q).cell 3) (h.2.2.drewN q) (by omega) HNB.out).mono ?_; rintro e w' ⟨rfl, rfl⟩) | (go_at_call 75; refine (l02Invited_at w.heap.size _ n2 c2 W.heap.size vs t (W.drewN q) ((k0.drewN q).cell 2) (h.2.1.drewN q) (by omega) KV HKV.out.1 HKV.out.2).mono ?_; rintro e w' ⟨rfl, rfl⟩))
                have HV := Lib.hid (roomB_iff.1 hA)
                have z1 := k1.lt
                have hD : RoomAt (W.drewN q) (W.drewN q).heap.size (some a1) n1 (some ⟨b, off, none⟩) n2 (some a3) n3 ms vs bs := h
                have kD := k0.drewN q
                have k1D := k1.drewN q
                have hbD : Below w.heap.size w (W.drewN q) := HF.out q
                have zD : w.heap.size + 1 < (W.drewN q).heap.size := z1
                clear h k0 k1 hb0 z1 cI HF p0 p2
                generalize W.drewN q = W1 at *
                go_at_call 54; refine (l02Copy_any w.heap.size n1 c1 n2 c2 n3 c3 a1 ⟨b, off, none⟩ a3 true ms vs bs W1 kD hD hn).mono ?_; rintro e W2 ⟨B1, d1, B2, d2, B3, d3, rfl, hO, hb1⟩
                have k0 := kD.below hb1 kD.lt
                have k1 := k1D.below hb1 zD
                have h := hD.to hb1
                have hb0 := hbD.trans (hb1.mono hbD.size)
                have zE := k1.lt
                have hO := hO.mono (Nat.succ_le_of_lt zD)
                clear hb1 kD k1D hbD hD
                obtain ⟨q1, hb1⟩ := one_box W2 32 #[.bool true, .slice B1 n1 d1, .slice B2 n2 d2, .slice B3 n3 d3]
                have hX : OutAt (W2.alloc (.cells #[.bool true, .slice B1 n1 d1, .slice B2 n2 d2, .slice B3 n3 d3] 32)) W2.heap.size (w.heap.size + 1).succ (w.heap.size + 1).succ (w.heap.size + 1).succ true (.slice B1 n1 d1) (.slice B2 n2 d2) (.slice B3 n3 d3) n1 n2 n3 ms vs bs := ⟨q1, hO.below hb1 (Nat.le_refl _)⟩
                have hr2 := h.2.1.to hb1
                have lk0 := k0.lt
                have p2 := (k0.alloc (.cells #[.bool true, .slice B1 n1 d1, .slice B2 n2 d2, .slice B3 n3 d3] 32)).cell 2
                have HB0 := Lib.hid h
                have HL1 := Lib.hid h.1.1
                have HL2 := Lib.hid h.2.1.1
                have HL3 := Lib.hid h.2.2.1
                clear hO q1
                go_wp2_with fail
                generalize W2.alloc (.cells #[.bool true, .slice B1 n1 d1, .slice B2 n2 d2, .slice B3 n3 d3] 32) = X at *
                go_at_call 72; refine (l02Without_any _ _ _ vs t _ hr2 (by omega)).mono ?_; rintro e W3 ⟨A4, m4, c4, rfl, rfl, ho4, hb4⟩
                have hx1 := hX.below hb4
                have hXi := hx1.setI ho4
                have hbm := (hb1.trans (hb4.mono hb1.size)).setCell (p := ⟨W2.heap.size, 2, none⟩) (Nat.le_refl _) (.slice A4 (dropK Iv.id t vs).length c4)
                have gx1 := hx1.1.cell 2
                have gf1 := hx1.1.frozen 2
                have zX := hb1.size
                have hr1 := HB0.out.1.to hbm
                have p1 := (k0.below (hb1.trans (hb4.mono hb1.size)) lk0).cell 1
                have ne1 : ¬ w.heap.size = W2.heap.size := by omega
                have ne2 : ¬ W2.heap.size = w.heap.size := by omega
                clear hb4 ho4 hx1 hX hr2 p2 hb1
                go_wp2_with fail
                clear gx1 gf1 p1
                generalize W3.setCell ⟨W2.heap.size, 2, none⟩ (.slice A4 (dropK Iv.id t vs).length c4) = Y at *
                go_at_call 76; refine (l02Add_any _ _ _ ms ⟨t, 1, at_, 0⟩ _ hr1 (by omega)).mono ?_; rintro e W4 ⟨A5, m5, c5, rfl, rfl, ho5, hb5⟩
                have hx2 := hXi.below hb5
                have hXm := hx2.setM ho5
                have hbi := (hbm.trans (hb5.mono hbm.size)).setCell (p := ⟨W2.heap.size, 1, none⟩) (Nat.le_refl _) (.slice A5 (insK Mb.id (⟨t, 1, at_, 0⟩ : Mb) ms).length c5)
                have gx0 := hx2.1.cell 0
                have gx1 := hx2.1.cell 1
                have gf1 := hx2.1.frozen 1
                have gx2 := hx2.1.cell 2
                have gx3 := hx2.1.cell 3
                have zY := hbm.size
                clear hb5 ho5 hx2 hXi hr1 hbm
                go_wp2_with fail
                clear gx0 gx1 gf1 gx2 gx3
                generalize W4.setCell ⟨W2.heap.size, 1, none⟩ (.slice A5 (insK Mb.id (⟨t, 1, at_, 0⟩ : Mb) ms).length c5) = V at *
                have hb5 := hb0.trans (hbi.mono hb0.size)
                have k1 := k1.below hbi zE
                have hRO := hXm.room (base := (w.heap.size + 1).succ) (Nat.le_trans (Nat.succ_le_of_lt zE) zY) (Nat.le_trans (Nat.succ_le_of_lt zE) zX) (Nat.le_refl _)
                have hnn : (insK Mb.id (⟨t, 1, at_, 0⟩ : Mb) ms).length + (dropK Iv.id t vs).length + n3 ≤ 1048576 := by rw [ins_len0]; have := drop_len (k := Iv.id) (t := t) (xs := vs); have := HL1.out; have := HL2.out; have := HL3.out; have := HV.out.l1; have := HV.out.l2; have := HV.out.l3; omega
                have HR := Lib.hid (show rz = rGive true (insK Mb.id (⟨t, 1, at_, 0⟩ : Mb) ms) (dropK Iv.id t vs) bs by rw [← HZ.out, joinS, if_pos HY.out])
                have zK := k1.lt
                clear hXm hbi k0 hb0 HZ
                cases hG : roomB (insK Mb.id (⟨t, 1, at_, 0⟩ : Mb) ms) (dropK Iv.id t vs) bs with
                | false =>
                  go_at_call 73; refine (l02Give_no _ _ _ _ _ _ _ _ _ _ _ _ _ _ hRO.at_ hnn hG).mono ?_; rintro e w9 ⟨rfl, hb9⟩
                  have k1 := k1.below hb9 zK
                  have hb5 := hb5.trans (hb9.mono hb5.size)
                  clear hb9
                  have r0 := k1.cell 0; have r1 := k1.cell 1; have r2 := k1.cell 2; have r3 := k1.cell 3
                  have f0 := k1.frozen 0; have f1 := k1.frozen 1; have f2 := k1.frozen 2; have f3 := k1.frozen 3
                  go_wp2
                  refine bodyPost_ret (v := .tuple #[.agg #[.bool false, .slice none 0 0, .slice none 0 0, .slice none 0 0], .bool false]) (by simp [results, Tryz.results24, go_sem, r0, r1, r2, r3]) rfl ?_
                  rw [HR.out, rGive, if_neg (by simp [hG])]
                  exact roomOut_no ((((hb5.setCell (by simp) _).setCell (by simp) _).setCell (by simp) _).setCell (by simp) _)
                | true =>
                  go_at_call 73; refine (l02Give_yes _ _ _ _ _ _ _ _ _ _ _ _ _ _ hRO.at_ hnn hG).mono ?_; rintro e w9 ⟨rfl, hb9⟩
                  have k1 := k1.below hb9 zK
                  have hRO := hRO.below hb9 (Nat.le_refl _)
                  have hb5 := hb5.trans (hb9.mono hb5.size)
                  clear hb9
                  have r0 := k1.cell 0; have r1 := k1.cell 1; have r2 := k1.cell 2; have r3 := k1.cell 3
                  have f0 := k1.frozen 0; have f1 := k1.frozen 1; have f2 := k1.frozen 2; have f3 := k1.frozen 3
                  go_wp2
                  refine bodyPost_ret (v := .tuple #[.agg #[.bool true, .slice A5 (insK Mb.id (⟨t, 1, at_, 0⟩ : Mb) ms).length c5, .slice A4 (dropK Iv.id t vs).length c4, .slice B3 n3 d3], .bool true]) (by simp [results, Tryz.results24, go_sem, r0, r1, r2, r3]) rfl ?_
                  rw [HR.out, rGive, if_pos hG]
                  exact roomOut_yes (r := ⟨true, (insK Mb.id (⟨t, 1, at_, 0⟩ : Mb) ms), (dropK Iv.id t vs), bs, true⟩) ((hRO.far4 k1 _ _ _ _ _ _ _ _).mono (by omega)) (below_set4 hb5 (Nat.le_succ _) _ _ _ _ _ _ _ _) hnn
              | false =>
                by_cases hl : z.til < at_
                · have hd : doorB false vs t at_ = false := by simp [doorB, hfz]; omega
                  have hl' : decide (z.til < at_) = true := decide_eq_true hl
                  clear hfz hl
                  have HR := Lib.hid (show rz = rNo by rw [← HZ.out, joinS, if_neg (by simp [hA, hI, hT, HN.out, HNB.out, hd])])
                  have k1q := fun q => k1.drewN q
                  have r0 : ∀ q, (W.drewN q).cell? ⟨w.heap.size + 1, 0, none⟩ = some (.bool false) := fun q => (k1q q).cell 0
                  have r1 : ∀ q, (W.drewN q).cell? ⟨w.heap.size + 1, 1, none⟩ = some (.slice none 0 0) := fun q => (k1q q).cell 1
                  have r2 : ∀ q, (W.drewN q).cell? ⟨w.heap.size + 1, 2, none⟩ = some (.slice none 0 0) := fun q => (k1q q).cell 2
                  have r3 : ∀ q, (W.drewN q).cell? ⟨w.heap.size + 1, 3, none⟩ = some (.slice none 0 0) := fun q => (k1q q).cell 3
                  have f0 := k1.frozen 0; have f1 := k1.frozen 1; have f2 := k1.frozen 2; have f3 := k1.frozen 3
                  clear hd
                  go_wp2_with (first | (go_at_call 52; refine cI.mono ?_; rintro e w' ⟨rfl, q, rfl⟩) | (go_at_call 74; refine (l02Id_b _ _ _ hI).mono ?_; rintro e w' ⟨rfl, rfl⟩) | (go_at_call 69; refine (l02Tick_b _ _ _ hT).mono ?_; rintro e w' ⟨rfl, rfl⟩) | (go_at_call 70; refine (l02Find_no w.heap.size _ n1 c1 W.heap.size ms t (W.drewN q) ((k0.drewN q).cell 1) (h.1.drewN q) (by omega) HN.out).mono ?_; rintro e w' ⟨rfl, rfl⟩) | (go_at_call 71; refine (l02Banned_no w.heap.size _ n3 c3 W.heap.size bs t (W.drewN q) ((k0.drewN q).cell 3) (h.2.2.drewN q) (by omega) HNB.out).mono ?_; rintro e w' ⟨rfl, rfl⟩) | (go_at_call 75; refine (l02Invited_at w.heap.size _ n2 c2 W.heap.size vs t (W.drewN q) ((k0.drewN q).cell 2) (h.2.1.drewN q) (by omega) KV HKV.out.1 HKV.out.2).mono ?_; rintro e w' ⟨rfl, rfl⟩))
                  refine bodyPost_ret (v := .tuple #[.agg #[.bool false, .slice none 0 0, .slice none 0 0, .slice none 0 0], .bool false]) (by simp [results, Tryz.results24, go_sem, r0, r1, r2, r3]) rfl ?_
                  rw [HR.out]
                  exact roomOut_no (((((HF.out q).setCell (by simp) _).setCell (by simp) _).setCell (by simp) _).setCell (by simp) _)
                · have hd : doorB false vs t at_ = true := by simp [doorB, hfz]; omega
                  have hl' : decide (z.til < at_) = false := decide_eq_false hl
                  clear hfz hl
                  have HY := Lib.hid (show (roomB ms vs bs && idB t && tickB at_ && !decide (t ∈ mids ms) && !decide (t ∈ bids bs) && doorB false vs t at_) = true by simp [hA, hI, hT, HN.out, HNB.out, hd])
                  clear hd
                  go_wp2_with (first | (go_at_call 52; refine cI.mono ?_; rintro e w' ⟨rfl, q, rfl⟩) | (go_at_call 74; refine (l02Id_b _ _ _ hI).mono ?_; rintro e w' ⟨rfl, rfl⟩) | (go_at_call 69; refine (l02Tick_b _ _ _ hT).mono ?_; rintro e w' ⟨rfl, rfl⟩) | (go_at_call 70; refine (l02Find_no w.heap.size _ n1 c1 W.heap.size ms t (W.drewN q) ((k0.drewN q).cell 1) (h.1.drewN q) (by omega) HN.out).mono ?_; rintro e w' ⟨rfl, rfl⟩) | (go_at_call 71; refine (l02Banned_no w.heap.size _ n3 c3 W.heap.size bs t (W.drewN q) ((k0.drewN q).cell 3) (h.2.2.drewN q) (by omega) HNB.out).mono ?_; rintro e w' ⟨rfl, rfl⟩) | (go_at_call 75; refine (l02Invited_at w.heap.size _ n2 c2 W.heap.size vs t (W.drewN q) ((k0.drewN q).cell 2) (h.2.1.drewN q) (by omega) KV HKV.out.1 HKV.out.2).mono ?_; rintro e w' ⟨rfl, rfl⟩))
                  have HV := Lib.hid (roomB_iff.1 hA)
                  have z1 := k1.lt
                  have hD : RoomAt (W.drewN q) (W.drewN q).heap.size (some a1) n1 (some ⟨b, off, none⟩) n2 (some a3) n3 ms vs bs := h
                  have kD := k0.drewN q
                  have k1D := k1.drewN q
                  have hbD : Below w.heap.size w (W.drewN q) := HF.out q
                  have zD : w.heap.size + 1 < (W.drewN q).heap.size := z1
                  clear h k0 k1 hb0 z1 cI HF p0 p2
                  generalize W.drewN q = W1 at *
                  go_at_call 54; refine (l02Copy_any w.heap.size n1 c1 n2 c2 n3 c3 a1 ⟨b, off, none⟩ a3 false ms vs bs W1 kD hD hn).mono ?_; rintro e W2 ⟨B1, d1, B2, d2, B3, d3, rfl, hO, hb1⟩
                  have k0 := kD.below hb1 kD.lt
                  have k1 := k1D.below hb1 zD
                  have h := hD.to hb1
                  have hb0 := hbD.trans (hb1.mono hbD.size)
                  have zE := k1.lt
                  have hO := hO.mono (Nat.succ_le_of_lt zD)
                  clear hb1 kD k1D hbD hD
                  obtain ⟨q1, hb1⟩ := one_box W2 32 #[.bool false, .slice B1 n1 d1, .slice B2 n2 d2, .slice B3 n3 d3]
                  have hX : OutAt (W2.alloc (.cells #[.bool false, .slice B1 n1 d1, .slice B2 n2 d2, .slice B3 n3 d3] 32)) W2.heap.size (w.heap.size + 1).succ (w.heap.size + 1).succ (w.heap.size + 1).succ false (.slice B1 n1 d1) (.slice B2 n2 d2) (.slice B3 n3 d3) n1 n2 n3 ms vs bs := ⟨q1, hO.below hb1 (Nat.le_refl _)⟩
                  have hr2 := h.2.1.to hb1
                  have lk0 := k0.lt
                  have p2 := (k0.alloc (.cells #[.bool false, .slice B1 n1 d1, .slice B2 n2 d2, .slice B3 n3 d3] 32)).cell 2
                  have HB0 := Lib.hid h
                  have HL1 := Lib.hid h.1.1
                  have HL2 := Lib.hid h.2.1.1
                  have HL3 := Lib.hid h.2.2.1
                  clear hO q1
                  go_wp2_with fail
                  generalize W2.alloc (.cells #[.bool false, .slice B1 n1 d1, .slice B2 n2 d2, .slice B3 n3 d3] 32) = X at *
                  go_at_call 72; refine (l02Without_any _ _ _ vs t _ hr2 (by omega)).mono ?_; rintro e W3 ⟨A4, m4, c4, rfl, rfl, ho4, hb4⟩
                  have hx1 := hX.below hb4
                  have hXi := hx1.setI ho4
                  have hbm := (hb1.trans (hb4.mono hb1.size)).setCell (p := ⟨W2.heap.size, 2, none⟩) (Nat.le_refl _) (.slice A4 (dropK Iv.id t vs).length c4)
                  have gx1 := hx1.1.cell 2
                  have gf1 := hx1.1.frozen 2
                  have zX := hb1.size
                  have hr1 := HB0.out.1.to hbm
                  have p1 := (k0.below (hb1.trans (hb4.mono hb1.size)) lk0).cell 1
                  have ne1 : ¬ w.heap.size = W2.heap.size := by omega
                  have ne2 : ¬ W2.heap.size = w.heap.size := by omega
                  clear hb4 ho4 hx1 hX hr2 p2 hb1
                  go_wp2_with fail
                  clear gx1 gf1 p1
                  generalize W3.setCell ⟨W2.heap.size, 2, none⟩ (.slice A4 (dropK Iv.id t vs).length c4) = Y at *
                  go_at_call 76; refine (l02Add_any _ _ _ ms ⟨t, 1, at_, 0⟩ _ hr1 (by omega)).mono ?_; rintro e W4 ⟨A5, m5, c5, rfl, rfl, ho5, hb5⟩
                  have hx2 := hXi.below hb5
                  have hXm := hx2.setM ho5
                  have hbi := (hbm.trans (hb5.mono hbm.size)).setCell (p := ⟨W2.heap.size, 1, none⟩) (Nat.le_refl _) (.slice A5 (insK Mb.id (⟨t, 1, at_, 0⟩ : Mb) ms).length c5)
                  have gx0 := hx2.1.cell 0
                  have gx1 := hx2.1.cell 1
                  have gf1 := hx2.1.frozen 1
                  have gx2 := hx2.1.cell 2
                  have gx3 := hx2.1.cell 3
                  have zY := hbm.size
                  clear hb5 ho5 hx2 hXi hr1 hbm
                  go_wp2_with fail
                  clear gx0 gx1 gf1 gx2 gx3
                  generalize W4.setCell ⟨W2.heap.size, 1, none⟩ (.slice A5 (insK Mb.id (⟨t, 1, at_, 0⟩ : Mb) ms).length c5) = V at *
                  have hb5 := hb0.trans (hbi.mono hb0.size)
                  have k1 := k1.below hbi zE
                  have hRO := hXm.room (base := (w.heap.size + 1).succ) (Nat.le_trans (Nat.succ_le_of_lt zE) zY) (Nat.le_trans (Nat.succ_le_of_lt zE) zX) (Nat.le_refl _)
                  have hnn : (insK Mb.id (⟨t, 1, at_, 0⟩ : Mb) ms).length + (dropK Iv.id t vs).length + n3 ≤ 1048576 := by rw [ins_len0]; have := drop_len (k := Iv.id) (t := t) (xs := vs); have := HL1.out; have := HL2.out; have := HL3.out; have := HV.out.l1; have := HV.out.l2; have := HV.out.l3; omega
                  have HR := Lib.hid (show rz = rGive false (insK Mb.id (⟨t, 1, at_, 0⟩ : Mb) ms) (dropK Iv.id t vs) bs by rw [← HZ.out, joinS, if_pos HY.out])
                  have zK := k1.lt
                  clear hXm hbi k0 hb0 HZ
                  cases hG : roomB (insK Mb.id (⟨t, 1, at_, 0⟩ : Mb) ms) (dropK Iv.id t vs) bs with
                  | false =>
                    go_at_call 73; refine (l02Give_no _ _ _ _ _ _ _ _ _ _ _ _ _ _ hRO.at_ hnn hG).mono ?_; rintro e w9 ⟨rfl, hb9⟩
                    have k1 := k1.below hb9 zK
                    have hb5 := hb5.trans (hb9.mono hb5.size)
                    clear hb9
                    have r0 := k1.cell 0; have r1 := k1.cell 1; have r2 := k1.cell 2; have r3 := k1.cell 3
                    have f0 := k1.frozen 0; have f1 := k1.frozen 1; have f2 := k1.frozen 2; have f3 := k1.frozen 3
                    go_wp2
                    refine bodyPost_ret (v := .tuple #[.agg #[.bool false, .slice none 0 0, .slice none 0 0, .slice none 0 0], .bool false]) (by simp [results, Tryz.results24, go_sem, r0, r1, r2, r3]) rfl ?_
                    rw [HR.out, rGive, if_neg (by simp [hG])]
                    exact roomOut_no ((((hb5.setCell (by simp) _).setCell (by simp) _).setCell (by simp) _).setCell (by simp) _)
                  | true =>
                    go_at_call 73; refine (l02Give_yes _ _ _ _ _ _ _ _ _ _ _ _ _ _ hRO.at_ hnn hG).mono ?_; rintro e w9 ⟨rfl, hb9⟩
                    have k1 := k1.below hb9 zK
                    have hRO := hRO.below hb9 (Nat.le_refl _)
                    have hb5 := hb5.trans (hb9.mono hb5.size)
                    clear hb9
                    have r0 := k1.cell 0; have r1 := k1.cell 1; have r2 := k1.cell 2; have r3 := k1.cell 3
                    have f0 := k1.frozen 0; have f1 := k1.frozen 1; have f2 := k1.frozen 2; have f3 := k1.frozen 3
                    go_wp2
                    refine bodyPost_ret (v := .tuple #[.agg #[.bool false, .slice A5 (insK Mb.id (⟨t, 1, at_, 0⟩ : Mb) ms).length c5, .slice A4 (dropK Iv.id t vs).length c4, .slice B3 n3 d3], .bool true]) (by simp [results, Tryz.results24, go_sem, r0, r1, r2, r3]) rfl ?_
                    rw [HR.out, rGive, if_pos hG]
                    exact roomOut_yes (r := ⟨false, (insK Mb.id (⟨t, 1, at_, 0⟩ : Mb) ms), (dropK Iv.id t vs), bs, true⟩) ((hRO.far4 k1 _ _ _ _ _ _ _ _).mono (by omega)) (below_set4 hb5 (Nat.le_succ _) _ _ _ _ _ _ _ _) hnn
            · have HNV := Lib.hid hV
              have hfz := findI_none hV
              clear hV
              cases o with
              | true =>
                have hd : doorB true vs t at_ = true := by simp [doorB]
                clear hfz
                have HY := Lib.hid (show (roomB ms vs bs && idB t && tickB at_ && !decide (t ∈ mids ms) && !decide (t ∈ bids bs) && doorB true vs t at_) = true by simp [hA, hI, hT, HN.out, HNB.out, hd])
                clear hd
                go_wp2_with (first | (go_at_call 52; refine cI.mono ?_; rintro e w' ⟨rfl, q, rfl⟩) | (go_at_call 74; refine (l02Id_b _ _ _ hI).mono ?_; rintro e w' ⟨rfl, rfl⟩) | (go_at_call 69; refine (l02Tick_b _ _ _ hT).mono ?_; rintro e w' ⟨rfl, rfl⟩) | (go_at_call 70; refine (l02Find_no w.heap.size _ n1 c1 W.heap.size ms t (W.drewN q) ((k0.drewN q).cell 1) (h.1.drewN q) (by omega) HN.out).mono ?_; rintro e w' ⟨rfl, rfl⟩) | (go_at_call 71; refine (l02Banned_no w.heap.size _ n3 c3 W.heap.size bs t (W.drewN q) ((k0.drewN q).cell 3) (h.2.2.drewN q) (by omega) HNB.out).mono ?_; rintro e w' ⟨rfl, rfl⟩) | (go_at_call 75; refine (l02Invited_no w.heap.size _ n2 c2 W.heap.size vs t (W.drewN q) ((k0.drewN q).cell 2) (h.2.1.drewN q) (by omega) HNV.out).mono ?_; rintro e w' ⟨rfl, rfl⟩))
                have HV := Lib.hid (roomB_iff.1 hA)
                have z1 := k1.lt
                have hD : RoomAt (W.drewN q) (W.drewN q).heap.size (some a1) n1 (some a2) n2 (some a3) n3 ms vs bs := h
                have kD := k0.drewN q
                have k1D := k1.drewN q
                have hbD : Below w.heap.size w (W.drewN q) := HF.out q
                have zD : w.heap.size + 1 < (W.drewN q).heap.size := z1
                clear h k0 k1 hb0 z1 cI HF p0 p2
                generalize W.drewN q = W1 at *
                go_at_call 54; refine (l02Copy_any w.heap.size n1 c1 n2 c2 n3 c3 a1 a2 a3 true ms vs bs W1 kD hD hn).mono ?_; rintro e W2 ⟨B1, d1, B2, d2, B3, d3, rfl, hO, hb1⟩
                have k0 := kD.below hb1 kD.lt
                have k1 := k1D.below hb1 zD
                have h := hD.to hb1
                have hb0 := hbD.trans (hb1.mono hbD.size)
                have zE := k1.lt
                have hO := hO.mono (Nat.succ_le_of_lt zD)
                clear hb1 kD k1D hbD hD
                obtain ⟨q1, hb1⟩ := one_box W2 32 #[.bool true, .slice B1 n1 d1, .slice B2 n2 d2, .slice B3 n3 d3]
                have hX : OutAt (W2.alloc (.cells #[.bool true, .slice B1 n1 d1, .slice B2 n2 d2, .slice B3 n3 d3] 32)) W2.heap.size (w.heap.size + 1).succ (w.heap.size + 1).succ (w.heap.size + 1).succ true (.slice B1 n1 d1) (.slice B2 n2 d2) (.slice B3 n3 d3) n1 n2 n3 ms vs bs := ⟨q1, hO.below hb1 (Nat.le_refl _)⟩
                have hr2 := h.2.1.to hb1
                have lk0 := k0.lt
                have p2 := (k0.alloc (.cells #[.bool true, .slice B1 n1 d1, .slice B2 n2 d2, .slice B3 n3 d3] 32)).cell 2
                have HB0 := Lib.hid h
                have HL1 := Lib.hid h.1.1
                have HL2 := Lib.hid h.2.1.1
                have HL3 := Lib.hid h.2.2.1
                clear hO q1
                go_wp2_with fail
                generalize W2.alloc (.cells #[.bool true, .slice B1 n1 d1, .slice B2 n2 d2, .slice B3 n3 d3] 32) = X at *
                go_at_call 72; refine (l02Without_any _ _ _ vs t _ hr2 (by omega)).mono ?_; rintro e W3 ⟨A4, m4, c4, rfl, rfl, ho4, hb4⟩
                have hx1 := hX.below hb4
                have hXi := hx1.setI ho4
                have hbm := (hb1.trans (hb4.mono hb1.size)).setCell (p := ⟨W2.heap.size, 2, none⟩) (Nat.le_refl _) (.slice A4 (dropK Iv.id t vs).length c4)
                have gx1 := hx1.1.cell 2
                have gf1 := hx1.1.frozen 2
                have zX := hb1.size
                have hr1 := HB0.out.1.to hbm
                have p1 := (k0.below (hb1.trans (hb4.mono hb1.size)) lk0).cell 1
                have ne1 : ¬ w.heap.size = W2.heap.size := by omega
                have ne2 : ¬ W2.heap.size = w.heap.size := by omega
                clear hb4 ho4 hx1 hX hr2 p2 hb1
                go_wp2_with fail
                clear gx1 gf1 p1
                generalize W3.setCell ⟨W2.heap.size, 2, none⟩ (.slice A4 (dropK Iv.id t vs).length c4) = Y at *
                go_at_call 76; refine (l02Add_any _ _ _ ms ⟨t, 1, at_, 0⟩ _ hr1 (by omega)).mono ?_; rintro e W4 ⟨A5, m5, c5, rfl, rfl, ho5, hb5⟩
                have hx2 := hXi.below hb5
                have hXm := hx2.setM ho5
                have hbi := (hbm.trans (hb5.mono hbm.size)).setCell (p := ⟨W2.heap.size, 1, none⟩) (Nat.le_refl _) (.slice A5 (insK Mb.id (⟨t, 1, at_, 0⟩ : Mb) ms).length c5)
                have gx0 := hx2.1.cell 0
                have gx1 := hx2.1.cell 1
                have gf1 := hx2.1.frozen 1
                have gx2 := hx2.1.cell 2
                have gx3 := hx2.1.cell 3
                have zY := hbm.size
                clear hb5 ho5 hx2 hXi hr1 hbm
                go_wp2_with fail
                clear gx0 gx1 gf1 gx2 gx3
                generalize W4.setCell ⟨W2.heap.size, 1, none⟩ (.slice A5 (insK Mb.id (⟨t, 1, at_, 0⟩ : Mb) ms).length c5) = V at *
                have hb5 := hb0.trans (hbi.mono hb0.size)
                have k1 := k1.below hbi zE
                have hRO := hXm.room (base := (w.heap.size + 1).succ) (Nat.le_trans (Nat.succ_le_of_lt zE) zY) (Nat.le_trans (Nat.succ_le_of_lt zE) zX) (Nat.le_refl _)
                have hnn : (insK Mb.id (⟨t, 1, at_, 0⟩ : Mb) ms).length + (dropK Iv.id t vs).length + n3 ≤ 1048576 := by rw [ins_len0]; have := drop_len (k := Iv.id) (t := t) (xs := vs); have := HL1.out; have := HL2.out; have := HL3.out; have := HV.out.l1; have := HV.out.l2; have := HV.out.l3; omega
                have HR := Lib.hid (show rz = rGive true (insK Mb.id (⟨t, 1, at_, 0⟩ : Mb) ms) (dropK Iv.id t vs) bs by rw [← HZ.out, joinS, if_pos HY.out])
                have zK := k1.lt
                clear hXm hbi k0 hb0 HZ
                cases hG : roomB (insK Mb.id (⟨t, 1, at_, 0⟩ : Mb) ms) (dropK Iv.id t vs) bs with
                | false =>
                  go_at_call 73; refine (l02Give_no _ _ _ _ _ _ _ _ _ _ _ _ _ _ hRO.at_ hnn hG).mono ?_; rintro e w9 ⟨rfl, hb9⟩
                  have k1 := k1.below hb9 zK
                  have hb5 := hb5.trans (hb9.mono hb5.size)
                  clear hb9
                  have r0 := k1.cell 0; have r1 := k1.cell 1; have r2 := k1.cell 2; have r3 := k1.cell 3
                  have f0 := k1.frozen 0; have f1 := k1.frozen 1; have f2 := k1.frozen 2; have f3 := k1.frozen 3
                  go_wp2
                  refine bodyPost_ret (v := .tuple #[.agg #[.bool false, .slice none 0 0, .slice none 0 0, .slice none 0 0], .bool false]) (by simp [results, Tryz.results24, go_sem, r0, r1, r2, r3]) rfl ?_
                  rw [HR.out, rGive, if_neg (by simp [hG])]
                  exact roomOut_no ((((hb5.setCell (by simp) _).setCell (by simp) _).setCell (by simp) _).setCell (by simp) _)
                | true =>
                  go_at_call 73; refine (l02Give_yes _ _ _ _ _ _ _ _ _ _ _ _ _ _ hRO.at_ hnn hG).mono ?_; rintro e w9 ⟨rfl, hb9⟩
                  have k1 := k1.below hb9 zK
                  have hRO := hRO.below hb9 (Nat.le_refl _)
                  have hb5 := hb5.trans (hb9.mono hb5.size)
                  clear hb9
                  have r0 := k1.cell 0; have r1 := k1.cell 1; have r2 := k1.cell 2; have r3 := k1.cell 3
                  have f0 := k1.frozen 0; have f1 := k1.frozen 1; have f2 := k1.frozen 2; have f3 := k1.frozen 3
                  go_wp2
                  refine bodyPost_ret (v := .tuple #[.agg #[.bool true, .slice A5 (insK Mb.id (⟨t, 1, at_, 0⟩ : Mb) ms).length c5, .slice A4 (dropK Iv.id t vs).length c4, .slice B3 n3 d3], .bool true]) (by simp [results, Tryz.results24, go_sem, r0, r1, r2, r3]) rfl ?_
                  rw [HR.out, rGive, if_pos hG]
                  exact roomOut_yes (r := ⟨true, (insK Mb.id (⟨t, 1, at_, 0⟩ : Mb) ms), (dropK Iv.id t vs), bs, true⟩) ((hRO.far4 k1 _ _ _ _ _ _ _ _).mono (by omega)) (below_set4 hb5 (Nat.le_succ _) _ _ _ _ _ _ _ _) hnn
              | false =>
                have hd : doorB false vs t at_ = false := by simp [doorB, hfz]
                clear hfz
                have HR := Lib.hid (show rz = rNo by rw [← HZ.out, joinS, if_neg (by simp [hA, hI, hT, HN.out, HNB.out, hd])])
                have k1q := fun q => k1.drewN q
                have r0 : ∀ q, (W.drewN q).cell? ⟨w.heap.size + 1, 0, none⟩ = some (.bool false) := fun q => (k1q q).cell 0
                have r1 : ∀ q, (W.drewN q).cell? ⟨w.heap.size + 1, 1, none⟩ = some (.slice none 0 0) := fun q => (k1q q).cell 1
                have r2 : ∀ q, (W.drewN q).cell? ⟨w.heap.size + 1, 2, none⟩ = some (.slice none 0 0) := fun q => (k1q q).cell 2
                have r3 : ∀ q, (W.drewN q).cell? ⟨w.heap.size + 1, 3, none⟩ = some (.slice none 0 0) := fun q => (k1q q).cell 3
                have f0 := k1.frozen 0; have f1 := k1.frozen 1; have f2 := k1.frozen 2; have f3 := k1.frozen 3
                clear hd
                go_wp2_with (first | (go_at_call 52; refine cI.mono ?_; rintro e w' ⟨rfl, q, rfl⟩) | (go_at_call 74; refine (l02Id_b _ _ _ hI).mono ?_; rintro e w' ⟨rfl, rfl⟩) | (go_at_call 69; refine (l02Tick_b _ _ _ hT).mono ?_; rintro e w' ⟨rfl, rfl⟩) | (go_at_call 70; refine (l02Find_no w.heap.size _ n1 c1 W.heap.size ms t (W.drewN q) ((k0.drewN q).cell 1) (h.1.drewN q) (by omega) HN.out).mono ?_; rintro e w' ⟨rfl, rfl⟩) | (go_at_call 71; refine (l02Banned_no w.heap.size _ n3 c3 W.heap.size bs t (W.drewN q) ((k0.drewN q).cell 3) (h.2.2.drewN q) (by omega) HNB.out).mono ?_; rintro e w' ⟨rfl, rfl⟩) | (go_at_call 75; refine (l02Invited_no w.heap.size _ n2 c2 W.heap.size vs t (W.drewN q) ((k0.drewN q).cell 2) (h.2.1.drewN q) (by omega) HNV.out).mono ?_; rintro e w' ⟨rfl, rfl⟩))
                refine bodyPost_ret (v := .tuple #[.agg #[.bool false, .slice none 0 0, .slice none 0 0, .slice none 0 0], .bool false]) (by simp [results, Tryz.results24, go_sem, r0, r1, r2, r3]) rfl ?_
                rw [HR.out]
                exact roomOut_no (((((HF.out q).setCell (by simp) _).setCell (by simp) _).setCell (by simp) _).setCell (by simp) _)
end Go.Proofs.YtbamhnbmddopgaaGreatDoor
