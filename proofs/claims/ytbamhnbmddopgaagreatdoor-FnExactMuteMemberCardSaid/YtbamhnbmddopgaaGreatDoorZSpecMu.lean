import Derived.Test.YtbamhnbmddopgaaGreatDoorChecked
import Derived.WalkKit
import Derived.ProofKit
import Derived.OpenShut
import Derived.ShutString
import Derived.ChangeOld
import Derived.Below
import Derived.Lib.Hide
import Derived.Test.YtbamhnbmddopgaaGreatDoorJm
namespace Go.Proofs.YtbamhnbmddopgaaGreatDoor
open Go.ChangeShapes Go.WideShapes Go.ChangeAt Go.RowKit
open Go.ChangeMaps (open_string shut_string)
set_option linter.unusedVariables false
set_option maxRecDepth 100000
set_option maxHeartbeats 3200000 in
theorem spec_MuteMember_any (o : Bool) (a1 a2 a3 : Addr) (n1 c1 n2 c2 n3 c3 : Nat) (ms : List Mb) (vs : List Iv) (bs : List Bn) (p : Int) (t : Int) (til : Int) (at_ : Int) (w : World)
    (h : RoomAt w w.heap.size (some a1) n1 (some a2) n2 (some a3) n3 ms vs bs) (hn : n1 + n2 + n3 ≤ 1048576) :
    Calls Tryz.prog 30 #[.agg #[.bool o, .slice (some a1) n1 c1, .slice (some a2) n2 c2, .slice (some a3) n3 c3], .int .i64 p, .int .i64 t, .int .i64 til, .int .i64 at_] w (RoomOut (muteS o ms vs bs p t til at_) w) := by
  obtain ⟨rz, hrz⟩ : ∃ z, muteS o ms vs bs p t til at_ = z := ⟨_, rfl⟩
  have HZ := Lib.hid hrz
  rw [hrz]
  clear hrz
  go_enter Tryz.func30, Tryz.ntmps30
  go_wp2_with fail
  obtain ⟨k0, k1, hb0⟩ := two_boxes w 32 32 #[.bool o, .slice (some a1) n1 c1, .slice (some a2) n2 c2, .slice (some a3) n3 c3] #[.bool false, .slice none 0 0, .slice none 0 0, .slice none 0 0]
  generalize ((w.alloc (.cells #[.bool o, .slice (some a1) n1 c1, .slice (some a2) n2 c2, .slice (some a3) n3 c3] 32)).alloc (.cells #[.bool false, .slice none 0 0, .slice none 0 0, .slice none 0 0] 32)) = W at *
  have h := h.to hb0
  have cI := l02Above_any w.heap.size _ _ _ n1 c1 n2 c2 n3 c3 W.heap.size ms vs bs p t 4 at_ W (k0.cell 1) (k0.cell 2) (k0.cell 3) h hn
  have fin : ∀ q, Below w.heap.size w (W.drewN q) := fun q => hb0.trans (Below.mono (drew_below ⟨q, rfl⟩) hb0.size)
  have HF := Lib.hid fin
  clear fin
  cases hA : aboveB ms vs bs p t 4 at_ with
  | false =>
    rw [hA] at cI
    have HR := Lib.hid (show rz = rNo by rw [← HZ.out, muteS, if_neg (by simp [hA])])
    have k1q := fun q => k1.drewN q
    have r0 : ∀ q, (W.drewN q).cell? ⟨w.heap.size + 1, 0, none⟩ = some (.bool false) := fun q => (k1q q).cell 0
    have r1 : ∀ q, (W.drewN q).cell? ⟨w.heap.size + 1, 1, none⟩ = some (.slice none 0 0) := fun q => (k1q q).cell 1
    have r2 : ∀ q, (W.drewN q).cell? ⟨w.heap.size + 1, 2, none⟩ = some (.slice none 0 0) := fun q => (k1q q).cell 2
    have r3 : ∀ q, (W.drewN q).cell? ⟨w.heap.size + 1, 3, none⟩ = some (.slice none 0 0) := fun q => (k1q q).cell 3
    have f0 := k1.frozen 0; have f1 := k1.frozen 1; have f2 := k1.frozen 2; have f3 := k1.frozen 3
    go_wp2_with (first | (go_at_call 68; refine cI.mono ?_; rintro e w' ⟨rfl, q, rfl⟩))
    refine bodyPost_ret (v := .tuple #[.agg #[.bool false, .slice none 0 0, .slice none 0 0, .slice none 0 0], .bool false]) (by simp [results, Tryz.results30, go_sem, r0, r1, r2, r3]) rfl ?_
    rw [HR.out]
    exact roomOut_no (((((HF.out q).setCell (by simp) _).setCell (by simp) _).setCell (by simp) _).setCell (by simp) _)
  | true =>
    rw [hA] at cI
    cases hf : findM ms t with
    | none =>
      have HN := Lib.hid (findM_none.1 hf)
      have HR := Lib.hid (show rz = rNo by rw [← HZ.out, muteS, if_neg (by simp [hA, (findM_none.1 hf)])])
      have k1q := fun q => k1.drewN q
      have r0 : ∀ q, (W.drewN q).cell? ⟨w.heap.size + 1, 0, none⟩ = some (.bool false) := fun q => (k1q q).cell 0
      have r1 : ∀ q, (W.drewN q).cell? ⟨w.heap.size + 1, 1, none⟩ = some (.slice none 0 0) := fun q => (k1q q).cell 1
      have r2 : ∀ q, (W.drewN q).cell? ⟨w.heap.size + 1, 2, none⟩ = some (.slice none 0 0) := fun q => (k1q q).cell 2
      have r3 : ∀ q, (W.drewN q).cell? ⟨w.heap.size + 1, 3, none⟩ = some (.slice none 0 0) := fun q => (k1q q).cell 3
      have f0 := k1.frozen 0; have f1 := k1.frozen 1; have f2 := k1.frozen 2; have f3 := k1.frozen 3
      go_wp2_with (first | (go_at_call 68; refine cI.mono ?_; rintro e w' ⟨rfl, q, rfl⟩) | (go_at_call 70; refine (l02Find_no w.heap.size _ n1 c1 W.heap.size ms t (W.drewN q) ((k0.drewN q).cell 1) (h.1.drewN q) (by omega) HN.out).mono ?_; rintro e w' ⟨rfl, rfl⟩))
      refine bodyPost_ret (v := .tuple #[.agg #[.bool false, .slice none 0 0, .slice none 0 0, .slice none 0 0], .bool false]) (by simp [results, Tryz.results30, go_sem, r0, r1, r2, r3]) rfl ?_
      rw [HR.out]
      exact roomOut_no (((((HF.out q).setCell (by simp) _).setCell (by simp) _).setCell (by simp) _).setCell (by simp) _)
    | some m =>
      have hmem := findM_mem hf
      obtain ⟨K, hz, hK, hKf⟩ := find_split hf
      have hKn : K < n1 := by rw [← h.1.1]; exact (List.getElem?_eq_some_iff.1 hz).1
      have HK := Lib.hid (And.intro hK hKf)
      have HM := Lib.hid (And.intro hz (findM_some hf))
      have e0 : ¬ ((K : Int) < 0) := by omega
      have HE := Lib.hid hmem
      clear hK hKf hz hf
      clear hmem
      cases hT : tickB til with
      | false =>
        have HR := Lib.hid (show rz = rNo by rw [← HZ.out, muteS, if_neg (by simp [hA, HE.out, hT])])
        have k1q := fun q => k1.drewN q
        have r0 : ∀ q, (W.drewN q).cell? ⟨w.heap.size + 1, 0, none⟩ = some (.bool false) := fun q => (k1q q).cell 0
        have r1 : ∀ q, (W.drewN q).cell? ⟨w.heap.size + 1, 1, none⟩ = some (.slice none 0 0) := fun q => (k1q q).cell 1
        have r2 : ∀ q, (W.drewN q).cell? ⟨w.heap.size + 1, 2, none⟩ = some (.slice none 0 0) := fun q => (k1q q).cell 2
        have r3 : ∀ q, (W.drewN q).cell? ⟨w.heap.size + 1, 3, none⟩ = some (.slice none 0 0) := fun q => (k1q q).cell 3
        have f0 := k1.frozen 0; have f1 := k1.frozen 1; have f2 := k1.frozen 2; have f3 := k1.frozen 3
        go_wp2_with (first | (go_at_call 68; refine cI.mono ?_; rintro e w' ⟨rfl, q, rfl⟩) | (go_at_call 70; refine (l02Find_at w.heap.size _ n1 c1 W.heap.size ms t (W.drewN q) ((k0.drewN q).cell 1) (h.1.drewN q) (by omega) K HK.out.1 HK.out.2).mono ?_; rintro e w' ⟨rfl, rfl⟩) | (go_at_call 69; refine (l02Tick_b _ _ _ hT).mono ?_; rintro e w' ⟨rfl, rfl⟩))
        refine bodyPost_ret (v := .tuple #[.agg #[.bool false, .slice none 0 0, .slice none 0 0, .slice none 0 0], .bool false]) (by simp [results, Tryz.results30, go_sem, r0, r1, r2, r3]) rfl ?_
        rw [HR.out]
        exact roomOut_no (((((HF.out q).setCell (by simp) _).setCell (by simp) _).setCell (by simp) _).setCell (by simp) _)
      | true =>
        have HY := Lib.hid (show (aboveB ms vs bs p t 4 at_ && decide (t ∈ mids ms) && tickB til) = true by simp [hA, HE.out, hT])
        go_wp2_with (first | (go_at_call 68; refine cI.mono ?_; rintro e w' ⟨rfl, q, rfl⟩) | (go_at_call 70; refine (l02Find_at w.heap.size _ n1 c1 W.heap.size ms t (W.drewN q) ((k0.drewN q).cell 1) (h.1.drewN q) (by omega) K HK.out.1 HK.out.2).mono ?_; rintro e w' ⟨rfl, rfl⟩) | (go_at_call 69; refine (l02Tick_b _ _ _ hT).mono ?_; rintro e w' ⟨rfl, rfl⟩))
        have HV := Lib.hid (above_room hA)
        have z1 := k1.lt
        have hD : RoomAt (W.drewN q) (W.drewN q).heap.size (some a1) n1 (some a2) n2 (some a3) n3 ms vs bs := h
        have kD := k0.drewN q
        have k1D := k1.drewN q
        have hbD : Below w.heap.size w (W.drewN q) := HF.out q
        have zD : w.heap.size + 1 < (W.drewN q).heap.size := z1
        clear h k0 k1 hb0 z1 cI HF
        generalize W.drewN q = W1 at *
        go_at_call 54; refine (l02Copy_any w.heap.size n1 c1 n2 c2 n3 c3 a1 a2 a3 o ms vs bs W1 kD hD hn).mono ?_; rintro e W2 ⟨B1, d1, B2, d2, B3, d3, rfl, hO, hb1⟩
        have k0 := kD.below hb1 kD.lt
        have k1 := k1D.below hb1 zD
        have h := hD.to hb1
        have hb0 := hbD.trans (hb1.mono hbD.size)
        have zE := k1.lt
        have hO := hO.mono (Nat.succ_le_of_lt zD)
        clear hb1 kD k1D hbD hD
        obtain ⟨g1, rfl, hg1⟩ := own_some hO.1 (by omega)
        obtain ⟨q1, hb1⟩ := one_box W2 32 #[.bool o, .slice (some ⟨g1, 0, none⟩) n1 d1, .slice B2 n2 d2, .slice B3 n3 d3]
        have k0 := k0.below hb1 k0.lt
        have k1 := k1.below hb1 zE
        have h := h.to hb1
        have hO := hO.below hb1 (Nat.le_refl _)
        have hb0 := hb0.trans (hb1.mono hb0.size)
        clear hb1
        go_wp2_with fail
        have zQ := zE
        generalize W2.heap.size = Q at *
        generalize W2.alloc (.cells #[.bool o, .slice (some ⟨g1, 0, none⟩) n1 d1, .slice B2 n2 d2, .slice B3 n3 d3] 32) = X at *
        have q1 : Blk X.drew Q 32 #[.bool o, .slice (some ⟨g1, 0, none⟩) n1 d1, .slice B2 n2 d2, .slice B3 n3 d3] := q1
        have k0 : Blk X.drew w.heap.size 32 #[.bool o, .slice (some a1) n1 c1, .slice (some a2) n2 c2, .slice (some a3) n3 c3] := k0
        have k1 : Blk X.drew (w.heap.size + 1) 32 #[.bool false, .slice none 0 0, .slice none 0 0, .slice none 0 0] := k1
        have h : RoomAt X.drew X.drew.heap.size (some a1) n1 (some a2) n2 (some a3) n3 ms vs bs := h
        have hO : RoomOwn X.drew (w.heap.size + 1).succ (some ⟨g1, 0, none⟩) n1 d1 B2 n2 d2 B3 n3 d3 ms vs bs := hO
        have hb0 : Below w.heap.size w X.drew := hb0.drew
        have hlen : K * 4 + 3 < (ms.flatMap mbC).length := by rw [flat_len mbC_len, h.1.1]; omega
        have c1' : X.drew.cell? ⟨g1, K * 4 + 3, none⟩ = some (.int .i64 m.quiet) := by
          have hq := hO.1.cellAt (K * 4 + 3) (by rw [flat_len mbC_len, h.1.1] at hlen; exact hlen)
          rw [hq, flat_get mbC_len ms K m HM.out.1 3 (by decide)]
          rfl
        have c2' : X.drew.frozen? ⟨g1, K * 4 + 3, none⟩ = false := hO.1.frozenAt _
        have e1 : (0 : Int) ≤ (K : Int) := by omega
        have e2 : (K : Int) < (n1 : Int) := by omega
        have nq : some Q ≠ some g1 := blk_apart q1 hO.1 (by decide)
        have n1' : some (w.heap.size + 1) ≠ some g1 := blk_apart k1 hO.1 (by decide)
        have q1s := q1.far (p := ⟨g1, K * 4 + 3, none⟩) (fun e => nq (by rw [e])) (.int .i64 til)
        go_region_held3 (fun w' => w'.cell? ⟨Q, 1, none⟩ = some (.slice (some ⟨g1, 0, none⟩) n1 d1)) (first | exact q1.cell 1 | exact q1s.cell 1) ((go_at_call 70; refine (l02Find_at w.heap.size _ n1 c1 X.drew.heap.size ms t X.drew (k0.cell 1) h.1 (by omega) K HK.out.1 HK.out.2).mono ?_; rintro e w' ⟨rfl, rfl⟩))
        have st := hO.1.stored (K * 4 + 3) (.int .i64 til)
        rw [flat_set mbC_len ms K m { m with quiet := til } 3 (.int .i64 til) HM.out.1 (by decide) rfl] at st
        have q1 := q1s
        have k1 := k1.far (p := ⟨g1, K * 4 + 3, none⟩) (fun e => n1' (by rw [e])) (.int .i64 til)
        have o2 := hO.2.1.kept st.2 (own_types2 hO.2.1 hO.1 (by decide))
        have o3 := hO.2.2.kept st.2 (own_types2 hO.2.2 hO.1 (by decide))
        have hb0 := hb0.setCell (p := ⟨g1, K * 4 + 3, none⟩) (by simp; omega) (.int .i64 til)
        have hO : RoomOwn (X.drew.setCell ⟨g1, K * 4 + 3, none⟩ (.int .i64 til)) (w.heap.size + 1).succ (some ⟨g1, 0, none⟩) n1 d1 B2 n2 d2 B3 n3 d3 (ms.set K { m with quiet := til }) vs bs := ⟨st.1, o2, o3⟩
        clear st o2 o3 h k0 c1' c2' hlen
        have q1 : Blk (X.setCell ⟨g1, K * 4 + 3, none⟩ (.int .i64 til)).drew Q 32 #[.bool o, .slice (some ⟨g1, 0, none⟩) n1 d1, .slice B2 n2 d2, .slice B3 n3 d3] := q1
        have k1 : Blk (X.setCell ⟨g1, K * 4 + 3, none⟩ (.int .i64 til)).drew (w.heap.size + 1) 32 #[.bool false, .slice none 0 0, .slice none 0 0, .slice none 0 0] := k1
        have hO : RoomOwn (X.setCell ⟨g1, K * 4 + 3, none⟩ (.int .i64 til)).drew (w.heap.size + 1).succ (some ⟨g1, 0, none⟩) n1 d1 B2 n2 d2 B3 n3 d3 (ms.set K { m with quiet := til }) vs bs := hO
        have hb0 : Below w.heap.size w (X.setCell ⟨g1, K * 4 + 3, none⟩ (.int .i64 til)).drew := hb0
        generalize (X.setCell ⟨g1, K * 4 + 3, none⟩ (.int .i64 til)).drew = Y at *
        have HS := Lib.hid (set_alter (fun x => { x with quiet := til }) HV.out.r1 HM.out.1)
        have l0 := q1.cell 0; have l1 := q1.cell 1; have l2 := q1.cell 2; have l3 := q1.cell 3
        have r0 := k1.cell 0; have r1 := k1.cell 1; have r2 := k1.cell 2; have r3 := k1.cell 3
        have f0 := k1.frozen 0; have f1 := k1.frozen 1; have f2 := k1.frozen 2; have f3 := k1.frozen 3
        go_wp2
        refine bodyPost_ret (v := .tuple #[.agg #[.bool o, .slice (some ⟨g1, 0, none⟩) n1 d1, .slice B2 n2 d2, .slice B3 n3 d3], .bool true]) (by simp [results, Tryz.results30, go_sem, r0, r1, r2, r3]) rfl ?_
        rw [show rz = ⟨o, ms.set K { m with quiet := til }, vs, bs, true⟩ by rw [← HZ.out, muteS, if_pos HY.out, HS.out, HM.out.2.2]; rfl]
        exact roomOut_yes (r := ⟨o, ms.set K { m with quiet := til }, vs, bs, true⟩) ((hO.far4 k1 _ _ _ _ _ _ _ _).mono (by omega)) (below_set4 hb0 (Nat.le_succ _) _ _ _ _ _ _ _ _) hn
end Go.Proofs.YtbamhnbmddopgaaGreatDoor
