import Derived.Test.YtmnmmjobplbflaaGreatDoorChecked
import Derived.WalkKit
import Derived.ProofKit
import Derived.OpenShut
import Derived.ShutString
import Derived.ChangeOld
import Derived.Below
import Derived.Lib.Hide
import Derived.Deep.RegionHeld3
import Derived.StillTailTactics
import Derived.IntWalk
import Derived.Test.YtmnmmjobplbflaaGreatDoorZConcat3
import Derived.Test.YtmnmmjobplbflaaGreatDoorZOwnerC
import Derived.Test.YtmnmmjobplbflaaGreatDoorZIsRoomC
namespace Go.Proofs.YtmnmmjobplbflaaGreatDoor
open Go.ChangeShapes Go.WideShapes Go.ChangeAt Go.RowKit
open Go.ChangeMaps (open_string shut_string)
set_option linter.unusedVariables false
set_option maxRecDepth 100000
set_option maxHeartbeats 3200000 in
theorem impl_ValidRoom_any (o : Bool) (A1 A2 A3 : Option Addr) (n1 c1 n2 c2 n3 c3 : Nat) (ms : List Mb) (vs : List Iv) (bs : List Bn) (w : World)
    (h : RoomAt w w.heap.size A1 n1 A2 n2 A3 n3 ms vs bs) (hn : n1 + n2 + n3 ≤ 1048576) :
    Calls Tryz.prog 12 #[.agg #[.bool o, .slice A1 n1 c1, .slice A2 n2 c2, .slice A3 n3 c3]] w fun e w' => e = .returned (.bool (roomB ms vs bs)) ∧ Below w.heap.size w w' := by
  have HL1 := Lib.hid h.1.1
  have HL2 := Lib.hid h.2.1.1
  have HL3 := Lib.hid h.2.2.1
  by_cases hl1 : 32 < n1
  · have HF := Lib.hid (roomB_mem (vs := vs) (bs := bs) (mb_long (xs := ms) (by have := HL1.out; omega)))
    have hd1 : decide ((32 : Int) < (n1 : Int)) = true := by simp; omega
    go_enter Tryz.func12, Tryz.ntmps12
    go_wp2
    go_ret
    exact ⟨ret_bool HF.out.symm, (Below.refl _ _).alloc (Nat.le_refl _) _⟩
  by_cases hl2 : 16 < n2
  · have HF := Lib.hid (roomB_inv (bs := bs) (iv_long (ms := ms) (xs := vs) (by have := HL2.out; omega)))
    have hd1 : decide ((32 : Int) < (n1 : Int)) = false := by simp; omega
    have hd2 : decide ((16 : Int) < (n2 : Int)) = true := by simp; omega
    go_enter Tryz.func12, Tryz.ntmps12
    go_wp2
    go_ret
    exact ⟨ret_bool HF.out.symm, (Below.refl _ _).alloc (Nat.le_refl _) _⟩
  by_cases hl3 : 16 < n3
  · have HF := Lib.hid (roomB_ban (bn_long (ms := ms) (vs := vs) (xs := bs) (by have := HL3.out; omega)))
    have hd1 : decide ((32 : Int) < (n1 : Int)) = false := by simp; omega
    have hd2 : decide ((16 : Int) < (n2 : Int)) = false := by simp; omega
    have hd3 : decide ((16 : Int) < (n3 : Int)) = true := by simp; omega
    go_enter Tryz.func12, Tryz.ntmps12
    go_wp2
    go_ret
    exact ⟨ret_bool HF.out.symm, (Below.refl _ _).alloc (Nat.le_refl _) _⟩
  have hd1 : decide ((32 : Int) < (n1 : Int)) = false := by simp; omega
  have hd2 : decide ((16 : Int) < (n2 : Int)) = false := by simp; omega
  have hd3 : decide ((16 : Int) < (n3 : Int)) = false := by simp; omega
  have ln1 : n1 ≤ 32 := by omega
  have ln2 : n2 ≤ 16 := by omega
  have ln3 : n3 ≤ 16 := by omega
  clear hl1 hl2 hl3
  go_enter Tryz.func12, Tryz.ntmps12
  go_wp2_with fail
  obtain ⟨k0, hb0⟩ := one_box w 28 #[.bool o, .slice A1 n1 c1, .slice A2 n2 c2, .slice A3 n3 c3]
  generalize w.alloc (.cells #[.bool o, .slice A1 n1 c1, .slice A2 n2 c2, .slice A3 n3 c3] 28) = W at *
  have h := (h.below hb0).more hb0.size
  cases am : (ms.all mbB && memB (mids ms)) with
  | false =>
    have HF := Lib.hid (roomB_mem (vs := vs) (bs := bs) (show membersB ms = false by simp [membersB, am]))
    go_at_call 34; refine (areM_any _ _ _ _ _ h.1 (by omega)).mono ?_; rw [am]; rintro e w1 ⟨rfl, hb1⟩
    have hb1 := hb0.trans (hb1.mono hb0.size)
    go_wp2
    go_ret
    exact ⟨ret_bool HF.out.symm, hb1⟩
  | true =>
    go_at_call 34; refine (areM_any _ _ _ _ _ h.1 (by omega)).mono ?_; rw [am]; rintro e w1 ⟨rfl, hb1⟩
    have h := h.to hb1
    have k0 := k0.below hb1 k0.lt
    have hb0 := hb0.trans (hb1.mono hb0.size)
    clear hb1
    have l0 := k0.cell 2
    go_wp2_with fail
    cases ai : (vs.all ivB && memB (iids vs)) with
    | false =>
      have HF := Lib.hid (roomB_inv (bs := bs) (show invitesB ms vs = false by simp [invitesB, ai]))
      go_at_call 35; refine (areI_any _ _ _ _ _ h.2.1 (by omega)).mono ?_; rw [ai]; rintro e w1 ⟨rfl, hb1⟩
      have hb1 := hb0.trans (hb1.mono hb0.size)
      go_wp2
      go_ret
      exact ⟨ret_bool HF.out.symm, hb1⟩
    | true =>
      go_at_call 35; refine (areI_any _ _ _ _ _ h.2.1 (by omega)).mono ?_; rw [ai]; rintro e w2 ⟨rfl, hb1⟩
      have h := h.to hb1
      have k0 := k0.below hb1 k0.lt
      have hb0 := hb0.trans (hb1.mono hb0.size)
      clear hb1 l0
      have l0 := k0.cell 3
      go_wp2_with fail
      cases ab : (bs.all bnB && memB (bids bs)) with
      | false =>
        have HF := Lib.hid (roomB_ban (show bansB ms vs bs = false by simp [bansB, ab]))
        go_at_call 36; refine (areB_any _ _ _ _ _ h.2.2 (by omega)).mono ?_; rw [ab]; rintro e w1 ⟨rfl, hb1⟩
        have hb1 := hb0.trans (hb1.mono hb0.size)
        go_wp2
        go_ret
        exact ⟨ret_bool HF.out.symm, hb1⟩
      | true =>
        go_at_call 36; refine (areB_any _ _ _ _ _ h.2.2 (by omega)).mono ?_; rw [ab]; rintro e w3 ⟨rfl, hb1⟩
        have h := h.to hb1
        have k0 := k0.below hb1 k0.lt
        have hb0 := hb0.trans (hb1.mono hb0.size)
        clear hb1 l0
        have l1 := k0.cell 1
        have l2 := k0.cell 2
        have l3 := k0.cell 3
        go_wp2_with fail
        have hd : RoomAt w3.drew w3.drew.heap.size A1 n1 A2 n2 A3 n3 ms vs bs := h
        have kd : Blk w3.drew w.heap.size 28 #[.bool o, .slice A1 n1 c1, .slice A2 n2 c2, .slice A3 n3 c3] := k0
        have hbd : Below w.heap.size w w3.drew := hb0.drew
        have hbB0 := hbd.size
        go_region_held3 (fun w' => w'.cell? ⟨w.heap.size, 1, none⟩ = some (.slice A1 n1 c1) ∧ w'.cell? ⟨w.heap.size, 2, none⟩ = some (.slice A2 n2 c2) ∧ w'.cell? ⟨w.heap.size, 3, none⟩ = some (.slice A3 n3 c3)) (first | exact ⟨l1, l2, l3⟩ | exact ⟨k4.cell 1, k4.cell 2, k4.cell 3⟩ | exact ⟨k5.cell 1, k5.cell 2, k5.cell 3⟩ | exact ⟨k6.cell 1, k6.cell 2, k6.cell 3⟩ | exact ⟨k7.cell 1, k7.cell 2, k7.cell 3⟩ | exact ⟨(k6.alloc _).cell 1, (k6.alloc _).cell 2, (k6.alloc _).cell 3⟩) ((first | (go_at_call 38; refine (idsOfM_any _ _ _ _ _ hd.1 (by omega)).mono ?_; rintro e w4 ⟨g4, c4, rfl, ho4, hb4⟩; have h4 := hd.to hb4; have k4 := kd.below hb4 kd.lt; have hbd4 := hbd.trans (hb4.mono hbd.size)) | (go_at_call 39; refine (idsOfI_any _ _ _ _ _ h4.2.1 (by omega)).mono ?_; rintro e w5 ⟨g5, c5, rfl, ho5, hb5⟩; have h5 := h4.to hb5; have k5 := k4.below hb5 k4.lt; have hbd5 := hbd4.trans (hb5.mono hbd4.size); have ho4' := own_below ho4 hb5 (Nat.le_refl _)) | (go_at_call 40; refine (idsOfB_any _ _ _ _ _ h5.2.2 (by omega)).mono ?_; rintro e w6 ⟨g6, c6, rfl, ho6, hb6⟩; have h6 := h5.to hb6; have k6 := k5.below hb6 k5.lt; have hbd6 := hbd5.trans (hb6.mono hbd5.size); have ho4'' := own_below ho4' hb6 (Nat.le_refl _); have ho5' := own_below ho5 hb6 (Nat.le_refl _)) | (go_at_call 37; refine (concat3_new _ _ _ _ _ _ _ _ _ _ _ _ (mids ms) (iids vs) (bids bs) _ ho4'' ho5' ho6 (by omega) (by omega) (by omega)).mono ?_; rintro e w7 ⟨A7, m7, c7, rfl, ho7, hb7⟩; have h7 := h6.to hb7; have k7 := k6.below hb7 k6.lt; have hbd7 := hbd6.trans (hb7.mono hbd6.size))))
        have hbB : w.heap.size ≤ w6.heap.size := hbd6.size
        clear ho4 ho4' ho4'' ho5 ho5' ho6 hb4 hb5 hb6 hb7 h4 h5 h6 k4 k5 k6 hbd hbd4 hbd5 hbd6 hd kd h k0 hb0 l1 l2 l3
        have hlen : m7 ≤ 64 := by
          have e1 := ho7.1
          have := HL1.out; have := HL2.out; have := HL3.out
          simp [mids, iids, bids] at e1
          omega
        have HD := Lib.hid (distinct_iff ms vs bs (by rw [Bool.and_eq_true] at am; exact am.2) (by rw [Bool.and_eq_true] at ai; exact ai.2) (by rw [Bool.and_eq_true] at ab; exact ab.2))
        have HAM := Lib.hid am
        have HAI := Lib.hid ai
        have HAB := Lib.hid ab
        clear am ai ab
        cases ao : ms.any ownB with
        | false =>
          have HF := Lib.hid (roomB_mem (vs := vs) (bs := bs) (show membersB ms = false by simp [membersB, ao]))
          go_wp2_with fail
          have h8 : RoomAt w7.drew w7.drew.heap.size A1 n1 A2 n2 A3 n3 ms vs bs := h7
          have k8 : Blk w7.drew w.heap.size 28 #[.bool o, .slice A1 n1 c1, .slice A2 n2 c2, .slice A3 n3 c3] := k7
          have hbd8 : Below w.heap.size w w7.drew := hbd7.drew
          have l1 := k8.cell 1
          refine wp_region_held_drew (S := fun w' => w'.cell? ⟨w.heap.size, 1, none⟩ = some (.slice A1 n1 c1)) (by kernel_rfl) l1 (fun hHeld => ?_)
          refine wpAnyH_take (i := 0) (oi := ⟨some 47, _, _, _, _, _⟩) (v := .pointer (some ⟨w.heap.size, 1, none⟩)) rfl (by kernel_rfl) (by kernel_rfl) (by kernel_rfl) (fun _ _ _ h => h) (Or.inl ⟨by rfl, by (intro w hSw; (try dsimp only at hSw); go_simp)⟩) (by assumption) ?_
          try simp only [Act.put, List.setIfInBounds_toArray, List.set_cons_zero, List.set_cons_succ]
          refine wpAnyH_take (i := 1) (oi := ⟨some 48, _, _, _, _, _⟩) (v := .slice A1 n1 c1) rfl (by kernel_rfl) (by kernel_rfl) (by kernel_rfl) (fun _ _ _ h => h) (Or.inl ⟨by rfl, by (intro w hSw; (try dsimp only at hSw); go_simp)⟩) (by assumption) ?_
          try simp only [Act.put, List.setIfInBounds_toArray, List.set_cons_zero, List.set_cons_succ]
          refine wpAnyH_ready (rs := [2]) (by kernel_rfl) (by simp) ?_
          refine AllReadyH.cons (o := ⟨some 49, _, _, _, _, _⟩) rfl (fun K hK => ?_) AllReadyH.nil
          go_simp
          go_at_call 41; refine (containsOwner_any _ _ _ _ _ h8.1 (by omega)).mono ?_; rw [ao]; rintro e w9 ⟨rfl, hb9⟩
          have k9 := k8.below hb9 k8.lt
          have hbd9 := hbd8.trans (hb9.mono hbd8.size)
          go_simp
          refine hK.out _ _ (k9.cell 1) (fun hHeld => ?_)
          clear hK K
          try simp only [Act.put, List.setIfInBounds_toArray, List.set_cons_zero, List.set_cons_succ]
          refine wpAnyH_take (i := 3) (oi := ⟨some 50, _, _, _, _, _⟩) (v := .bool false) rfl (by kernel_rfl) (by kernel_rfl) (by kernel_rfl) (fun _ _ _ h => h) (Or.inl ⟨by rfl, by (intro w hSw; (try dsimp only at hSw); go_simp)⟩) (by assumption) ?_
          try simp only [Act.put, List.setIfInBounds_toArray, List.set_cons_zero, List.set_cons_succ]
          refine wpAnyH_take (i := 4) (oi := ⟨some 51, _, _, _, _, _⟩) (v := undef) rfl (by kernel_rfl) (by kernel_rfl) (by kernel_rfl) (fun _ _ _ h => h) (Or.inr ⟨by kernel_rfl, rfl⟩) (by assumption) ?_
          try simp only [Act.put, List.setIfInBounds_toArray, List.set_cons_zero, List.set_cons_succ]
          refine wpAnyH_take (i := 5) (oi := ⟨some 52, _, _, _, _, _⟩) (v := undef) rfl (by kernel_rfl) (by kernel_rfl) (by kernel_rfl) (fun _ _ _ h => h) (Or.inr ⟨by kernel_rfl, rfl⟩) (by assumption) ?_
          try simp only [Act.put, List.setIfInBounds_toArray, List.set_cons_zero, List.set_cons_succ]
          refine wpAnyH_take (i := 6) (oi := ⟨some 53, _, _, _, _, _⟩) (v := undef) rfl (by kernel_rfl) (by kernel_rfl) (by kernel_rfl) (fun _ _ _ h => h) (Or.inr ⟨by kernel_rfl, rfl⟩) (by assumption) ?_
          try simp only [Act.put, List.setIfInBounds_toArray, List.set_cons_zero, List.set_cons_succ]
          refine wpAnyH_take (i := 7) (oi := ⟨some 54, _, _, _, _, _⟩) (v := undef) rfl (by kernel_rfl) (by kernel_rfl) (by kernel_rfl) (fun _ _ _ h => h) (Or.inr ⟨by kernel_rfl, rfl⟩) (by assumption) ?_
          try simp only [Act.put, List.setIfInBounds_toArray, List.set_cons_zero, List.set_cons_succ]
          refine wpAnyH_take (i := 8) (oi := ⟨some 55, _, _, _, _, _⟩) (v := undef) rfl (by kernel_rfl) (by kernel_rfl) (by kernel_rfl) (fun _ _ _ h => h) (Or.inr ⟨by kernel_rfl, rfl⟩) (by assumption) ?_
          try simp only [Act.put, List.setIfInBounds_toArray, List.set_cons_zero, List.set_cons_succ]
          refine wpAnyH_take (i := 9) (oi := ⟨some 56, _, _, _, _, _⟩) (v := undef) rfl (by kernel_rfl) (by kernel_rfl) (by kernel_rfl) (fun _ _ _ h => h) (Or.inr ⟨by kernel_rfl, rfl⟩) (by assumption) ?_
          try simp only [Act.put, List.setIfInBounds_toArray, List.set_cons_zero, List.set_cons_succ]
          refine wpAnyH_take (i := 10) (oi := ⟨some 57, _, _, _, _, _⟩) (v := undef) rfl (by kernel_rfl) (by kernel_rfl) (by kernel_rfl) (fun _ _ _ h => h) (Or.inr ⟨by kernel_rfl, rfl⟩) (by assumption) ?_
          try simp only [Act.put, List.setIfInBounds_toArray, List.set_cons_zero, List.set_cons_succ]
          refine wpAnyH_take (i := 11) (oi := ⟨some 58, _, _, _, _, _⟩) (v := undef) rfl (by kernel_rfl) (by kernel_rfl) (by kernel_rfl) (fun _ _ _ h => h) (Or.inr ⟨by kernel_rfl, rfl⟩) (by assumption) ?_
          try simp only [Act.put, List.setIfInBounds_toArray, List.set_cons_zero, List.set_cons_succ]
          refine wpAnyH_take (i := 12) (oi := ⟨some 59, _, _, _, _, _⟩) (v := undef) rfl (by kernel_rfl) (by kernel_rfl) (by kernel_rfl) (fun _ _ _ h => h) (Or.inr ⟨by kernel_rfl, rfl⟩) (by assumption) ?_
          try simp only [Act.put, List.setIfInBounds_toArray, List.set_cons_zero, List.set_cons_succ]
          refine wpAnyH_take (i := 13) (oi := ⟨some 60, _, _, _, _, _⟩) (v := undef) rfl (by kernel_rfl) (by kernel_rfl) (by kernel_rfl) (fun _ _ _ h => h) (Or.inr ⟨by kernel_rfl, rfl⟩) (by assumption) ?_
          try simp only [Act.put, List.setIfInBounds_toArray, List.set_cons_zero, List.set_cons_succ]
          refine wpAnyH_take (i := 14) (oi := ⟨some 61, _, _, _, _, _⟩) (v := undef) rfl (by kernel_rfl) (by kernel_rfl) (by kernel_rfl) (fun _ _ _ h => h) (Or.inr ⟨by kernel_rfl, rfl⟩) (by assumption) ?_
          try simp only [Act.put, List.setIfInBounds_toArray, List.set_cons_zero, List.set_cons_succ]
          refine wpAnyH_take (i := 15) (oi := ⟨some 62, _, _, _, _, _⟩) (v := undef) rfl (by kernel_rfl) (by kernel_rfl) (by kernel_rfl) (fun _ _ _ h => h) (Or.inr ⟨by kernel_rfl, rfl⟩) (by assumption) ?_
          try simp only [Act.put, List.setIfInBounds_toArray, List.set_cons_zero, List.set_cons_succ]
          refine wpAnyH_take (i := 16) (oi := ⟨some 63, _, _, _, _, _⟩) (v := undef) rfl (by kernel_rfl) (by kernel_rfl) (by kernel_rfl) (fun _ _ _ h => h) (Or.inr ⟨by kernel_rfl, rfl⟩) (by assumption) ?_
          try simp only [Act.put, List.setIfInBounds_toArray, List.set_cons_zero, List.set_cons_succ]
          refine wpAnyH_take (i := 17) (oi := ⟨some 64, _, _, _, _, _⟩) (v := undef) rfl (by kernel_rfl) (by kernel_rfl) (by kernel_rfl) (fun _ _ _ h => h) (Or.inr ⟨by kernel_rfl, rfl⟩) (by assumption) ?_
          try simp only [Act.put, List.setIfInBounds_toArray, List.set_cons_zero, List.set_cons_succ]
          refine wpAnyH_take (i := 18) (oi := ⟨some 65, _, _, _, _, _⟩) (v := undef) rfl (by kernel_rfl) (by kernel_rfl) (by kernel_rfl) (fun _ _ _ h => h) (Or.inr ⟨by kernel_rfl, rfl⟩) (by assumption) ?_
          try simp only [Act.put, List.setIfInBounds_toArray, List.set_cons_zero, List.set_cons_succ]
          refine wpAnyH_take (i := 19) (oi := ⟨some 66, _, _, _, _, _⟩) (v := .bool false) rfl (by kernel_rfl) (by kernel_rfl) (by kernel_rfl) (fun _ _ _ h => h) (Or.inl ⟨by rfl, by (intro w hSw; (try dsimp only at hSw); go_simp)⟩) (by assumption) ?_
          try simp only [Act.put, List.setIfInBounds_toArray, List.set_cons_zero, List.set_cons_succ]
          refine wpAnyH_take (i := 20) (oi := ⟨some 2, _, _, _, _, _⟩) (v := .bool false) rfl (by kernel_rfl) (by kernel_rfl) (by kernel_rfl) (fun _ _ _ h => h) (Or.inl ⟨by rfl, by (intro w hSw; (try dsimp only at hSw); go_simp)⟩) (by assumption) ?_
          try simp only [Act.put, List.setIfInBounds_toArray, List.set_cons_zero, List.set_cons_succ]
          refine wpAnyH_done (by kernel_rfl) ?_ _
          go_wp2
          go_ret
          exact ⟨ret_bool HF.out.symm, hbd9⟩
        | true =>
          go_wp2_with fail
          have h8 : RoomAt w7.drew w7.drew.heap.size A1 n1 A2 n2 A3 n3 ms vs bs := h7
          have k8 : Blk w7.drew w.heap.size 28 #[.bool o, .slice A1 n1 c1, .slice A2 n2 c2, .slice A3 n3 c3] := k7
          have hbd8 : Below w.heap.size w w7.drew := hbd7.drew
          have ho8 : w7.drew.ownsRow w6.heap.size 2 1 (.slice A7 m7 c7) m7 ((mids ms ++ (iids vs ++ bids bs)).map i64v) := ho7
          go_region_held3 (fun w' => w'.cell? ⟨w.heap.size, 1, none⟩ = some (.slice A1 n1 c1) ∧ w'.cell? ⟨w.heap.size, 2, none⟩ = some (.slice A2 n2 c2) ∧ w'.cell? ⟨w.heap.size, 3, none⟩ = some (.slice A3 n3 c3)) (first | exact ⟨k8.cell 1, k8.cell 2, k8.cell 3⟩ | exact ⟨k9.cell 1, k9.cell 2, k9.cell 3⟩ | exact ⟨k10.cell 1, k10.cell 2, k10.cell 3⟩) ((first | (go_at_call 41; refine (containsOwner_any _ _ _ _ _ h8.1 (by omega)).mono ?_; rw [ao]; rintro e w9 ⟨rfl, hb9⟩; have k9 := k8.below hb9 k8.lt; have hbd9 := hbd8.trans (hb9.mono hbd8.size); have ho9 := own_below ho8 hb9 (Nat.le_refl _)) | (go_at_call 43; refine (setOf_any _ _ _ _ _ _ ho9 (by omega)).mono ?_; rintro e w10 ⟨m10, rfl, ho10, hg10⟩; have k10 := k9.grown hg10 (blk_apart k9 ho9 (by decide)); have hbd10 := below_own hbd9 ho9 hg10 hbB hbd9.size)))
          have hm10 : (setL (mids ms ++ (iids vs ++ bids bs))).length = m10 := by simpa using ho10.1
          have hw : IntKind.i64.wrap (IntKind.i64.wrap ((n1 : Int) + (n2 : Int)) + (n3 : Int)) = (n1 : Int) + n2 + n3 := by
            rw [IntWalk.i64_in ((n1 : Int) + (n2 : Int)) (by omega), IntWalk.i64_in _ (by omega)]
          have HF := Lib.hid (show ((m10 : Int) == IntKind.i64.wrap (IntKind.i64.wrap ((n1 : Int) + (n2 : Int)) + (n3 : Int))) = roomB ms vs bs by
            rw [hw]
            have q1 := HAM.out; have q2 := HAI.out; have q3 := HAB.out
            have e1 := HL1.out; have e2 := HL2.out; have e3 := HL3.out
            have hd := HD.out
            rw [hm10, e1, e2, e3] at hd
            rw [Bool.eq_iff_iff, beq_iff_eq]
            have s1 : membersB ms = true := by simp only [membersB, q1, ao, Bool.and_true, decide_eq_true_eq]; omega
            simp only [roomB, s1, invitesB, bansB, q2, q3, Bool.true_and, Bool.and_true, Bool.and_eq_true, decide_eq_true_eq]
            constructor
            · intro h
              obtain ⟨d1, d2⟩ := hd.1 (by omega)
              exact ⟨⟨by omega, d1⟩, by omega, d2⟩
            · rintro ⟨⟨_, d1⟩, _, d2⟩
              have := hd.2 ⟨d1, d2⟩
              omega)
          clear hw hm10
          go_wp2
          go_ret
          exact ⟨ret_bool HF.out, hbd10⟩
end Go.Proofs.YtmnmmjobplbflaaGreatDoor
