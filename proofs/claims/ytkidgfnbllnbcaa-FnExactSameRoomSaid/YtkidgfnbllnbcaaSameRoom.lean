/-
  SameRoom answers as its model for every two rooms, and leaves both as they were: the law returns true for every two rooms. No condition.
-/
import Derived.Test.YtkidgfnbllnbcaaRows
import Derived.WalkKit
import Derived.ProofKit
import Derived.OpenShut
import Derived.ShutString
import Derived.ChangeOld
import Derived.Below
import Derived.Lib.Hide
import Derived.Test.YtkidgfnbllnbcaaSameC
import Derived.Test.YtkidgfnbllnbcaaRoomA
import Derived.Test.YtkidgfnbllnbcaaRoomW
namespace Go.Proofs.Ytkidgfnbllnbcaa.fnExactSameRoom
open Go.ChangeShapes Go.WideShapes Go.ChangeAt Go.RowKit
open Go.ChangeMaps (open_string shut_string)
set_option linter.unusedVariables false
set_option maxRecDepth 20000 in
set_option maxHeartbeats 6400000 in
theorem walk (o : Bool) (A1 A2 A3 : Option Addr) (n1 c1 n2 c2 n3 c3 : Nat) (ms : List Mb) (vs : List Iv) (bs : List Bn) (o' : Bool) (A1' A2' A3' : Option Addr) (n1' c1' n2' c2' n3' c3' : Nat) (ms' : List Mb) (vs' : List Iv) (bs' : List Bn) (w : World) (h0 : RoomAt w w.heap.size A1 n1 A2 n2 A3 n3 ms vs bs) (hb : n1 ≤ maxLen ∧ n2 ≤ maxLen ∧ n3 ≤ maxLen) (h0' : RoomAt w w.heap.size A1' n1' A2' n2' A3' n3' ms' vs' bs') (hb' : n1' ≤ maxLen ∧ n2' ≤ maxLen ∧ n3' ≤ maxLen) :
    Calls Try.prog 4 #[.agg #[.bool o, .slice A1 n1 c1, .slice A2 n2 c2, .slice A3 n3 c3], .agg #[.bool o', .slice A1' n1' c1', .slice A2' n2' c2', .slice A3' n3' c3']] w fun e w' => e = .returned (.bool true) ∧ Below w.heap.size w w' := by
  obtain ⟨r, hr⟩ : ∃ z, sameRB o o' ms ms' vs vs' bs bs' = z := ⟨_, rfl⟩
  have HR := Lib.hid hr
  clear hr
  have hb1 : (n1 : Int) ≤ 9223372036854775807 := by have := hb.1; unfold maxLen at this; omega
  have hb2 : (n2 : Int) ≤ 9223372036854775807 := by have := hb.2.1; unfold maxLen at this; omega
  have hb3 : (n3 : Int) ≤ 9223372036854775807 := by have := hb.2.2; unfold maxLen at this; omega
  have hb1' : (n1' : Int) ≤ 9223372036854775807 := by have := hb'.1; unfold maxLen at this; omega
  have hb2' : (n2' : Int) ≤ 9223372036854775807 := by have := hb'.2.1; unfold maxLen at this; omega
  have hb3' : (n3' : Int) ≤ 9223372036854775807 := by have := hb'.2.2; unfold maxLen at this; omega
  clear hb hb'
  by_cases hA : n1 + n2 + n3 + n1' + n2' + n3' ≤ 1048576
  · have hn1 : n1 + n2 + n3 ≤ 1048576 := by omega
    have hn2 : n1' + n2' + n3' ≤ 1048576 := by omega
    clear hb1 hb2 hb3 hb1' hb2' hb3'
    go_enter Try.func4, Try.ntmps4
    go_wp2_with fail
    obtain ⟨k0, k1, hb⟩ := two_boxes w 26 26 #[.bool o, .slice A1 n1 c1, .slice A2 n2 c2, .slice A3 n3 c3] #[.bool o', .slice A1' n1' c1', .slice A2' n2' c2', .slice A3' n3' c3']
    generalize ((w.alloc (.cells #[.bool o, .slice A1 n1 c1, .slice A2 n2 c2, .slice A3 n3 c3] 26)).alloc (.cells #[.bool o', .slice A1' n1' c1', .slice A2' n2' c2', .slice A3' n3' c3'] 26)) = W at *
    have x1 : ¬ ((1048576 : Int) - (n1 : Int) - (n2 : Int) - (n3 : Int) < 0) := by omega
    have x2 : ¬ ((1048576 : Int) - (n1 : Int) - (n2 : Int) - (n3 : Int) - (n1' : Int) - (n2' : Int) - (n3' : Int) < 0) := by omega
    go_at_call 8; refine (szRoom_ok _ _ _ _ _ _ _ _ _ _ _ _ (by omega) (by omega)).mono ?_; rintro e w11 ⟨rfl, hbn⟩
    have k0 := k0.below hbn k0.lt
    have k1 := k1.below hbn k1.lt
    have hb := hb.trans (hbn.mono hb.size)
    clear hbn
    have k1l0 := k1.cell 0
    have k1l1 := k1.cell 1
    have k1l2 := k1.cell 2
    have k1l3 := k1.cell 3
    have k1lt := k1.lt
    go_wp2_with fail
    clear k1l0 k1l1 k1l2 k1l3 k1lt
    go_at_call 8; refine (szRoom_ok _ _ _ _ _ _ _ _ _ _ _ _ (by omega) (by omega)).mono ?_; rintro e w12 ⟨rfl, hbn⟩
    have k0 := k0.below hbn k0.lt
    have k1 := k1.below hbn k1.lt
    have hb := hb.trans (hbn.mono hb.size)
    clear hbn
    have k0l0 := k0.cell 0
    have k0l1 := k0.cell 1
    have k0l2 := k0.cell 2
    have k0l3 := k0.cell 3
    have k0lt := k0.lt
    have k1l0 := k1.cell 0
    have k1l1 := k1.cell 1
    have k1l2 := k1.cell 2
    have k1l3 := k1.cell 3
    have k1lt := k1.lt
    go_wp2_with fail
    clear k0l0 k0l1 k0l2 k0l3 k0lt
    clear k1l0 k1l1 k1l2 k1l3 k1lt
    have hbn : Below w12.heap.size w12 w12.drew := (Below.refl _ _).drew
    have k0 := k0.below hbn k0.lt
    have k1 := k1.below hbn k1.lt
    have hb := hb.trans (hbn.mono hb.size)
    clear hbn
    have h : RoomAt w12.drew w12.drew.heap.size A1 n1 A2 n2 A3 n3 ms vs bs := (h0.below hb).more hb.size
    have h' : RoomAt w12.drew w12.drew.heap.size A1' n1' A2' n2' A3' n3' ms' vs' bs' := (h0'.below hb).more hb.size
    go_region_held3 (fun w' => (w'.cell? ⟨w.heap.size, 0, none⟩ = some (.bool o) ∧ w'.cell? ⟨w.heap.size, 1, none⟩ = some (.slice A1 n1 c1) ∧ w'.cell? ⟨w.heap.size, 2, none⟩ = some (.slice A2 n2 c2) ∧ w'.cell? ⟨w.heap.size, 3, none⟩ = some (.slice A3 n3 c3)) ∧ (w'.cell? ⟨w.heap.size + 1, 0, none⟩ = some (.bool o') ∧ w'.cell? ⟨w.heap.size + 1, 1, none⟩ = some (.slice A1' n1' c1') ∧ w'.cell? ⟨w.heap.size + 1, 2, none⟩ = some (.slice A2' n2' c2') ∧ w'.cell? ⟨w.heap.size + 1, 3, none⟩ = some (.slice A3' n3' c3'))) (first | exact ⟨⟨k0_3.cell 0, k0_3.cell 1, k0_3.cell 2, k0_3.cell 3⟩, k1_3.cell 0, k1_3.cell 1, k1_3.cell 2, k1_3.cell 3⟩ | exact ⟨⟨k0_2.cell 0, k0_2.cell 1, k0_2.cell 2, k0_2.cell 3⟩, k1_2.cell 0, k1_2.cell 1, k1_2.cell 2, k1_2.cell 3⟩ | exact ⟨⟨k0_1.cell 0, k0_1.cell 1, k0_1.cell 2, k0_1.cell 3⟩, k1_1.cell 0, k1_1.cell 1, k1_1.cell 2, k1_1.cell 3⟩ | exact ⟨⟨k0.cell 0, k0.cell 1, k0.cell 2, k0.cell 3⟩, k1.cell 0, k1.cell 1, k1.cell 2, k1.cell 3⟩) ((first | (go_at_call 10; refine (toRoom_any _ _ _ _ _ _ _ _ _ _ _ _ _ _ h'_1 hn2).mono ?_; rintro e w14 ⟨U1, U2, U3, rfl, hou, hq2⟩; have k0_2 := k0_1.below hq2 k0_1.lt; have k1_2 := k1_1.below hq2 k1_1.lt; have hb_2 := hb_1.trans (hq2.mono hb_1.size); have hot_2 := hot.below hq2 (Nat.le_refl _)) | (go_at_call 10; refine (toRoom_any _ _ _ _ _ _ _ _ _ _ _ _ _ _ h hn1).mono ?_; rintro e w13 ⟨T1, T2, T3, rfl, hot, hq1⟩; have k0_1 := k0.below hq1 k0.lt; have k1_1 := k1.below hq1 k1.lt; have hb_1 := hb.trans (hq1.mono hb.size); have h'_1 := h'.to hq1) | (go_at_call 13; refine (spec_SameRoom_any _ _ _ _ _ _ _ _ _ _ _ _ _ _ _ _ _ _ _ _ _ _ _ _ _ _ _ hot_2.at_ hou.at_ hn1 hn2).mono ?_; rw [HR.out]; rintro e w15 ⟨rfl, hq3⟩; have k0_3 := k0_2.below hq3 k0_2.lt; have k1_3 := k1_2.below hq3 k1_2.lt; have hb_3 := hb_2.trans (hq3.mono hb_2.size))))
    clear h h' k0 k1 hb k0_1 k1_1 hb_1 k0_2 k1_2 hb_2 hot h'_1 hou hot_2 hq1 hq2 hq3
    have k0 := k0_3
    have k1 := k1_3
    have hb := hb_3
    clear k0_3 k1_3 hb_3
    have k0l0 := k0.cell 0
    have k0l1 := k0.cell 1
    have k0l2 := k0.cell 2
    have k0l3 := k0.cell 3
    have k0lt := k0.lt
    go_wp2_with fail
    clear k0l0 k0l1 k0l2 k0l3 k0lt
    have h := (h0.below hb).more hb.size
    have h' := (h0'.below hb).more hb.size
    go_at_call 10; refine (toRoom_any _ _ _ _ _ _ _ _ _ _ _ _ _ _ h hn1).mono ?_; rintro e w16 ⟨X1, X2, X3, rfl, hox, hbn⟩
    have k0 := k0.below hbn k0.lt
    have k1 := k1.below hbn k1.lt
    have hb := hb.trans (hbn.mono hb.size)
    clear hbn
    clear h h'
    have k1l0 := k1.cell 0
    have k1l1 := k1.cell 1
    have k1l2 := k1.cell 2
    have k1l3 := k1.cell 3
    have k1lt := k1.lt
    go_wp2_with fail
    clear k1l0 k1l1 k1l2 k1l3 k1lt
    obtain ⟨kx, hbn⟩ := one_box w16 33 #[.bool o, .slice (some ⟨X1, 0, none⟩) n1 n1, .slice (some ⟨X2, 0, none⟩) n2 n2, .slice (some ⟨X3, 0, none⟩) n3 n3]
    generalize w16.alloc (.cells #[.bool o, .slice (some ⟨X1, 0, none⟩) n1 n1, .slice (some ⟨X2, 0, none⟩) n2 n2, .slice (some ⟨X3, 0, none⟩) n3 n3] 33) = w17 at *
    have k0 := k0.below hbn k0.lt
    have k1 := k1.below hbn k1.lt
    have hox := hox.below hbn (Nat.le_refl _)
    have hb := hb.trans (hbn.mono hb.size)
    clear hbn
    have h := (h0.below hb).more hb.size
    have h' := (h0'.below hb).more hb.size
    go_at_call 10; refine (toRoom_any _ _ _ _ _ _ _ _ _ _ _ _ _ _ h' hn2).mono ?_; rintro e w18 ⟨Y1, Y2, Y3, rfl, hoy, hbn⟩
    have k0 := k0.below hbn k0.lt
    have k1 := k1.below hbn k1.lt
    have kx := kx.below hbn kx.lt
    have hox := hox.below hbn (Nat.le_refl _)
    have hb := hb.trans (hbn.mono hb.size)
    clear hbn
    clear h h'
    have kxl0 := kx.cell 0
    have kxl1 := kx.cell 1
    have kxl2 := kx.cell 2
    have kxl3 := kx.cell 3
    have kxlt := kx.lt
    go_wp2_with fail
    clear kxl0 kxl1 kxl2 kxl3 kxlt
    obtain ⟨ky, hbn⟩ := one_box w18 33 #[.bool o', .slice (some ⟨Y1, 0, none⟩) n1' n1', .slice (some ⟨Y2, 0, none⟩) n2' n2', .slice (some ⟨Y3, 0, none⟩) n3' n3']
    generalize w18.alloc (.cells #[.bool o', .slice (some ⟨Y1, 0, none⟩) n1' n1', .slice (some ⟨Y2, 0, none⟩) n2' n2', .slice (some ⟨Y3, 0, none⟩) n3' n3'] 33) = w19 at *
    have k0 := k0.below hbn k0.lt
    have k1 := k1.below hbn k1.lt
    have kx := kx.below hbn kx.lt
    have hox := hox.below hbn (Nat.le_refl _)
    have hoy := hoy.below hbn (Nat.le_refl _)
    have hb := hb.trans (hbn.mono hb.size)
    clear hbn
    go_at_call 14; refine (impl_SameRoom_any _ _ _ _ _ _ _ _ _ _ _ _ _ _ _ _ _ _ _ _ _ _ _ _ _ _ _ hox.at_ hoy.at_ hn1 hn2).mono ?_; rw [HR.out]; rintro e w20 ⟨rfl, hbn⟩
    have k0 := k0.below hbn k0.lt
    have k1 := k1.below hbn k1.lt
    have kx := kx.below hbn kx.lt
    have ky := ky.below hbn ky.lt
    have hox := hox.below hbn (Nat.le_refl _)
    have hoy := hoy.below hbn (Nat.le_refl _)
    have hb := hb.trans (hbn.mono hb.size)
    clear hbn
    have k0l0 := k0.cell 0
    have k0l1 := k0.cell 1
    have k0l2 := k0.cell 2
    have k0l3 := k0.cell 3
    have k0lt := k0.lt
    have kxl0 := kx.cell 0
    have kxl1 := kx.cell 1
    have kxl2 := kx.cell 2
    have kxl3 := kx.cell 3
    have kxlt := kx.lt
    go_wp2_with fail
    clear k0l0 k0l1 k0l2 k0l3 k0lt
    clear kxl0 kxl1 kxl2 kxl3 kxlt
    have hbn : Below w20.heap.size w20 w20.drew := (Below.refl _ _).drew
    have k0 := k0.below hbn k0.lt
    have k1 := k1.below hbn k1.lt
    have kx := kx.below hbn kx.lt
    have ky := ky.below hbn ky.lt
    have hox := hox.below hbn (Nat.le_refl _)
    have hoy := hoy.below hbn (Nat.le_refl _)
    have hb := hb.trans (hbn.mono hb.size)
    clear hbn
    have h : RoomAt w20.drew w20.drew.heap.size A1 n1 A2 n2 A3 n3 ms vs bs := (h0.below hb).more hb.size
    have h' : RoomAt w20.drew w20.drew.heap.size A1' n1' A2' n2' A3' n3' ms' vs' bs' := (h0'.below hb).more hb.size
    go_region_held3 (fun w' => (w'.cell? ⟨w.heap.size, 0, none⟩ = some (.bool o) ∧ w'.cell? ⟨w.heap.size, 1, none⟩ = some (.slice A1 n1 c1) ∧ w'.cell? ⟨w.heap.size, 2, none⟩ = some (.slice A2 n2 c2) ∧ w'.cell? ⟨w.heap.size, 3, none⟩ = some (.slice A3 n3 c3)) ∧ (w'.cell? ⟨w16.heap.size, 0, none⟩ = some (.bool o) ∧ w'.cell? ⟨w16.heap.size, 1, none⟩ = some (.slice (some ⟨X1, 0, none⟩) n1 n1) ∧ w'.cell? ⟨w16.heap.size, 2, none⟩ = some (.slice (some ⟨X2, 0, none⟩) n2 n2) ∧ w'.cell? ⟨w16.heap.size, 3, none⟩ = some (.slice (some ⟨X3, 0, none⟩) n3 n3))) (first | exact ⟨⟨k0_2.cell 0, k0_2.cell 1, k0_2.cell 2, k0_2.cell 3⟩, kx_2.cell 0, kx_2.cell 1, kx_2.cell 2, kx_2.cell 3⟩ | exact ⟨⟨k0_1.cell 0, k0_1.cell 1, k0_1.cell 2, k0_1.cell 3⟩, kx_1.cell 0, kx_1.cell 1, kx_1.cell 2, kx_1.cell 3⟩ | exact ⟨⟨k0.cell 0, k0.cell 1, k0.cell 2, k0.cell 3⟩, kx.cell 0, kx.cell 1, kx.cell 2, kx.cell 3⟩) ((first | (go_at_call 10; refine (toRoom_any _ _ _ _ _ _ _ _ _ _ _ _ _ _ h hn1).mono ?_; rintro e w21 ⟨p1, p2, p3, rfl, hop, hq1⟩; have k0_1 := k0.below hq1 k0.lt; have k1_1 := k1.below hq1 k1.lt; have kx_1 := kx.below hq1 kx.lt; have ky_1 := ky.below hq1 ky.lt; have hox_1 := hox.below hq1 (Nat.le_refl _); have hoy_1 := hoy.below hq1 (Nat.le_refl _); have hb_1 := hb.trans (hq1.mono hb.size)) | (go_at_call 12; refine (eqRoom_same _ _ _ _ _ _ _ _ _ _ _ _ _ _ _ _ _ _ _ _ _ _ _ hox_1.at_ hop.at_ hn1).mono ?_; rintro e w22 ⟨rfl, hq2⟩; have k0_2 := k0_1.below hq2 k0_1.lt; have k1_2 := k1_1.below hq2 k1_1.lt; have kx_2 := kx_1.below hq2 kx_1.lt; have ky_2 := ky_1.below hq2 ky_1.lt; have hox_2 := hox_1.below hq2 (Nat.le_refl _); have hoy_2 := hoy_1.below hq2 (Nat.le_refl _); have hb_2 := hb_1.trans (hq2.mono hb_1.size))))
    clear h h' k0 k1 kx ky hox hoy hb k0_1 k1_1 kx_1 ky_1 hox_1 hoy_1 hb_1 hop hq1 hq2
    have k0 := k0_2
    have k1 := k1_2
    have kx := kx_2
    have ky := ky_2
    have hox := hox_2
    have hoy := hoy_2
    have hb := hb_2
    clear k0_2 k1_2 kx_2 ky_2 hox_2 hoy_2 hb_2
    have k1l0 := k1.cell 0
    have k1l1 := k1.cell 1
    have k1l2 := k1.cell 2
    have k1l3 := k1.cell 3
    have k1lt := k1.lt
    have kyl0 := ky.cell 0
    have kyl1 := ky.cell 1
    have kyl2 := ky.cell 2
    have kyl3 := ky.cell 3
    have kylt := ky.lt
    go_wp2_with fail
    clear k1l0 k1l1 k1l2 k1l3 k1lt
    clear kyl0 kyl1 kyl2 kyl3 kylt
    have hbn : Below w22.heap.size w22 w22.drew := (Below.refl _ _).drew
    have k0 := k0.below hbn k0.lt
    have k1 := k1.below hbn k1.lt
    have kx := kx.below hbn kx.lt
    have ky := ky.below hbn ky.lt
    have hox := hox.below hbn (Nat.le_refl _)
    have hoy := hoy.below hbn (Nat.le_refl _)
    have hb := hb.trans (hbn.mono hb.size)
    clear hbn
    have h : RoomAt w22.drew w22.drew.heap.size A1 n1 A2 n2 A3 n3 ms vs bs := (h0.below hb).more hb.size
    have h' : RoomAt w22.drew w22.drew.heap.size A1' n1' A2' n2' A3' n3' ms' vs' bs' := (h0'.below hb).more hb.size
    go_region_held3 (fun w' => (w'.cell? ⟨w.heap.size + 1, 0, none⟩ = some (.bool o') ∧ w'.cell? ⟨w.heap.size + 1, 1, none⟩ = some (.slice A1' n1' c1') ∧ w'.cell? ⟨w.heap.size + 1, 2, none⟩ = some (.slice A2' n2' c2') ∧ w'.cell? ⟨w.heap.size + 1, 3, none⟩ = some (.slice A3' n3' c3')) ∧ (w'.cell? ⟨w18.heap.size, 0, none⟩ = some (.bool o') ∧ w'.cell? ⟨w18.heap.size, 1, none⟩ = some (.slice (some ⟨Y1, 0, none⟩) n1' n1') ∧ w'.cell? ⟨w18.heap.size, 2, none⟩ = some (.slice (some ⟨Y2, 0, none⟩) n2' n2') ∧ w'.cell? ⟨w18.heap.size, 3, none⟩ = some (.slice (some ⟨Y3, 0, none⟩) n3' n3'))) (first | exact ⟨⟨k1_2.cell 0, k1_2.cell 1, k1_2.cell 2, k1_2.cell 3⟩, ky_2.cell 0, ky_2.cell 1, ky_2.cell 2, ky_2.cell 3⟩ | exact ⟨⟨k1_1.cell 0, k1_1.cell 1, k1_1.cell 2, k1_1.cell 3⟩, ky_1.cell 0, ky_1.cell 1, ky_1.cell 2, ky_1.cell 3⟩ | exact ⟨⟨k1.cell 0, k1.cell 1, k1.cell 2, k1.cell 3⟩, ky.cell 0, ky.cell 1, ky.cell 2, ky.cell 3⟩) ((first | (go_at_call 10; refine (toRoom_any _ _ _ _ _ _ _ _ _ _ _ _ _ _ h' hn2).mono ?_; rintro e w23 ⟨p1, p2, p3, rfl, hop, hq1⟩; have k0_1 := k0.below hq1 k0.lt; have k1_1 := k1.below hq1 k1.lt; have kx_1 := kx.below hq1 kx.lt; have ky_1 := ky.below hq1 ky.lt; have hox_1 := hox.below hq1 (Nat.le_refl _); have hoy_1 := hoy.below hq1 (Nat.le_refl _); have hb_1 := hb.trans (hq1.mono hb.size)) | (go_at_call 12; refine (eqRoom_same _ _ _ _ _ _ _ _ _ _ _ _ _ _ _ _ _ _ _ _ _ _ _ hoy_1.at_ hop.at_ hn2).mono ?_; rintro e w24 ⟨rfl, hq2⟩; have k0_2 := k0_1.below hq2 k0_1.lt; have k1_2 := k1_1.below hq2 k1_1.lt; have kx_2 := kx_1.below hq2 kx_1.lt; have ky_2 := ky_1.below hq2 ky_1.lt; have hox_2 := hox_1.below hq2 (Nat.le_refl _); have hoy_2 := hoy_1.below hq2 (Nat.le_refl _); have hb_2 := hb_1.trans (hq2.mono hb_1.size))))
    go_wp2
    go_ret
    exact ⟨rfl, hb_2⟩
  by_cases hn1 : n1 + n2 + n3 ≤ 1048576
  · go_enter Try.func4, Try.ntmps4
    go_wp2_with fail
    obtain ⟨k0, k1, hb⟩ := two_boxes w 26 26 #[.bool o, .slice A1 n1 c1, .slice A2 n2 c2, .slice A3 n3 c3] #[.bool o', .slice A1' n1' c1', .slice A2' n2' c2', .slice A3' n3' c3']
    generalize ((w.alloc (.cells #[.bool o, .slice A1 n1 c1, .slice A2 n2 c2, .slice A3 n3 c3] 26)).alloc (.cells #[.bool o', .slice A1' n1' c1', .slice A2' n2' c2', .slice A3' n3' c3'] 26)) = W at *
    have x1 : ¬ ((1048576 : Int) - (n1 : Int) - (n2 : Int) - (n3 : Int) < 0) := by omega
    go_at_call 8; refine (szRoom_ok _ _ _ _ _ _ _ _ _ _ _ _ (by omega) (by omega)).mono ?_; rintro e w1 ⟨rfl, hbn⟩
    have k1 := k1.below hbn k1.lt
    have hb := hb.trans (hbn.mono hb.size)
    clear hbn
    have l0 := k1.cell 0; have l1 := k1.cell 1; have l2 := k1.cell 2; have l3 := k1.cell 3
    go_wp2_with fail
    go_at_call 8; refine (szRoom_no _ _ _ _ _ _ _ _ _ _ _ _ (by omega) (by omega) (by omega) hb1' hb2' hb3').mono ?_; rintro e w2 ⟨rfl, hbn⟩
    go_wp2
    go_ret
    exact ⟨rfl, hb.trans (hbn.mono hb.size)⟩
  · go_enter Try.func4, Try.ntmps4
    go_wp2_with fail
    obtain ⟨k0, k1, hb⟩ := two_boxes w 26 26 #[.bool o, .slice A1 n1 c1, .slice A2 n2 c2, .slice A3 n3 c3] #[.bool o', .slice A1' n1' c1', .slice A2' n2' c2', .slice A3' n3' c3']
    go_at_call 8; refine (szRoom_no _ _ _ _ _ _ _ _ _ _ _ _ (by omega) (by omega) (by omega) hb1 hb2 hb3).mono ?_; rintro e w1 ⟨rfl, hbn⟩
    go_wp2
    go_ret
    exact ⟨rfl, hb.trans (hbn.mono hb.size)⟩

theorem own : ownKnob Try.prog.godebug = none := by kernel_rfl
theorem laidOut : laidOutB Try.prog = true := by kernel_rfl
set_option maxRecDepth 100000 in
theorem lifted (os : Os) (started : os.Started) (H : Type) (enc : TypeId × Value → H) :
    ReturnsInHanded {} Try.checked os 4 .any (Rows.fnExactSameRoomSpec.pre6 enc Try.prog Try.f4 Rows.fnExactSameRoomRow.domain false) (Rows.fnExactSameRoomSpec.post enc Try.prog Try.f4 false true false false) := by
  refine returnsInHanded_of_change (C := Try.checked) own started (by kernel_rfl) Try.func4
    (ChangeSpec.witness6 (enc := enc) (C := Try.checked) false ⟨#[], #[.agg #[.bool false, .slice none 0 0, .slice none 0 0, .slice none 0 0], .agg #[.bool false, .slice none 0 0, .slice none 0 0, .slice none 0 0]], []⟩ 8 (by kernel_rfl) (by kernel_rfl) (by kernel_rfl) (by kernel_rfl)) ?_
  intro W base args ds gs before hval0 hW hcnd _
  have hval : ∀ (j : Nat) t v, Try.f4.params[j]? = some t → args[j]? = some v → Value.okWide Try.prog W .any base t v := hval0
  have hW' := hW
  obtain ⟨p, q, hA0, hV, rfl, hfz, hnd⟩ := hW
  have hA : DataW.TrodAll enc Try.prog W 0 (fun _ => true) true Try.f4.params.toList args.toList ds p := hA0
  rw [Try.params4] at hA hval
  obtain ⟨v0, vs0, d0, ds0, p0, q0, hargs, rfl, rfl, h0, r0⟩ := trodAll_cons hA
  obtain ⟨v1, vs1, d1, ds1, p1, q1, rfl, rfl, rfl, h1, r1⟩ := trodAll_cons r0
  obtain ⟨rfl, rfl, rfl⟩ := trodAll_nil r1
  obtain rfl : args = #[v0, v1] := by cases args; simp_all
  obtain ⟨rfl, rfl⟩ := trodVars_none hV
  have k0 := h0
  have lt0 : ∀ x ∈ p0, x.block < W.heap.size := by obtain ⟨m, hm⟩ := k0; exact DataW.trod_lt m _ _ _ hm
  obtain ⟨o0, A0, n0, c0, B0, m0, d0', C0, l0, e0, ms0, vs0, bs0, rfl, w0, u0⟩ := open_room (hval 0 26 v0 rfl rfl) h0
  have k1 := h1
  have lt1 : ∀ x ∈ p1, x.block < W.heap.size := by obtain ⟨m, hm⟩ := k1; exact DataW.trod_lt m _ _ _ hm
  obtain ⟨o1, A1, n1, c1, B1, m1, d1', C1, l1, e1, ms1, vs1, bs1, rfl, w1, u1⟩ := open_room (hval 1 26 v1 rfl rfl) h1
  clear hA0 hval0
  refine (walk o0 A0 B0 C0 n0 c0 m0 d0' l0 e0 ms0 vs0 bs0 o1 A1 B1 C1 n1 c1 m1 d1' l1 e1 ms1 vs1 bs1 W w0 u0 w1 u1).mono fun e W' ⟨he, bel⟩ => ?_
  subst he
  exact ⟨_, rfl, _, _, _, [], _, [], hW', trodAll_mk1 (shut_bool Try.underlying4 _), (trodAll_cons_mk (Below.trod laidOut (by kernel_rfl) (of_decide_eq_true (by kernel_rfl)) k0 bel lt0) (trodAll_cons_mk (Below.trod laidOut (by kernel_rfl) (of_decide_eq_true (by kernel_rfl)) k1 bel lt1) trodAll_mk0)), rfl, bel.frame _, fun h => by cases h⟩

theorem over : Rows.fnExactSameRoomRow.holds Try.pinned (OpenSpec.ofChange Rows.fnExactSameRoomSpec) :=
  OpenClaim.holds_of_wide 4 Try.f4 rfl rfl rfl rfl rfl rfl rfl ⟨rfl, rfl, rfl, rfl, rfl⟩ rfl rfl rfl rfl rfl (by kernel_rfl) Try.func4 (by kernel_rfl)
    (of_decide_eq_true (by kernel_rfl)) (by unfold Func.isWrapper; first | (rw [if_pos (by decide +kernel)]; kernel_rfl) | (rw [if_neg (by decide +kernel)]; exact ⟨rfl, rfl⟩))
    (fun os started H enc _ => lifted os started H enc)

theorem proved : Rows.FnExactSameRoomSaid := over
#print axioms proved
end Go.Proofs.Ytkidgfnbllnbcaa.fnExactSameRoom
