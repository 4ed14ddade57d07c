/-
  LeaveRoom answers as its model for every room and all numbers, every field, writes into no argument, and its answer owns its memory: the law returns true for all arguments. The row's own condition 'laid' (the package's two errors hold what their initialisers laid) is tied to the program's text by the card.
-/
import Derived.Test.YtmnmmjobplbflaaGreatDoorRows
import Derived.Test.YtmnmmjobplbflaaGreatDoorTie
import Derived.Test.YtmnmmjobplbflaaGreatDoorCards
import Derived.SevenTiedAt
import Derived.LaidMore
import Derived.Lay
import Derived.Stop.Joined
import Derived.WalkKit
import Derived.ProofKit
import Derived.OpenShut
import Derived.ShutString
import Derived.ChangeOld
import Derived.Below
import Derived.Lib.Hide
import Derived.Test.YtmnmmjobplbflaaGreatDoorZDeedV
import Derived.Test.YtmnmmjobplbflaaGreatDoorZSpecLr
import Derived.Test.YtmnmmjobplbflaaGreatDoorZLaidR
import Derived.Test.YtmnmmjobplbflaaGreatDoorZRoomA
import Derived.Test.YtmnmmjobplbflaaGreatDoorExactLeaveRoomF
namespace Go.Proofs.YtmnmmjobplbflaaGreatDoor.fnExactLeaveRoom
open Go.ChangeShapes Go.WideShapes Go.ChangeAt Go.RowKit
open Go.ChangeMaps (open_string shut_string)
set_option linter.unusedVariables false
set_option maxHeartbeats 6400000 in
theorem walk_all {w : World} {a b : Addr} (he0 : ErrN w a) (hR0 : ErrR w b) (o : Bool) (A1 A2 A3 : Option Addr) (n1 c1 n2 c2 n3 c3 : Nat) (ms : List Mb) (vs : List Iv) (bs : List Bn) (t : Int) (h0 : RoomAt w w.heap.size A1 n1 A2 n2 A3 n3 ms vs bs) (hb : n1 ≤ maxLen ∧ n2 ≤ maxLen ∧ n3 ≤ maxLen) (wft : (Lit.int .i64 t).wf = true) :
    Calls Tryz.prog 5 #[.agg #[.bool o, .slice A1 n1 c1, .slice A2 n2 c2, .slice A3 n3 c3], .int .i64 t] w fun e w' => e = .returned (.bool true) ∧ Below w.heap.size w w' := by
  obtain ⟨r, hr⟩ : ∃ z, leaveS o ms vs bs t = z := ⟨_, rfl⟩
  have HR := Lib.hid hr
  clear hr
  by_cases hn : n1 + n2 + n3 ≤ 1048576
  · clear hb
    go_enter Tryz.func5, Tryz.ntmps5
    go_wp2_with fail
    obtain ⟨k00, hb⟩ := one_box w 51 #[.bool o, .slice A1 n1 c1, .slice A2 n2 c2, .slice A3 n3 c3]
    have hc := Below.refl (w.heap.size + 1) (w.alloc (.cells #[.bool o, .slice A1 n1 c1, .slice A2 n2 c2, .slice A3 n3 c3] 51))
    have hcz : w.heap.size + 1 ≤ (w.alloc (.cells #[.bool o, .slice A1 n1 c1, .slice A2 n2 c2, .slice A3 n3 c3] 51)).heap.size := by simp
    generalize w.alloc (.cells #[.bool o, .slice A1 n1 c1, .slice A2 n2 c2, .slice A3 n3 c3] 51) = W1 at *
    have x1 : ¬ ((1048576 : Int) - (n1 : Int) - (n2 : Int) - (n3 : Int) < 0) := by omega
    go_at_call 19; refine (szRoom_ok _ _ _ _ _ _ _ _ _ _ _ _ (by omega) (by omega)).mono ?_; rintro e w11 ⟨rfl, hbn⟩
    have hc := hc.trans (hbn.mono (Nat.le_trans hcz hc.size))
    have hb := hb.trans (hbn.mono hb.size)
    clear hbn
    have k0 := k00.below hc (Nat.lt_succ_self _)
    have al0 := k0.cell 0
    have al1 := k0.cell 1
    have al2 := k0.cell 2
    have al3 := k0.cell 3
    have alt := k0.lt
    go_wp2_with fail
    clear al0 al1 al2 al3 alt k0
    have h := (h0.below hb).more hb.size
    go_at_call 21; refine (toRoom_any _ _ _ _ _ _ _ _ _ _ _ _ _ _ h hn).mono ?_; rintro e w12 ⟨T1, T2, T3, rfl, hot, hbn⟩
    have hc := hc.trans (hbn.mono (Nat.le_trans hcz hc.size))
    have hb := hb.trans (hbn.mono hb.size)
    clear hbn
    clear h
    go_wp2_with fail
    go_at_call 20; refine (spec_LeaveRoom_any _ _ _ _ _ _ _ _ _ _ _ _ _ _ _ hot.at_ hn).mono ?_; rw [HR.out]; rintro e w13 ⟨V1, Vn1, Vc1, V2, Vn2, Vc2, V3, Vn3, Vc3, rfl, how, hbn, hows⟩
    have hot := hot.below hbn (Nat.le_refl _)
    have hc := hc.trans (hbn.mono (Nat.le_trans hcz hc.size))
    have hb := hb.trans (hbn.mono hb.size)
    clear hbn
    clear hot
    have k0 := k00.below hc (Nat.lt_succ_self _)
    have al0 := k0.cell 0
    have al1 := k0.cell 1
    have al2 := k0.cell 2
    have al3 := k0.cell 3
    have alt := k0.lt
    go_wp2_with fail
    clear al0 al1 al2 al3 alt k0
    obtain ⟨kw, hbn⟩ := one_box w13 28 #[.bool r.o, .slice V1 Vn1 Vc1, .slice V2 Vn2 Vc2, .slice V3 Vn3 Vc3]
    generalize w13.alloc (.cells #[.bool r.o, .slice V1 Vn1 Vc1, .slice V2 Vn2 Vc2, .slice V3 Vn3 Vc3] 28) = w14 at *
    have how := how.below hbn (Nat.le_refl _)
    have hc := hc.trans (hbn.mono (Nat.le_trans hcz hc.size))
    have hb := hb.trans (hbn.mono hb.size)
    clear hbn
    have h := (h0.below hb).more hb.size
    go_at_call 21; refine (toRoom_any _ _ _ _ _ _ _ _ _ _ _ _ _ _ h hn).mono ?_; rintro e w15 ⟨X1, X2, X3, rfl, hox, hbn⟩
    have xB : w.heap.size + 1 ≤ w14.heap.size := Nat.le_trans hcz hc.size
    have nwx := room_off how hox
    have kw := kw.below hbn kw.lt
    have how := how.below hbn (Nat.le_refl _)
    have hc := hc.trans (hbn.mono (Nat.le_trans hcz hc.size))
    have hb := hb.trans (hbn.mono hb.size)
    clear hbn
    clear h
    go_wp2_with fail
    obtain ⟨kx, hbn⟩ := one_box w15 28 #[.bool o, .slice (some ⟨X1, 0, none⟩) n1 n1, .slice (some ⟨X2, 0, none⟩) n2 n2, .slice (some ⟨X3, 0, none⟩) n3 n3]
    generalize w15.alloc (.cells #[.bool o, .slice (some ⟨X1, 0, none⟩) n1 n1, .slice (some ⟨X2, 0, none⟩) n2 n2, .slice (some ⟨X3, 0, none⟩) n3 n3] 28) = w16 at *
    have kw := kw.below hbn kw.lt
    have how := how.below hbn (Nat.le_refl _)
    have hox := hox.below hbn (Nat.le_refl _)
    have hc := hc.trans (hbn.mono (Nat.le_trans hcz hc.size))
    have hb := hb.trans (hbn.mono hb.size)
    clear hbn
    go_at_call 11; refine (impl_LeaveRoom_any _ _ _ _ _ _ _ _ _ _ _ _ _ _ _ hox.at_ hn (he0.below hb) (hR0.below hb) wft).mono ?_; rw [HR.out]; rintro e w17 ⟨G1, Gn1, Gc1, G2, Gn2, Gc2, G3, Gn3, Gc3, rfl, hog, hbn, hogs⟩
    have nwg := room_off how hog
    have ngx := room_off' hox hog
    have gB : w.heap.size + 1 ≤ w16.heap.size := Nat.le_trans hcz hc.size
    have kw := kw.below hbn kw.lt
    have kx := kx.below hbn kx.lt
    have how := how.below hbn (Nat.le_refl _)
    have hox := hox.below hbn (Nat.le_refl _)
    have hc := hc.trans (hbn.mono (Nat.le_trans hcz hc.size))
    have hb := hb.trans (hbn.mono hb.size)
    clear hbn
    have kwl0 := kw.cell 0
    have kwl1 := kw.cell 1
    have kwl2 := kw.cell 2
    have kwl3 := kw.cell 3
    have kwlt := kw.lt
    go_wp2_with fail
    clear kwl0 kwl1 kwl2 kwl3 kwlt
    obtain ⟨kg, hbn⟩ := one_box w17 28 #[.bool r.o, .slice G1 Gn1 Gc1, .slice G2 Gn2 Gc2, .slice G3 Gn3 Gc3]
    generalize w17.alloc (.cells #[.bool r.o, .slice G1 Gn1 Gc1, .slice G2 Gn2 Gc2, .slice G3 Gn3 Gc3] 28) = w18 at *
    have kw := kw.below hbn kw.lt
    have kx := kx.below hbn kx.lt
    have how := how.below hbn (Nat.le_refl _)
    have hox := hox.below hbn (Nat.le_refl _)
    have hog := hog.below hbn (Nat.le_refl _)
    have hc := hc.trans (hbn.mono (Nat.le_trans hcz hc.size))
    have hb := hb.trans (hbn.mono hb.size)
    clear hbn
    go_at_call 22; refine (eqRoom_same _ _ _ _ _ _ _ _ _ _ _ _ _ _ _ _ _ _ _ _ _ _ _ hog.at_ how.at_ hogs).mono ?_; rintro e w19 ⟨rfl, hbn⟩
    have kw := kw.below hbn kw.lt
    have kx := kx.below hbn kx.lt
    have kg := kg.below hbn kg.lt
    have how := how.below hbn (Nat.le_refl _)
    have hox := hox.below hbn (Nat.le_refl _)
    have hog := hog.below hbn (Nat.le_refl _)
    have hc := hc.trans (hbn.mono (Nat.le_trans hcz hc.size))
    have hb := hb.trans (hbn.mono hb.size)
    clear hbn
    have k0 := k00.below hc (Nat.lt_succ_self _)
    have al0 := k0.cell 0
    have al1 := k0.cell 1
    have al2 := k0.cell 2
    have al3 := k0.cell 3
    have alt := k0.lt
    have kxl0 := kx.cell 0
    have kxl1 := kx.cell 1
    have kxl2 := kx.cell 2
    have kxl3 := kx.cell 3
    have kxlt := kx.lt
    go_wp2_with fail
    clear kxl0 kxl1 kxl2 kxl3 kxlt
    clear al0 al1 al2 al3 alt k0
    have k0 := k00.below hc (Nat.lt_succ_self _)
    have h := (h0.below hb).more hb.size
    have hbn : Below w19.heap.size w19 w19.drew := (Below.refl _ _).drew
    have k0 := k0.below hbn k0.lt
    have kw := kw.below hbn kw.lt
    have kx := kx.below hbn kx.lt
    have kg := kg.below hbn kg.lt
    have how := how.below hbn (Nat.le_refl _)
    have hox := hox.below hbn (Nat.le_refl _)
    have hog := hog.below hbn (Nat.le_refl _)
    have hc := hc.trans (hbn.mono (Nat.le_trans hcz hc.size))
    have hb := hb.trans (hbn.mono hb.size)
    have h : RoomAt w19.drew w19.drew.heap.size A1 n1 A2 n2 A3 n3 ms vs bs := h
    clear hbn
    go_region_held3 (fun w' => (w'.cell? ⟨w.heap.size, 0, none⟩ = some (.bool o) ∧ w'.cell? ⟨w.heap.size, 1, none⟩ = some (.slice A1 n1 c1) ∧ w'.cell? ⟨w.heap.size, 2, none⟩ = some (.slice A2 n2 c2) ∧ w'.cell? ⟨w.heap.size, 3, none⟩ = some (.slice A3 n3 c3)) ∧ (w'.cell? ⟨w15.heap.size, 0, none⟩ = some (.bool o) ∧ w'.cell? ⟨w15.heap.size, 1, none⟩ = some (.slice (some ⟨X1, 0, none⟩) n1 n1) ∧ w'.cell? ⟨w15.heap.size, 2, none⟩ = some (.slice (some ⟨X2, 0, none⟩) n2 n2) ∧ w'.cell? ⟨w15.heap.size, 3, none⟩ = some (.slice (some ⟨X3, 0, none⟩) n3 n3))) (first | exact ⟨⟨k0_8.cell 0, k0_8.cell 1, k0_8.cell 2, k0_8.cell 3⟩, kx_8.cell 0, kx_8.cell 1, kx_8.cell 2, kx_8.cell 3⟩ | exact ⟨⟨k0_7.cell 0, k0_7.cell 1, k0_7.cell 2, k0_7.cell 3⟩, kx_7.cell 0, kx_7.cell 1, kx_7.cell 2, kx_7.cell 3⟩ | exact ⟨⟨k0.cell 0, k0.cell 1, k0.cell 2, k0.cell 3⟩, kx.cell 0, kx.cell 1, kx.cell 2, kx.cell 3⟩) ((first | (go_at_call 21; refine (toRoom_any _ _ _ _ _ _ _ _ _ _ _ _ _ _ h hn).mono ?_; rintro e w20 ⟨y1, y2, y3, rfl, ho7, hq7⟩; have k0_7 := k0.below hq7 k0.lt; have kw_7 := kw.below hq7 kw.lt; have kx_7 := kx.below hq7 kx.lt; have kg_7 := kg.below hq7 kg.lt; have how_7 := how.below hq7 (Nat.le_refl _); have hox_7 := hox.below hq7 (Nat.le_refl _); have hog_7 := hog.below hq7 (Nat.le_refl _); have hc_7 := hc.trans (hq7.mono (Nat.le_trans hcz hc.size)); have hb_7 := hb.trans (hq7.mono hb.size)) | (go_at_call 22; refine (eqRoom_same _ _ _ _ _ _ _ _ _ _ _ _ _ _ _ _ _ _ _ _ _ _ _ hox_7.at_ ho7.at_ hn).mono ?_; rintro e w21 ⟨rfl, hq8⟩; have k0_8 := k0_7.below hq8 k0_7.lt; have kw_8 := kw_7.below hq8 kw_7.lt; have kx_8 := kx_7.below hq8 kx_7.lt; have kg_8 := kg_7.below hq8 kg_7.lt; have how_8 := how_7.below hq8 (Nat.le_refl _); have hox_8 := hox_7.below hq8 (Nat.le_refl _); have hog_8 := hog_7.below hq8 (Nat.le_refl _); have hc_8 := hc_7.trans (hq8.mono (Nat.le_trans hcz hc_7.size)); have hb_8 := hb_7.trans (hq8.mono hb_7.size))))
    clear k0 h kw kx kg how hox hog hc hb k0_7 kw_7 kx_7 kg_7 how_7 hox_7 hog_7 hc_7 hb_7 ho7 hq7 hq8
    have kw := kw_8
    have kx := kx_8
    have kg := kg_8
    have how := how_8
    have hox := hox_8
    have hog := hog_8
    have hc := hc_8
    have hb := hb_8
    clear k0_8 kw_8 kx_8 kg_8 how_8 hox_8 hog_8 hc_8 hb_8
    have kxl0 := kx.cell 0
    have kxl1 := kx.cell 1
    have kxl2 := kx.cell 2
    have kxl3 := kx.cell 3
    have kxlt := kx.lt
    go_wp2_with fail
    clear kxl0 kxl1 kxl2 kxl3 kxlt
    go_at_call 23; refine (markRoom_any _ _ _ _ _ _ _ _ _ _ 1 _ _ _ _ _ hox hn (by omega)).mono ?_; rintro e w22 ⟨rfl, hm, hkp, hbl, hsz, hbk⟩
    have kw := hbk _ _ _ kw (by decide) (by decide) (by decide)
    have kx := hbk _ _ _ kx (by decide) (by decide) (by decide)
    have kg := hbk _ _ _ kg (by decide) (by decide) (by decide)
    have how := room_kept how hkp nwx
    have hog := room_kept hog hkp ngx
    have hb := hbl _ _ hb (Nat.le_trans (Nat.le_succ _) xB) hb.size
    have hc := hbl _ _ hc xB (Nat.le_trans hcz hc.size)
    clear hm hkp hbl hsz hbk hox
    have xk : ¬ (((1 + n1 * 4 + n2 * 3 + n3 * 2 : Nat) : Int) < 0) := by omega
    have kgl0 := kg.cell 0
    have kgl1 := kg.cell 1
    have kgl2 := kg.cell 2
    have kgl3 := kg.cell 3
    have kglt := kg.lt
    have kwl0 := kw.cell 0
    have kwl1 := kw.cell 1
    have kwl2 := kw.cell 2
    have kwl3 := kw.cell 3
    have kwlt := kw.lt
    go_wp2_with fail
    clear kgl0 kgl1 kgl2 kgl3 kglt
    clear kwl0 kwl1 kwl2 kwl3 kwlt
    go_at_call 22; refine (eqRoom_same _ _ _ _ _ _ _ _ _ _ _ _ _ _ _ _ _ _ _ _ _ _ _ hog.at_ how.at_ hogs).mono ?_; rintro e w23 ⟨rfl, hbn⟩
    have kw := kw.below hbn kw.lt
    have kx := kx.below hbn kx.lt
    have kg := kg.below hbn kg.lt
    have how := how.below hbn (Nat.le_refl _)
    have hog := hog.below hbn (Nat.le_refl _)
    have hc := hc.trans (hbn.mono (Nat.le_trans hcz hc.size))
    have hb := hb.trans (hbn.mono hb.size)
    clear hbn
    have kgl0 := kg.cell 0
    have kgl1 := kg.cell 1
    have kgl2 := kg.cell 2
    have kgl3 := kg.cell 3
    have kglt := kg.lt
    go_wp2_with fail
    clear kgl0 kgl1 kgl2 kgl3 kglt
    go_at_call 23; refine (markRoom_any _ _ _ _ _ _ _ _ _ _ 1 _ _ _ _ _ hog hogs (by omega)).mono ?_; rintro e w24 ⟨rfl, hm, hkp, hbl, hsz, hbk⟩
    have kw := hbk _ _ _ kw (by decide) (by decide) (by decide)
    have kx := hbk _ _ _ kx (by decide) (by decide) (by decide)
    have kg := hbk _ _ _ kg (by decide) (by decide) (by decide)
    have how := room_kept how hkp nwg
    have hb := hbl _ _ hb (Nat.le_trans (Nat.le_succ _) gB) hb.size
    have hc := hbl _ _ hc gB (Nat.le_trans hcz hc.size)
    have hog := hm
    clear hm hkp hbl hsz hbk
    have kgl0 := kg.cell 0
    have kgl1 := kg.cell 1
    have kgl2 := kg.cell 2
    have kgl3 := kg.cell 3
    have kglt := kg.lt
    go_wp2_with fail
    clear kgl0 kgl1 kgl2 kgl3 kglt
    go_at_call 24; refine (heldRoom_any _ _ _ _ _ _ _ _ _ _ 1 _ hog.at_ hogs (by omega)).mono ?_; rintro e w25 ⟨rfl, hbn⟩
    have kw := kw.below hbn kw.lt
    have kx := kx.below hbn kx.lt
    have kg := kg.below hbn kg.lt
    have how := how.below hbn (Nat.le_refl _)
    have hog := hog.below hbn (Nat.le_refl _)
    have hc := hc.trans (hbn.mono (Nat.le_trans hcz hc.size))
    have hb := hb.trans (hbn.mono hb.size)
    clear hbn
    have k0 := k00.below hc (Nat.lt_succ_self _)
    have al0 := k0.cell 0
    have al1 := k0.cell 1
    have al2 := k0.cell 2
    have al3 := k0.cell 3
    have alt := k0.lt
    go_wp2_with fail
    clear al0 al1 al2 al3 alt k0
    have h := (h0.below hb).more hb.size
    go_at_call 21; refine (toRoom_any _ _ _ _ _ _ _ _ _ _ _ _ _ _ h hn).mono ?_; rintro e w26 ⟨Y1, Y2, Y3, rfl, hoy, hbn⟩
    have kw := kw.below hbn kw.lt
    have kx := kx.below hbn kx.lt
    have kg := kg.below hbn kg.lt
    have how := how.below hbn (Nat.le_refl _)
    have hog := hog.below hbn (Nat.le_refl _)
    have hc := hc.trans (hbn.mono (Nat.le_trans hcz hc.size))
    have hb := hb.trans (hbn.mono hb.size)
    clear hbn
    clear h
    go_wp2_with fail
    go_at_call 11; refine (impl_LeaveRoom_any _ _ _ _ _ _ _ _ _ _ _ _ _ _ _ hoy.at_ hn (he0.below hb) (hR0.below hb) wft).mono ?_; rw [HR.out]; rintro e w27 ⟨H1, Hn1, Hc1, H2, Hn2, Hc2, H3, Hn3, Hc3, rfl, hoh, hbn, hohs⟩
    have kw := kw.below hbn kw.lt
    have kx := kx.below hbn kx.lt
    have kg := kg.below hbn kg.lt
    have how := how.below hbn (Nat.le_refl _)
    have hog := hog.below hbn (Nat.le_refl _)
    have hoy := hoy.below hbn (Nat.le_refl _)
    have hc := hc.trans (hbn.mono (Nat.le_trans hcz hc.size))
    have hb := hb.trans (hbn.mono hb.size)
    clear hbn
    clear hoy
    have kwl0 := kw.cell 0
    have kwl1 := kw.cell 1
    have kwl2 := kw.cell 2
    have kwl3 := kw.cell 3
    have kwlt := kw.lt
    go_wp2_with fail
    clear kwl0 kwl1 kwl2 kwl3 kwlt
    obtain ⟨kh, hbn⟩ := one_box w27 28 #[.bool r.o, .slice H1 Hn1 Hc1, .slice H2 Hn2 Hc2, .slice H3 Hn3 Hc3]
    generalize w27.alloc (.cells #[.bool r.o, .slice H1 Hn1 Hc1, .slice H2 Hn2 Hc2, .slice H3 Hn3 Hc3] 28) = w28 at *
    have kw := kw.below hbn kw.lt
    have kx := kx.below hbn kx.lt
    have kg := kg.below hbn kg.lt
    have how := how.below hbn (Nat.le_refl _)
    have hog := hog.below hbn (Nat.le_refl _)
    have hoh := hoh.below hbn (Nat.le_refl _)
    have hc := hc.trans (hbn.mono (Nat.le_trans hcz hc.size))
    have hb := hb.trans (hbn.mono hb.size)
    clear hbn
    go_at_call 22; refine (eqRoom_same _ _ _ _ _ _ _ _ _ _ _ _ _ _ _ _ _ _ _ _ _ _ _ hoh.at_ how.at_ hohs).mono ?_; rintro e w29 ⟨rfl, hbn⟩
    have kw := kw.below hbn kw.lt
    have kx := kx.below hbn kx.lt
    have kg := kg.below hbn kg.lt
    have kh := kh.below hbn kh.lt
    have how := how.below hbn (Nat.le_refl _)
    have hog := hog.below hbn (Nat.le_refl _)
    have hoh := hoh.below hbn (Nat.le_refl _)
    have hc := hc.trans (hbn.mono (Nat.le_trans hcz hc.size))
    have hb := hb.trans (hbn.mono hb.size)
    clear hbn
    have kgl0 := kg.cell 0
    have kgl1 := kg.cell 1
    have kgl2 := kg.cell 2
    have kgl3 := kg.cell 3
    have kglt := kg.lt
    go_wp2_with fail
    clear kgl0 kgl1 kgl2 kgl3 kglt
    go_at_call 24; refine (heldRoom_any _ _ _ _ _ _ _ _ _ _ 1 _ hog.at_ hogs (by omega)).mono ?_; rintro e w30 ⟨rfl, hbn⟩
    have kw := kw.below hbn kw.lt
    have kx := kx.below hbn kx.lt
    have kg := kg.below hbn kg.lt
    have kh := kh.below hbn kh.lt
    have how := how.below hbn (Nat.le_refl _)
    have hog := hog.below hbn (Nat.le_refl _)
    have hoh := hoh.below hbn (Nat.le_refl _)
    have hc := hc.trans (hbn.mono (Nat.le_trans hcz hc.size))
    have hb := hb.trans (hbn.mono hb.size)
    clear hbn
    go_wp2
    go_ret
    exact ⟨rfl, hb⟩
  · have hb1 : (n1 : Int) ≤ 9223372036854775807 := by have := hb.1; unfold maxLen at this; omega
    have hb2 : (n2 : Int) ≤ 9223372036854775807 := by have := hb.2.1; unfold maxLen at this; omega
    have hb3 : (n3 : Int) ≤ 9223372036854775807 := by have := hb.2.2; unfold maxLen at this; omega
    clear hb
    go_enter Tryz.func5, Tryz.ntmps5
    go_wp2_with fail
    go_at_call 19; refine (szRoom_no _ _ _ _ _ _ _ _ _ _ _ _ (by omega) (by omega) (by omega) hb1 hb2 hb3).mono ?_; rintro e w1 ⟨rfl, hb4⟩
    go_wp2
    go_ret
    exact ⟨rfl, ((Below.refl _ _).alloc (Nat.le_refl _) _).trans (hb4.mono (by simp))⟩
theorem walk {W : World} (hL : laidMetH Tryz.prog Rows.fnExactLeaveRoomRow.laid W) (o : Bool) (A1 A2 A3 : Option Addr) (n1 c1 n2 c2 n3 c3 : Nat) (ms : List Mb) (vs : List Iv) (bs : List Bn) (t : Int) (h : RoomAt W W.heap.size A1 n1 A2 n2 A3 n3 ms vs bs) (hb : n1 ≤ maxLen ∧ n2 ≤ maxLen ∧ n3 ≤ maxLen) (wft : (Lit.int .i64 t).wf = true) :
    Calls Tryz.prog 5 #[.agg #[.bool o, .slice A1 n1 c1, .slice A2 n2 c2, .slice A3 n3 c3], .int .i64 t] W fun e w' => e = .returned (.bool true) ∧ Below W.heap.size W w' := by
  rw [MakeChecks.laidMetH_plain _ _ _ (by kernel_rfl)] at hL
  obtain ⟨va, vb, hva, hvb⟩ := varNR_of_laid (rest := _) hL
  exact walk_all (cell_of_var gN hva) (cell_of_var gR hvb) o A1 A2 A3 n1 c1 n2 c2 n3 c3 ms vs bs t h hb wft

theorem own : ownKnob Tryz.prog.godebug = none := by kernel_rfl
theorem laidOut : laidOutB Tryz.prog = true := by kernel_rfl
theorem door_met (os : Os) (args : Array Value) : laidMetH Tryz.prog Rows.fnExactLeaveRoomRow.laid ((World.doorLaid Tryz.prog 400 os).forCall (fun _ _ => 0) ⟨#[], args, []⟩).memory :=
  laidMetH_of_parts3 (fuel := 8) (laidMet_of_run' 8 (by kernel_rfl) (by kernel_rfl)) (by kernel_rfl) (by kernel_rfl)
set_option maxRecDepth 100000 in
theorem lifted (os : Os) (started : os.Started) (H : Type) (enc : TypeId × Value → H) :
    ReturnsInHanded {} Tryz.checked os 5 .any (fun w args => (Rows.fnExactLeaveRoomSpec.pre enc Tryz.prog Tryz.f5 [] false w args ∧ laidMetH Tryz.prog Rows.fnExactLeaveRoomRow.laid w) ∧ sizedMet enc Tryz.prog Tryz.f5 (OpenSpec.ofChange Rows.fnExactLeaveRoomSpec) false w args)
      (Rows.fnExactLeaveRoomSpec.post enc Tryz.prog Tryz.f5 false true false false) := by
  refine returnsInHanded_of_change_and (C := Tryz.checked) (X := fun w _ => laidMetH Tryz.prog Rows.fnExactLeaveRoomRow.laid w) (fun _ _ _ hh h => h.of_heap hh) own started (by kernel_rfl) Tryz.func5
    (ChangeSpec.witness_shaped (enc := enc) (C := Tryz.checked) (os := os) (X := fun w _ => laidMetH Tryz.prog Rows.fnExactLeaveRoomRow.laid w) false (World.doorLaid Tryz.prog 400 os) #[.agg #[.bool false, .slice none 0 0, .slice none 0 0, .slice none 0 0], .int .i64 0] 8 rfl (World.shaped_of_RefB (by kernel_rfl) (by kernel_rfl)) (by kernel_rfl) (by kernel_rfl) (by kernel_rfl) (door_met os _)) ?_
  intro W base args ds gs before hval0 hW hcnd _ hL _
  have hval : ∀ (j : Nat) t v, Tryz.f5.params[j]? = some t → args[j]? = some v → Value.okWide Tryz.prog W .any base t v := hval0
  have hW' := hW
  obtain ⟨p, q, hA0, hV, rfl, hfz, hnd⟩ := hW
  have hA : DataW.TrodAll enc Tryz.prog W 0 (fun _ => true) true Tryz.f5.params.toList args.toList ds p := hA0
  rw [Tryz.params5] at hA hval
  obtain ⟨v0, vs0, d0, ds0, p0, q0, hargs, rfl, rfl, h0, r0⟩ := trodAll_cons hA
  obtain ⟨v1, vs1, d1, ds1, p1, q1, rfl, rfl, rfl, h1, r1⟩ := trodAll_cons r0
  obtain ⟨rfl, rfl, rfl⟩ := trodAll_nil r1
  obtain rfl : args = #[v0, v1] := by cases args; simp_all
  have hL1 := hL
  rw [MakeChecks.laidMetH_plain _ _ _ (by kernel_rfl)] at hL1
  obtain ⟨va, vb, hva, hvb⟩ := varNR_of_laid (rest := _) hL1
  obtain ⟨rfl, rfl⟩ := hV.unique (vars_read2 enc gR gRT Tryz.underlying62 hvb trivial gN gNT Tryz.underlying62 hva trivial _)
  have k0 := h0
  have lt0 : ∀ x ∈ p0, x.block < W.heap.size := by obtain ⟨m, hm⟩ := k0; exact DataW.trod_lt m _ _ _ hm
  obtain ⟨o0, A0, n0, c0, B0, m0, d0', C0, l0, e0, ms0, vs0, bs0, rfl, w0, u0⟩ := open_room (hval 0 51 v0 rfl rfl) h0
  obtain ⟨a1, rfl, rfl, rfl, w1⟩ := open_int Tryz.underlying2 (hval 1 2 v1 rfl rfl) h1
  clear hA0 hval0
  refine (walk hL o0 A0 B0 C0 n0 c0 m0 d0' l0 e0 ms0 vs0 bs0 a1 w0 u0 w1).mono fun e W' ⟨he, bel⟩ => ?_
  subst he
  exact ⟨_, rfl, _, _, _, [], _, _, hW', trodAll_mk1 (shut_bool Tryz.underlying4 _), (trodAll_cons_mk (Below.trod laidOut (by kernel_rfl) (of_decide_eq_true (by kernel_rfl)) k0 bel lt0) (trodAll_cons_mk (shut_int Tryz.underlying2 w1) trodAll_mk0)), vars_read2 enc gR gRT Tryz.underlying62 (var_below gR hvb bel) trivial gN gNT Tryz.underlying62 (var_below gN hva bel) trivial _, bel.frame _, fun h => by cases h⟩

theorem over : Rows.fnExactLeaveRoomRow.holds Tryz.pinned (OpenSpec.ofChange Rows.fnExactLeaveRoomSpec) :=
  OpenClaim.holds_of_wide 5 Tryz.f5 rfl rfl rfl rfl rfl rfl rfl ⟨rfl, rfl, rfl, rfl, rfl⟩ rfl rfl rfl rfl rfl fnExactLeaveRoom Tryz.func5 jfExactLeaveRoom
    (of_decide_eq_true (by kernel_rfl)) (by unfold Func.isWrapper; first | (rw [if_pos (by decide +kernel)]; kernel_rfl) | (rw [if_neg (by decide +kernel)]; exact ⟨rfl, rfl⟩))
    (fun os started H enc _ => lifted os started H enc)

theorem proved : Rows.FnExactLeaveRoomCardSaid :=
  Claim7.holds_tied_plain_at .later [] _ true _ true
    over (fun _ h => by cases h) wtExactLeaveRoom (fun _ h => by cases h) fnExactLeaveRoom_row_tie rfl ⟨rfl, rfl⟩ pf_main rfl
    (fun f fn hf hfn => by
      obtain rfl : f = 5 := Option.some.inj (fnExactLeaveRoom.symm.trans hf) |>.symm
      obtain rfl : fn = Tryz.f5 := (Option.some.inj (Tryz.func5.symm.trans hfn)).symm
      exact ⟨pf_looks, fun j t ht => by
        rw [Tryz.params5] at ht
        have hm : t ∈ [51, 2] := by simpa using Array.mem_of_getElem? ht
        have hall : ([51, 2].all fun u => !Tryz.prog.wantsStandIn u) = true := by kernel_rfl
        exact (show Tryz.prog.wantsStandIn t = false by simpa using List.all_eq_true.1 hall t hm)⟩)
    gbExactLeaveRoom
#print axioms proved
end Go.Proofs.YtmnmmjobplbflaaGreatDoor.fnExactLeaveRoom
