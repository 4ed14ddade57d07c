/-
  RanksOf answers as its model for every room, writes into no argument, and its answer owns its memory: the law returns true for every room. No condition.
-/
import Derived.Test.YtmnmmjobplbflaaGreatRows
import Derived.WalkKit
import Derived.ProofKit
import Derived.OpenShut
import Derived.ShutString
import Derived.ChangeOld
import Derived.Below
import Derived.Lib.Hide
import Derived.Test.YtmnmmjobplbflaaGreatZSpecRk
import Derived.Test.YtmnmmjobplbflaaGreatZRoomA
import Derived.Test.YtmnmmjobplbflaaGreatJh
import Derived.Test.YtmnmmjobplbflaaGreatJr
namespace Go.Proofs.YtmnmmjobplbflaaGreat.fnExactRanksOf
open Go.ChangeShapes Go.WideShapes Go.ChangeAt Go.RowKit
open Go.ChangeMaps (open_string shut_string)
set_option linter.unusedVariables false
set_option maxHeartbeats 6400000 in
theorem walk (o : Bool) (A1 A2 A3 : Option Addr) (n1 c1 n2 c2 n3 c3 : Nat) (ms : List Mb) (vs : List Iv) (bs : List Bn) (w : World) (h0 : RoomAt w w.heap.size A1 n1 A2 n2 A3 n3 ms vs bs) (hb : n1 ≤ maxLen ∧ n2 ≤ maxLen ∧ n3 ≤ maxLen) :
    Calls Tryz.prog 3 #[.agg #[.bool o, .slice A1 n1 c1, .slice A2 n2 c2, .slice A3 n3 c3]] w fun e w' => e = .returned (.bool true) ∧ Below w.heap.size w w' := by
  obtain ⟨rb, hrb⟩ : ∃ z, roomB ms vs bs = z := ⟨_, rfl⟩
  have HB := Lib.hid hrb
  clear hrb
  have HLen := Lib.hid (fun (zs : List Int) (h : zs = (if rb = true then rkL ms else [])) => show zs.length ≤ 1073741824 by subst h; have hl : rb = true → ms.length ≤ 32 := fun hq => (roomB_iff.1 (HB.out.trans hq)).l1; have hk := rkL_len ms; split <;> rename_i hq <;> first | (have := hl hq; omega) | simp)
  by_cases hn : n1 + n2 + n3 ≤ 1048576
  · clear hb
    go_enter Tryz.func3, Tryz.ntmps3
    go_wp2_with fail
    obtain ⟨k00, hb⟩ := one_box w 26 #[.bool o, .slice A1 n1 c1, .slice A2 n2 c2, .slice A3 n3 c3]
    have hc := Below.refl (w.heap.size + 1) (w.alloc (.cells #[.bool o, .slice A1 n1 c1, .slice A2 n2 c2, .slice A3 n3 c3] 26))
    have hcz : w.heap.size + 1 ≤ (w.alloc (.cells #[.bool o, .slice A1 n1 c1, .slice A2 n2 c2, .slice A3 n3 c3] 26)).heap.size := by simp
    generalize w.alloc (.cells #[.bool o, .slice A1 n1 c1, .slice A2 n2 c2, .slice A3 n3 c3] 26) = W1 at *
    have x1 : ¬ ((1048576 : Int) - (n1 : Int) - (n2 : Int) - (n3 : Int) < 0) := by omega
    go_at_call 4; refine (szRoom_ok _ _ _ _ _ _ _ _ _ _ _ _ (by omega) (by omega)).mono ?_; rintro e w11 ⟨rfl, hbn⟩
    have hc := hc.trans (hbn.mono (Nat.le_trans hcz hc.size))
    have hb := hb.trans (hbn.mono hb.size)
    clear hbn
    have k0 := k00.below hc (Nat.lt_succ_self _)
    have al0 := k0.cell 0
    have al1 := k0.cell 1
    have al2 := k0.cell 2
    have al3 := k0.cell 3
    have alt := k0.lt
    go_wp2_with fail
    clear al0 al1 al2 al3 alt k0
    have h := (h0.below hb).more hb.size
    go_at_call 6; refine (toRoom_any _ _ _ _ _ _ _ _ _ _ _ _ _ _ h hn).mono ?_; rintro e w12 ⟨T1, T2, T3, rfl, hot, hbn⟩
    have hc := hc.trans (hbn.mono (Nat.le_trans hcz hc.size))
    have hb := hb.trans (hbn.mono hb.size)
    clear hbn
    clear h
    go_wp2_with fail
    go_at_call 5; refine (spec_RanksOf_any _ _ _ _ _ _ _ _ _ _ _ _ _ _ hot.at_ hn).mono ?_; rw [HB.out]; rintro e w13 ⟨V, Vn, Vc, Vz, rfl, hVz, how, hbn⟩
    obtain rfl : Vn = Vz.length := by simpa using how.1.symm
    have hot := hot.below hbn (Nat.le_refl _)
    have hc := hc.trans (hbn.mono (Nat.le_trans hcz hc.size))
    have hb := hb.trans (hbn.mono hb.size)
    clear hbn
    clear hot
    have HN := Lib.hid (show Vz.length ≤ 1073741824 from HLen.out Vz hVz)
    have HVz := Lib.hid hVz
    clear hVz
    have k0 := k00.below hc (Nat.lt_succ_self _)
    have al0 := k0.cell 0
    have al1 := k0.cell 1
    have al2 := k0.cell 2
    have al3 := k0.cell 3
    have alt := k0.lt
    go_wp2_with fail
    clear al0 al1 al2 al3 alt k0
    have h := (h0.below hb).more hb.size
    go_at_call 6; refine (toRoom_any _ _ _ _ _ _ _ _ _ _ _ _ _ _ h hn).mono ?_; rintro e w14 ⟨X1, X2, X3, rfl, hox, hbn⟩
    have xB : w.heap.size + 1 ≤ w13.heap.size := Nat.le_trans hcz hc.size
    have nwx := off_of (own_off how hox.1) (own_off how hox.2.1) (own_off how hox.2.2)
    have how := own_below how hbn (Nat.le_refl _)
    have hc := hc.trans (hbn.mono (Nat.le_trans hcz hc.size))
    have hb := hb.trans (hbn.mono hb.size)
    clear hbn
    clear h
    go_wp2_with fail
    obtain ⟨kx, hbn⟩ := one_box w14 35 #[.bool o, .slice (some ⟨X1, 0, none⟩) n1 n1, .slice (some ⟨X2, 0, none⟩) n2 n2, .slice (some ⟨X3, 0, none⟩) n3 n3]
    generalize w14.alloc (.cells #[.bool o, .slice (some ⟨X1, 0, none⟩) n1 n1, .slice (some ⟨X2, 0, none⟩) n2 n2, .slice (some ⟨X3, 0, none⟩) n3 n3] 35) = w15 at *
    have how := own_below how hbn (Nat.le_refl _)
    have hox := hox.below hbn (Nat.le_refl _)
    have hc := hc.trans (hbn.mono (Nat.le_trans hcz hc.size))
    have hb := hb.trans (hbn.mono hb.size)
    clear hbn
    go_at_call 7; refine (impl_RanksOf_any _ _ _ _ _ _ _ _ _ _ _ _ _ _ hox.at_ hn).mono ?_; rw [HB.out]; rintro e w16 ⟨G, Gn, Gc, Gz, rfl, hGz, hog, hbn⟩
    obtain rfl : Gn = Gz.length := by simpa using hog.1.symm
    have EGz : Gz = Vz := hGz.trans HVz.out.symm
    clear hGz
    subst EGz
    have nwg := own_off how hog
    have ngx := off_of (own_turn hox.1 hog) (own_turn hox.2.1 hog) (own_turn hox.2.2 hog)
    have gB : w.heap.size + 1 ≤ w15.heap.size := Nat.le_trans hcz hc.size
    have kx := kx.below hbn kx.lt
    have how := own_below how hbn (Nat.le_refl _)
    have hox := hox.below hbn (Nat.le_refl _)
    have hc := hc.trans (hbn.mono (Nat.le_trans hcz hc.size))
    have hb := hb.trans (hbn.mono hb.size)
    clear hbn
    go_wp2_with fail
    go_at_call 8; refine (eqInt64S_same _ _ _ _ _ _ _ _ _ (Row.of_own_any hog) (Row.of_own_any how) HN.out).mono ?_; rintro e w17 ⟨rfl, hq⟩
    have hbn := drew_below hq
    clear hq
    have kx := kx.below hbn kx.lt
    have how := own_below how hbn (Nat.le_refl _)
    have hox := hox.below hbn (Nat.le_refl _)
    have hog := own_below hog hbn (Nat.le_refl _)
    have hc := hc.trans (hbn.mono (Nat.le_trans hcz hc.size))
    have hb := hb.trans (hbn.mono hb.size)
    clear hbn
    have k0 := k00.below hc (Nat.lt_succ_self _)
    have al0 := k0.cell 0
    have al1 := k0.cell 1
    have al2 := k0.cell 2
    have al3 := k0.cell 3
    have alt := k0.lt
    have kxl0 := kx.cell 0
    have kxl1 := kx.cell 1
    have kxl2 := kx.cell 2
    have kxl3 := kx.cell 3
    have kxlt := kx.lt
    go_wp2_with fail
    clear kxl0 kxl1 kxl2 kxl3 kxlt
    clear al0 al1 al2 al3 alt k0
    have k0 := k00.below hc (Nat.lt_succ_self _)
    have h := (h0.below hb).more hb.size
    have hbn : Below w17.heap.size w17 w17.drew := (Below.refl _ _).drew
    have k0 := k0.below hbn k0.lt
    have kx := kx.below hbn kx.lt
    have how := own_below how hbn (Nat.le_refl _)
    have hox := hox.below hbn (Nat.le_refl _)
    have hog := own_below hog hbn (Nat.le_refl _)
    have hc := hc.trans (hbn.mono (Nat.le_trans hcz hc.size))
    have hb := hb.trans (hbn.mono hb.size)
    have h : RoomAt w17.drew w17.drew.heap.size A1 n1 A2 n2 A3 n3 ms vs bs := h
    clear hbn
    go_region_held3 (fun w' => (w'.cell? ⟨w.heap.size, 0, none⟩ = some (.bool o) ∧ w'.cell? ⟨w.heap.size, 1, none⟩ = some (.slice A1 n1 c1) ∧ w'.cell? ⟨w.heap.size, 2, none⟩ = some (.slice A2 n2 c2) ∧ w'.cell? ⟨w.heap.size, 3, none⟩ = some (.slice A3 n3 c3)) ∧ (w'.cell? ⟨w14.heap.size, 0, none⟩ = some (.bool o) ∧ w'.cell? ⟨w14.heap.size, 1, none⟩ = some (.slice (some ⟨X1, 0, none⟩) n1 n1) ∧ w'.cell? ⟨w14.heap.size, 2, none⟩ = some (.slice (some ⟨X2, 0, none⟩) n2 n2) ∧ w'.cell? ⟨w14.heap.size, 3, none⟩ = some (.slice (some ⟨X3, 0, none⟩) n3 n3))) (first | exact ⟨⟨k0_8.cell 0, k0_8.cell 1, k0_8.cell 2, k0_8.cell 3⟩, kx_8.cell 0, kx_8.cell 1, kx_8.cell 2, kx_8.cell 3⟩ | exact ⟨⟨k0_7.cell 0, k0_7.cell 1, k0_7.cell 2, k0_7.cell 3⟩, kx_7.cell 0, kx_7.cell 1, kx_7.cell 2, kx_7.cell 3⟩ | exact ⟨⟨k0.cell 0, k0.cell 1, k0.cell 2, k0.cell 3⟩, kx.cell 0, kx.cell 1, kx.cell 2, kx.cell 3⟩) ((first | (go_at_call 6; refine (toRoom_any _ _ _ _ _ _ _ _ _ _ _ _ _ _ h hn).mono ?_; rintro e w18 ⟨y1, y2, y3, rfl, ho7, hq7⟩; have k0_7 := k0.below hq7 k0.lt; have kx_7 := kx.below hq7 kx.lt; have how_7 := own_below how hq7 (Nat.le_refl _); have hox_7 := hox.below hq7 (Nat.le_refl _); have hog_7 := own_below hog hq7 (Nat.le_refl _); have hc_7 := hc.trans (hq7.mono (Nat.le_trans hcz hc.size)); have hb_7 := hb.trans (hq7.mono hb.size)) | (go_at_call 9; refine (eqRoom_same _ _ _ _ _ _ _ _ _ _ _ _ _ _ _ _ _ _ _ _ _ _ _ hox_7.at_ ho7.at_ hn).mono ?_; rintro e w19 ⟨rfl, hq8⟩; have k0_8 := k0_7.below hq8 k0_7.lt; have kx_8 := kx_7.below hq8 kx_7.lt; have how_8 := own_below how_7 hq8 (Nat.le_refl _); have hox_8 := hox_7.below hq8 (Nat.le_refl _); have hog_8 := own_below hog_7 hq8 (Nat.le_refl _); have hc_8 := hc_7.trans (hq8.mono (Nat.le_trans hcz hc_7.size)); have hb_8 := hb_7.trans (hq8.mono hb_7.size))))
    clear k0 h kx how hox hog hc hb k0_7 kx_7 how_7 hox_7 hog_7 hc_7 hb_7 ho7 hq7 hq8
    have kx := kx_8
    have how := how_8
    have hox := hox_8
    have hog := hog_8
    have hc := hc_8
    have hb := hb_8
    clear k0_8 kx_8 how_8 hox_8 hog_8 hc_8 hb_8
    have kxl0 := kx.cell 0
    have kxl1 := kx.cell 1
    have kxl2 := kx.cell 2
    have kxl3 := kx.cell 3
    have kxlt := kx.lt
    go_wp2_with fail
    clear kxl0 kxl1 kxl2 kxl3 kxlt
    go_at_call 10; refine (markRoom_any _ _ _ _ _ _ _ _ _ _ 1 _ _ _ _ _ hox hn (by omega)).mono ?_; rintro e w20 ⟨rfl, hm, hkp, hbl, hsz, hbk⟩
    have kx := hbk _ _ _ kx (by decide) (by decide) (by decide)
    have how := hkp _ _ _ _ _ _ how nwx
    have hog := hkp _ _ _ _ _ _ hog ngx
    have hb := hbl _ _ hb (Nat.le_trans (Nat.le_succ _) xB) hb.size
    have hc := hbl _ _ hc xB (Nat.le_trans hcz hc.size)
    clear hm hkp hbl hsz hbk hox
    have xk : ¬ (((1 + n1 * 4 + n2 * 3 + n3 * 2 : Nat) : Int) < 0) := by omega
    go_wp2_with fail
    go_at_call 8; refine (eqInt64S_same _ _ _ _ _ _ _ _ _ (Row.of_own_any hog) (Row.of_own_any how) HN.out).mono ?_; rintro e w21 ⟨rfl, hq⟩
    have hbn := drew_below hq
    clear hq
    have kx := kx.below hbn kx.lt
    have how := own_below how hbn (Nat.le_refl _)
    have hog := own_below hog hbn (Nat.le_refl _)
    have hc := hc.trans (hbn.mono (Nat.le_trans hcz hc.size))
    have hb := hb.trans (hbn.mono hb.size)
    clear hbn
    go_wp2_with fail
    go_at_call 11; refine (mark_any _ _ _ 1 _ _ _ hog HN.out (by omega)).mono ?_; rintro e w22 ⟨rfl, hm, hkp, hbl, hsz⟩
    have how := hkp _ _ _ _ _ _ how nwg
    have hb := hbl _ _ hb (Nat.le_trans (Nat.le_succ _) gB) hb.size
    have hc := hbl _ _ hc gB (Nat.le_trans hcz hc.size)
    have hog := hm
    clear hm hkp hbl hsz kx
    go_wp2_with fail
    go_at_call 12; refine (heldInt64S_any _ _ _ 1 _ _ (Row.of_own_any hog) HN.out (by omega)).mono ?_; rintro e wh1 ⟨rfl, rfl⟩
    have k0 := k00.below hc (Nat.lt_succ_self _)
    have al0 := k0.cell 0
    have al1 := k0.cell 1
    have al2 := k0.cell 2
    have al3 := k0.cell 3
    have alt := k0.lt
    go_wp2_with fail
    clear al0 al1 al2 al3 alt k0
    have h := (h0.below hb).more hb.size
    go_at_call 6; refine (toRoom_any _ _ _ _ _ _ _ _ _ _ _ _ _ _ h hn).mono ?_; rintro e w23 ⟨Y1, Y2, Y3, rfl, hoy, hbn⟩
    have how := own_below how hbn (Nat.le_refl _)
    have hog := own_below hog hbn (Nat.le_refl _)
    have hc := hc.trans (hbn.mono (Nat.le_trans hcz hc.size))
    have hb := hb.trans (hbn.mono hb.size)
    clear hbn
    clear h
    go_wp2_with fail
    go_at_call 7; refine (impl_RanksOf_any _ _ _ _ _ _ _ _ _ _ _ _ _ _ hoy.at_ hn).mono ?_; rw [HB.out]; rintro e w24 ⟨H, Hn, Hc, Hz, rfl, hHz, hoh, hbn⟩
    obtain rfl : Hn = Hz.length := by simpa using hoh.1.symm
    have EHz := hHz.trans HVz.out.symm
    clear hHz
    subst EHz
    have how := own_below how hbn (Nat.le_refl _)
    have hog := own_below hog hbn (Nat.le_refl _)
    have hoy := hoy.below hbn (Nat.le_refl _)
    have hc := hc.trans (hbn.mono (Nat.le_trans hcz hc.size))
    have hb := hb.trans (hbn.mono hb.size)
    clear hbn
    clear hoy
    go_wp2_with fail
    go_at_call 8; refine (eqInt64S_same _ _ _ _ _ _ _ _ _ (Row.of_own_any hoh) (Row.of_own_any how) HN.out).mono ?_; rintro e w25 ⟨rfl, hq⟩
    have hbn := drew_below hq
    clear hq
    have how := own_below how hbn (Nat.le_refl _)
    have hog := own_below hog hbn (Nat.le_refl _)
    have hoh := own_below hoh hbn (Nat.le_refl _)
    have hc := hc.trans (hbn.mono (Nat.le_trans hcz hc.size))
    have hb := hb.trans (hbn.mono hb.size)
    clear hbn
    go_wp2_with fail
    go_at_call 12; refine (heldInt64S_any _ _ _ 1 _ _ (Row.of_own_any hog) HN.out (by omega)).mono ?_; rintro e wh2 ⟨rfl, rfl⟩
    go_wp2
    go_ret
    exact ⟨rfl, hb⟩
  · have hb1 : (n1 : Int) ≤ 9223372036854775807 := by have := hb.1; unfold maxLen at this; omega
    have hb2 : (n2 : Int) ≤ 9223372036854775807 := by have := hb.2.1; unfold maxLen at this; omega
    have hb3 : (n3 : Int) ≤ 9223372036854775807 := by have := hb.2.2; unfold maxLen at this; omega
    clear hb
    go_enter Tryz.func3, Tryz.ntmps3
    go_wp2_with fail
    go_at_call 4; refine (szRoom_no _ _ _ _ _ _ _ _ _ _ _ _ (by omega) (by omega) (by omega) hb1 hb2 hb3).mono ?_; rintro e w1 ⟨rfl, hb4⟩
    go_wp2
    go_ret
    exact ⟨rfl, ((Below.refl _ _).alloc (Nat.le_refl _) _).trans (hb4.mono (by simp))⟩

theorem own : ownKnob Tryz.prog.godebug = none := by kernel_rfl
theorem laidOut : laidOutB Tryz.prog = true := by kernel_rfl
set_option maxRecDepth 100000 in
theorem lifted (os : Os) (started : os.Started) (H : Type) (enc : TypeId × Value → H) :
    ReturnsInHanded {} Tryz.checked os 3 .any (Rows.fnExactRanksOfSpec.pre6 enc Tryz.prog Tryz.f3 Rows.fnExactRanksOfRow.domain false) (Rows.fnExactRanksOfSpec.post enc Tryz.prog Tryz.f3 false true false false) := by
  refine returnsInHanded_of_change (C := Tryz.checked) own started (by kernel_rfl) Tryz.func3
    (ChangeSpec.witness6 (enc := enc) (C := Tryz.checked) false ⟨#[], #[.agg #[.bool false, .slice none 0 0, .slice none 0 0, .slice none 0 0]], []⟩ 8 (by kernel_rfl) (by kernel_rfl) (by kernel_rfl) (by kernel_rfl)) ?_
  intro W base args ds gs before hval0 hW hcnd _
  have hval : ∀ (j : Nat) t v, Tryz.f3.params[j]? = some t → args[j]? = some v → Value.okWide Tryz.prog W .any base t v := hval0
  have hW' := hW
  obtain ⟨p, q, hA0, hV, rfl, hfz, hnd⟩ := hW
  have hA : DataW.TrodAll enc Tryz.prog W 0 (fun _ => true) true Tryz.f3.params.toList args.toList ds p := hA0
  rw [Tryz.params3] at hA hval
  obtain ⟨v0, vs0, d0, ds0, p0, q0, hargs, rfl, rfl, h0, r0⟩ := trodAll_cons hA
  obtain ⟨rfl, rfl, rfl⟩ := trodAll_nil r0
  obtain rfl : args = #[v0] := by cases args; simp_all
  obtain ⟨rfl, rfl⟩ := trodVars_none hV
  have k0 := h0
  have lt0 : ∀ x ∈ p0, x.block < W.heap.size := by obtain ⟨m, hm⟩ := k0; exact DataW.trod_lt m _ _ _ hm
  obtain ⟨o0, A0, n0, c0, B0, m0, d0', C0, l0, e0, ms0, vs0, bs0, rfl, w0, u0⟩ := open_room (hval 0 26 v0 rfl rfl) h0
  clear hA0 hval0
  refine (walk o0 A0 B0 C0 n0 c0 m0 d0' l0 e0 ms0 vs0 bs0 W w0 u0).mono fun e W' ⟨he, bel⟩ => ?_
  subst he
  exact ⟨_, rfl, _, _, _, [], _, [], hW', trodAll_mk1 (shut_bool Tryz.underlying4 _), (trodAll_cons_mk (Below.trod laidOut (by kernel_rfl) (of_decide_eq_true (by kernel_rfl)) k0 bel lt0) trodAll_mk0), rfl, bel.frame _, fun h => by cases h⟩

theorem over : Rows.fnExactRanksOfRow.holds Tryz.pinned (OpenSpec.ofChange Rows.fnExactRanksOfSpec) :=
  OpenClaim.holds_of_wide 3 Tryz.f3 rfl rfl rfl rfl rfl rfl rfl ⟨rfl, rfl, rfl, rfl, rfl⟩ rfl rfl rfl rfl rfl (by kernel_rfl) Tryz.func3 (by kernel_rfl)
    (of_decide_eq_true (by kernel_rfl)) (by unfold Func.isWrapper; first | (rw [if_pos (by decide +kernel)]; kernel_rfl) | (rw [if_neg (by decide +kernel)]; exact ⟨rfl, rfl⟩))
    (fun os started H enc _ => lifted os started H enc)

theorem proved : Rows.FnExactRanksOfSaid := over
#print axioms proved
end Go.Proofs.YtmnmmjobplbflaaGreat.fnExactRanksOf
