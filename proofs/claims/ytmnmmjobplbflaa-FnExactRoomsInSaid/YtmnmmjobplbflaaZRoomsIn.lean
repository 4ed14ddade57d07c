/-
  RoomsIn answers as its model for every list of parcels, leaves its argument as it was, and its answer is memory of its own: the law returns true for every list. No condition.
-/
import Derived.Test.YtmnmmjobplbflaaRows
import Derived.WalkKit
import Derived.ProofKit
import Derived.OpenShut
import Derived.ShutString
import Derived.ChangeOld
import Derived.Below
import Derived.Lib.Hide
import Derived.Test.YtmnmmjobplbflaaZRoomN
import Derived.Test.YtmnmmjobplbflaaZPostA
import Derived.Test.YtmnmmjobplbflaaZPostK
import Derived.Test.YtmnmmjobplbflaaZOwnF
namespace Go.Proofs.Ytmnmmjobplbflaa.fnExactRoomsIn
open Go.ChangeShapes Go.WideShapes Go.ChangeAt Go.RowKit
open Go.ChangeMaps (open_string shut_string)
set_option linter.unusedVariables false
set_option maxRecDepth 100000
set_option maxHeartbeats 6400000 in
theorem walk (A : Option Addr) (n c : Nat) (xs : List Bn) (w : World) (h0 : SRow 2 bnC w w.heap.size A n xs) (hm : n ≤ maxLen) :
    Calls Try.prog 7 #[.slice A n c] w fun e w' => e = .returned (.bool true) ∧ Below w.heap.size w w' := by
  obtain ⟨rb, hrb⟩ : ∃ z, parsB xs = z := ⟨_, rfl⟩
  have HB := Lib.hid hrb
  clear hrb
  by_cases hn : n ≤ 1048576
  · clear hm
    go_enter Try.func7, Try.ntmps7
    go_wp2_with fail
    have hb := Below.refl w.heap.size w
    have x1 : ¬ ((1048576 : Int) - (n : Int) < 0) := by omega
    go_at_call 25; refine (szParcelS_ok _ _ _ _ _ (by omega) (by omega)).mono ?_; rintro e w0 ⟨rfl, rfl⟩
    go_wp2_with fail
    have h := (h0.below hb).more hb.size
    have hotB := hb.size
    go_at_call 27; refine (toParcelS_any _ _ _ _ _ h hn).mono ?_; rintro e w11 ⟨gt, rfl, hot, hbn⟩
    have hb := hb.trans (hbn.mono hb.size)
    clear hbn
    clear h
    go_wp2_with fail
    go_at_call 26; refine (spec_RoomsIn_any _ _ _ _ _ (SRow.of_own_any bnC_len (by omega) hot) hn).mono ?_; rw [HB.out]; rintro e w12 ⟨V, Vn, Vc, Vz, rfl, hVz, how, hbn⟩
    obtain rfl : Vn = Vz.length := by simpa using how.1.symm
    have hot := own_below hot hbn (Nat.le_refl _)
    have hb := hb.trans (hbn.mono hb.size)
    clear hbn
    clear hot
    have HN := Lib.hid (show Vz.length ≤ 1073741824 by rw [hVz]; exact rooms_small xs)
    have HVz := Lib.hid hVz
    clear hVz
    go_wp2_with fail
    have h := (h0.below hb).more hb.size
    have hoxB := hb.size
    go_at_call 27; refine (toParcelS_any _ _ _ _ _ h hn).mono ?_; rintro e w13 ⟨gx, rfl, hox, hbn⟩
    have how := own_below how hbn (Nat.le_refl _)
    have hb := hb.trans (hbn.mono hb.size)
    clear hbn
    clear h
    go_wp2_with fail
    go_at_call 28; refine (impl_RoomsIn_any _ _ _ _ _ (SRow.of_own_any bnC_len (by omega) hox) hn).mono ?_; rw [HB.out]; rintro e w14 ⟨G, Gn, Gc, Gz, rfl, hGz, hog, hbn⟩
    obtain rfl : Gn = Gz.length := by simpa using hog.1.symm
    have EGz : Gz = Vz := hGz.trans HVz.out.symm
    clear hGz
    subst EGz
    have nwg := own_offF how hog
    have gB := hb.size
    have how := own_below how hbn (Nat.le_refl _)
    have hox := own_below hox hbn (Nat.le_refl _)
    have hb := hb.trans (hbn.mono hb.size)
    clear hbn
    go_wp2_with fail
    go_at_call 29; refine (eqInt64S_same _ _ _ _ _ _ _ _ _ (Row.of_own_any hog) (Row.of_own_any how) HN.out).mono ?_; rintro e w15 ⟨rfl, hq⟩
    have hbn := drew_below hq
    clear hq
    have how := own_below how hbn (Nat.le_refl _)
    have hox := own_below hox hbn (Nat.le_refl _)
    have hog := own_below hog hbn (Nat.le_refl _)
    have hb := hb.trans (hbn.mono hb.size)
    clear hbn
    go_wp2_with fail
    have h := (h0.below hb).more hb.size
    have hopB := hb.size
    go_at_call 27; refine (toParcelS_any _ _ _ _ _ h hn).mono ?_; rintro e w16 ⟨gp, rfl, hop, hbn⟩
    have how := own_below how hbn (Nat.le_refl _)
    have hox := own_below hox hbn (Nat.le_refl _)
    have hog := own_below hog hbn (Nat.le_refl _)
    have hb := hb.trans (hbn.mono hb.size)
    clear hbn
    clear h
    go_wp2_with fail
    go_at_call 30; refine (eqParcelS_same _ _ _ _ _ _ _ _ (SRow.of_own_any bnC_len (by omega) hox) (SRow.of_own_any bnC_len (by omega) hop) hn).mono ?_; rintro e w17 ⟨rfl, hbn⟩
    have how := own_below how hbn (Nat.le_refl _)
    have hox := own_below hox hbn (Nat.le_refl _)
    have hog := own_below hog hbn (Nat.le_refl _)
    have hop := own_below hop hbn (Nat.le_refl _)
    have hb := hb.trans (hbn.mono hb.size)
    clear hbn
    clear hop
    go_wp2_with fail
    go_at_call 31; refine (markParcelS_any _ _ _ 1 _ _ _ hox hn (by omega)).mono ?_; rintro e w18 ⟨rfl, hm, hg, hsz⟩
    have how := how.kept hg (own_types2 how hox (by decide))
    have hog := hog.kept hg (own_types2 hog hox (by decide))
    have hb := below_own hb hox hg hoxB hb.size
    clear hm hg hsz hox
    have xk : ¬ (((1 + n * 2 : Nat) : Int) < 0) := by omega
    go_wp2_with fail
    go_at_call 29; refine (eqInt64S_same _ _ _ _ _ _ _ _ _ (Row.of_own_any hog) (Row.of_own_any how) HN.out).mono ?_; rintro e w19 ⟨rfl, hq⟩
    have hbn := drew_below hq
    clear hq
    have how := own_below how hbn (Nat.le_refl _)
    have hog := own_below hog hbn (Nat.le_refl _)
    have hb := hb.trans (hbn.mono hb.size)
    clear hbn
    go_wp2_with fail
    go_at_call 32; refine (mark_any _ _ _ 1 _ _ _ hog HN.out (by omega)).mono ?_; rintro e w20 ⟨rfl, hm, hkp, hbl, hsz⟩
    have how := hkp _ _ _ _ _ _ how nwg
    have hb := hbl _ _ hb gB hb.size
    have hog := hm
    clear hm hkp hbl hsz
    go_wp2_with fail
    go_at_call 33; refine (heldInt64S_any _ _ _ 1 _ _ (Row.of_own_any hog) HN.out (by omega)).mono ?_; rintro e wh1 ⟨rfl, rfl⟩
    go_wp2_with fail
    have h := (h0.below hb).more hb.size
    have hoyB := hb.size
    go_at_call 27; refine (toParcelS_any _ _ _ _ _ h hn).mono ?_; rintro e w21 ⟨gy, rfl, hoy, hbn⟩
    have how := own_below how hbn (Nat.le_refl _)
    have hog := own_below hog hbn (Nat.le_refl _)
    have hb := hb.trans (hbn.mono hb.size)
    clear hbn
    clear h
    go_wp2_with fail
    go_at_call 28; refine (impl_RoomsIn_any _ _ _ _ _ (SRow.of_own_any bnC_len (by omega) hoy) hn).mono ?_; rw [HB.out]; rintro e w22 ⟨H, Hn, Hc, Hz, rfl, hHz, hoh, hbn⟩
    obtain rfl : Hn = Hz.length := by simpa using hoh.1.symm
    have EHz := hHz.trans HVz.out.symm
    clear hHz
    subst EHz
    have how := own_below how hbn (Nat.le_refl _)
    have hog := own_below hog hbn (Nat.le_refl _)
    have hoy := own_below hoy hbn (Nat.le_refl _)
    have hb := hb.trans (hbn.mono hb.size)
    clear hbn
    clear hoy
    go_wp2_with fail
    go_at_call 29; refine (eqInt64S_same _ _ _ _ _ _ _ _ _ (Row.of_own_any hoh) (Row.of_own_any how) HN.out).mono ?_; rintro e w23 ⟨rfl, hq⟩
    have hbn := drew_below hq
    clear hq
    have how := own_below how hbn (Nat.le_refl _)
    have hog := own_below hog hbn (Nat.le_refl _)
    have hoh := own_below hoh hbn (Nat.le_refl _)
    have hb := hb.trans (hbn.mono hb.size)
    clear hbn
    go_wp2_with fail
    go_at_call 33; refine (heldInt64S_any _ _ _ 1 _ _ (Row.of_own_any hog) HN.out (by omega)).mono ?_; rintro e wh2 ⟨rfl, rfl⟩
    go_wp2
    go_ret
    exact ⟨rfl, hb⟩
  · have hb1 : (n : Int) ≤ 9223372036854775807 := by unfold maxLen at hm; omega
    go_enter Try.func7, Try.ntmps7
    go_wp2_with fail
    go_at_call 25; refine (szParcelS_no _ _ _ _ _ (by omega) (by omega) hb1).mono ?_; rintro e w1 ⟨rfl, rfl⟩
    go_wp2
    go_ret
    exact ⟨rfl, Below.refl _ _⟩

theorem own : ownKnob Try.prog.godebug = none := by kernel_rfl
theorem laidOut : laidOutB Try.prog = true := by kernel_rfl
set_option maxRecDepth 100000 in
theorem lifted (os : Os) (started : os.Started) (H : Type) (enc : TypeId × Value → H) :
    ReturnsInHanded {} Try.checked os 7 .any (Rows.fnExactRoomsInSpec.pre6 enc Try.prog Try.f7 Rows.fnExactRoomsInRow.domain false) (Rows.fnExactRoomsInSpec.post enc Try.prog Try.f7 false true false false) := by
  refine returnsInHanded_of_change (C := Try.checked) own started (by kernel_rfl) Try.func7
    (ChangeSpec.witness6 (enc := enc) (C := Try.checked) false ⟨#[], #[.slice none 0 0], []⟩ 8 (by kernel_rfl) (by kernel_rfl) (by kernel_rfl) (by kernel_rfl)) ?_
  intro W base args ds gs before hval0 hW hcnd _
  have hval : ∀ (j : Nat) t v, Try.f7.params[j]? = some t → args[j]? = some v → Value.okWide Try.prog W .any base t v := hval0
  have hW' := hW
  obtain ⟨p, q, hA0, hV, rfl, hfz, hnd⟩ := hW
  have hA : DataW.TrodAll enc Try.prog W 0 (fun _ => true) true Try.f7.params.toList args.toList ds p := hA0
  rw [Try.params7] at hA hval
  obtain ⟨v0, vs0, d0, ds0, p0, q0, hargs, rfl, rfl, h0, r0⟩ := trodAll_cons hA
  obtain ⟨rfl, rfl, rfl⟩ := trodAll_nil r0
  obtain rfl : args = #[v0] := by cases args; simp_all
  obtain ⟨rfl, rfl⟩ := trodVars_none hV
  have k0 := h0
  have lt0 : ∀ x ∈ p0, x.block < W.heap.size := by obtain ⟨m, hm⟩ := k0; exact DataW.trod_lt m _ _ _ hm
  obtain ⟨A0, n0, c0, xs0, rfl, w0, u0⟩ := open_parcels (hval 0 44 v0 rfl rfl) h0
  clear hA0 hval0
  refine (walk A0 n0 c0 xs0 W w0 u0).mono fun e W' ⟨he, bel⟩ => ?_
  subst he
  exact ⟨_, rfl, _, _, _, [], _, [], hW', trodAll_mk1 (shut_bool Try.underlying4 _), (trodAll_cons_mk (Below.trod laidOut (by kernel_rfl) (of_decide_eq_true (by kernel_rfl)) k0 bel lt0) trodAll_mk0), rfl, bel.frame _, fun h => by cases h⟩

theorem over : Rows.fnExactRoomsInRow.holds Try.pinned (OpenSpec.ofChange Rows.fnExactRoomsInSpec) :=
  OpenClaim.holds_of_wide 7 Try.f7 rfl rfl rfl rfl rfl rfl rfl ⟨rfl, rfl, rfl, rfl, rfl⟩ rfl rfl rfl rfl rfl (by kernel_rfl) Try.func7 (by kernel_rfl)
    (of_decide_eq_true (by kernel_rfl)) (by unfold Func.isWrapper; first | (rw [if_pos (by decide +kernel)]; kernel_rfl) | (rw [if_neg (by decide +kernel)]; exact ⟨rfl, rfl⟩))
    (fun os started H enc _ => lifted os started H enc)

theorem proved : Rows.FnExactRoomsInSaid := over
#print axioms proved
end Go.Proofs.Ytmnmmjobplbflaa.fnExactRoomsIn
