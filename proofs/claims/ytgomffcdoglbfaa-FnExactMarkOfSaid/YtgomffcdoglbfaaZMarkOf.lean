/-
  MarkOf answers as its model for every presence and number, and leaves its arguments as they were: the law returns true for all arguments. No condition.
-/
import Derived.Test.YtgomffcdoglbfaaRows
import Derived.WalkKit
import Derived.ProofKit
import Derived.OpenShut
import Derived.ShutString
import Derived.ChangeOld
import Derived.Below
import Derived.Lib.Hide
import Derived.Deep.RegionHeld3
import Derived.Test.YtgomffcdoglbfaaZPresM
import Derived.Test.YtgomffcdoglbfaaZPresA
namespace Go.Proofs.Ytgomffcdoglbfaa.fnExactMarkOf
open Go.ChangeShapes Go.WideShapes Go.ChangeAt Go.RowKit
open Go.ChangeMaps (open_string shut_string)
set_option linter.unusedVariables false
set_option maxRecDepth 100000
set_option maxHeartbeats 6400000 in
theorem walk (A1 : Option Addr) (n1 c1 : Nat) (A2 : Option Addr) (n2 c2 : Nat) (A3 : Option Addr) (n3 c3 : Nat) (hs ts ks : List Bn) (t : Int) (w : World) (h00 : PresAt w w.heap.size A1 n1 A2 n2 A3 n3 hs ts ks) (hm0 : n1 ≤ maxLen ∧ n2 ≤ maxLen ∧ n3 ≤ maxLen) (wft : (Lit.int .i64 t).wf = true) :
    Calls Try.prog 5 #[.agg #[.slice A1 n1 c1, .slice A2 n2 c2, .slice A3 n3 c3], .int .i64 t] w fun e w' => e = .returned (.bool true) ∧ Below w.heap.size w w' := by
  obtain ⟨r0, hr0⟩ : ∃ z, markZ (presB hs ts ks && idB t) ks t = z := ⟨_, rfl⟩
  have HR0 := Lib.hid hr0
  clear hr0
  obtain ⟨r1, hr1⟩ : ∃ z, (presB hs ts ks && idB t) = z := ⟨_, rfl⟩
  have HR1 := Lib.hid hr1
  clear hr1
  by_cases hn0 : n1 + n2 + n3 ≤ 1048576
  · go_enter Try.func5, Try.ntmps5
    go_wp2_with fail
    obtain ⟨k000, hb⟩ := one_box w 25 #[.slice A1 n1 c1, .slice A2 n2 c2, .slice A3 n3 c3]
    have hc := Below.refl (w.heap.size + 1) (w.alloc (.cells #[.slice A1 n1 c1, .slice A2 n2 c2, .slice A3 n3 c3] 25))
    have hcz : w.heap.size + 1 ≤ (w.alloc (.cells #[.slice A1 n1 c1, .slice A2 n2 c2, .slice A3 n3 c3] 25)).heap.size := by simp
    generalize w.alloc (.cells #[.slice A1 n1 c1, .slice A2 n2 c2, .slice A3 n3 c3] 25) = W1 at *
    have x0 : ¬ ((1048576 : Int) - (n1 : Int) - (n2 : Int) - (n3 : Int) < 0) := by omega
    have h0 := (h00.below hb).more hb.size
    go_at_call 12; refine (szPresence_ok _ _ _ _ _ _ _ _ _ _ _ (by omega) (by omega)).mono ?_; rintro e w11 ⟨rfl, hbn⟩
    clear h0
    have hc := hc.trans (hbn.mono (Nat.le_trans hcz hc.size))
    have hb := hb.trans (hbn.mono hb.size)
    clear hbn
    have k00 := k000.below hc (by omega)
    have al0_0 := k00.cell 0
    have al0_1 := k00.cell 1
    have al0_2 := k00.cell 2
    have alt0 := k00.lt
    go_wp2_with fail
    clear al0_0 al0_1 al0_2 alt0 k00
    have h0 := (h00.below hb).more hb.size
    have bhot := Lib.hid (Nat.le_trans hcz hc.size)
    go_at_call 14; refine (toPresence_any _ _ _ _ _ _ _ _ _ _ _ _ _ h0 hn0).mono ?_; rintro e w12 ⟨t1, t2, t3, rfl, hot, hbn⟩
    have shot := Lib.hid (hot.span)
    have zhot := Nat.le_refl w12.heap.size
    clear h0
    have hc := hc.trans (hbn.mono (Nat.le_trans hcz hc.size))
    have hb := hb.trans (hbn.mono hb.size)
    clear hbn
    go_wp2_with fail
    go_at_call 19; refine (spec_MarkOf_any _ _ _ _ _ _ _ _ _ _ _ _ _ _ hot.at_ hn0).mono ?_; rw [HR0.out]; rw [HR1.out]; rintro e w13 ⟨rfl, hbn⟩
    have hot := hot.below hbn (Nat.le_refl _)
    have zhot := Nat.le_trans zhot hbn.size
    have hc := hc.trans (hbn.mono (Nat.le_trans hcz hc.size))
    have hb := hb.trans (hbn.mono hb.size)
    clear hbn
    clear hot
    have k00 := k000.below hc (by omega)
    have al0_0 := k00.cell 0
    have al0_1 := k00.cell 1
    have al0_2 := k00.cell 2
    have alt0 := k00.lt
    go_wp2_with fail
    clear al0_0 al0_1 al0_2 alt0 k00
    have h0 := (h00.below hb).more hb.size
    have bhox0 := Lib.hid (Nat.le_trans hcz hc.size)
    go_at_call 14; refine (toPresence_any _ _ _ _ _ _ _ _ _ _ _ _ _ h0 hn0).mono ?_; rintro e w14 ⟨x01, x02, x03, rfl, hox0, hbn⟩
    have shox0 := Lib.hid (hox0.span)
    have zhox0 := Nat.le_refl w14.heap.size
    clear h0
    have hc := hc.trans (hbn.mono (Nat.le_trans hcz hc.size))
    have hb := hb.trans (hbn.mono hb.size)
    clear hbn
    go_wp2_with fail
    have ohox0_kx0 := Lib.hid zhox0
    have bkx0 := Lib.hid (Nat.le_trans hcz hc.size)
    obtain ⟨kx0, hbn⟩ := one_box w14 31 #[.slice (some ⟨x01, 0, none⟩) n1 n1, .slice (some ⟨x02, 0, none⟩) n2 n2, .slice (some ⟨x03, 0, none⟩) n3 n3]
    generalize w14.alloc (.cells #[.slice (some ⟨x01, 0, none⟩) n1 n1, .slice (some ⟨x02, 0, none⟩) n2 n2, .slice (some ⟨x03, 0, none⟩) n3 n3] 31) = w15 at *
    have hox0 := hox0.below hbn (Nat.le_refl _)
    have zhox0 := Nat.le_trans zhox0 hbn.size
    have hc := hc.trans (hbn.mono (Nat.le_trans hcz hc.size))
    have hb := hb.trans (hbn.mono hb.size)
    clear hbn
    go_at_call 20; refine (impl_MarkOf_any _ _ _ _ _ _ _ _ _ _ _ _ _ _ hox0.at_ hn0 wft).mono ?_; rw [HR0.out]; rw [HR1.out]; rintro e w16 ⟨rfl, hbn⟩
    have hox0 := hox0.below hbn (Nat.le_refl _)
    have zhox0 := Nat.le_trans zhox0 hbn.size
    have kx0 := kx0.below hbn kx0.lt
    have hc := hc.trans (hbn.mono (Nat.le_trans hcz hc.size))
    have hb := hb.trans (hbn.mono hb.size)
    clear hbn
    go_wp2_with fail
    have k00 := k000.below hc (by omega)
    have al0_0 := k00.cell 0
    have al0_1 := k00.cell 1
    have al0_2 := k00.cell 2
    have alt0 := k00.lt
    have kx0l0 := kx0.cell 0; have kx0l1 := kx0.cell 1; have kx0l2 := kx0.cell 2; have kx0lt := kx0.lt
    go_wp2_with fail
    clear kx0l0 kx0l1 kx0l2 kx0lt
    clear al0_0 al0_1 al0_2 alt0 k00
    have hbn : Below w16.heap.size w16 w16.drew := (Below.refl _ _).drew
    have hox0 := hox0.below hbn (Nat.le_refl _)
    have zhox0 := Nat.le_trans zhox0 hbn.size
    have kx0 := kx0.below hbn kx0.lt
    have hc := hc.trans (hbn.mono (Nat.le_trans hcz hc.size))
    have hb := hb.trans (hbn.mono hb.size)
    clear hbn
    have k0 := k000.below hc (by omega)
    have h : PresAt w16.drew w16.drew.heap.size A1 n1 A2 n2 A3 n3 hs ts ks := (h00.below hb).more hb.size
    go_region_held3 (fun w' => (w'.cell? ⟨w.heap.size, 0, none⟩ = some (.slice A1 n1 c1) ∧ w'.cell? ⟨w.heap.size, 1, none⟩ = some (.slice A2 n2 c2) ∧ w'.cell? ⟨w.heap.size, 2, none⟩ = some (.slice A3 n3 c3)) ∧ (w'.cell? ⟨w14.heap.size, 0, none⟩ = some (.slice (some ⟨x01, 0, none⟩) n1 n1) ∧ w'.cell? ⟨w14.heap.size, 1, none⟩ = some (.slice (some ⟨x02, 0, none⟩) n2 n2) ∧ w'.cell? ⟨w14.heap.size, 2, none⟩ = some (.slice (some ⟨x03, 0, none⟩) n3 n3))) (first | exact ⟨⟨k0_8.cell 0, k0_8.cell 1, k0_8.cell 2⟩, kx0_8.cell 0, kx0_8.cell 1, kx0_8.cell 2⟩ | exact ⟨⟨k0_7.cell 0, k0_7.cell 1, k0_7.cell 2⟩, kx0_7.cell 0, kx0_7.cell 1, kx0_7.cell 2⟩ | exact ⟨⟨k0.cell 0, k0.cell 1, k0.cell 2⟩, kx0.cell 0, kx0.cell 1, kx0.cell 2⟩) ((first | (go_at_call 14; refine (toPresence_any _ _ _ _ _ _ _ _ _ _ _ _ _ h hn0).mono ?_; rintro e w17 ⟨y1, y2, y3, rfl, ho7, hq7⟩; have k0_7 := k0.below hq7 k0.lt; have hox0_7 := hox0.below hq7 (Nat.le_refl _); have zhox0_7 := Nat.le_trans zhox0 hq7.size; have kx0_7 := kx0.below hq7 kx0.lt; have hc_7 := hc.trans (hq7.mono (Nat.le_trans hcz hc.size)); have hb_7 := hb.trans (hq7.mono hb.size)) | (go_at_call 16; refine (eqPresence_same _ _ _ _ _ _ _ _ _ _ _ _ _ _ _ _ _ _ _ _ _ _ hox0_7.at_ ho7.at_ hn0).mono ?_; rintro e w18 ⟨rfl, hq8⟩; have k0_8 := k0_7.below hq8 k0_7.lt; have hox0_8 := hox0_7.below hq8 (Nat.le_refl _); have zhox0_8 := Nat.le_trans zhox0_7 hq8.size; have kx0_8 := kx0_7.below hq8 kx0_7.lt; have hc_8 := hc_7.trans (hq8.mono (Nat.le_trans hcz hc_7.size)); have hb_8 := hb_7.trans (hq8.mono hb_7.size))))
    clear k0 h hox0 kx0 zhox0 hc hb k0_7 hox0_7 kx0_7 zhox0_7 hc_7 hb_7 ho7 hq7 hq8 k0_8
    have hox0 := hox0_8
    have kx0 := kx0_8
    have zhox0 := zhox0_8
    have hc := hc_8
    have hb := hb_8
    clear hox0_8 kx0_8 zhox0_8 hc_8 hb_8
    go_wp2
    go_ret
    exact ⟨rfl, hb⟩
  · have hx01 : (n1 : Int) ≤ 9223372036854775807 := by have := hm0.1; unfold maxLen at this; omega
    have hx02 : (n2 : Int) ≤ 9223372036854775807 := by have := hm0.2.1; unfold maxLen at this; omega
    have hx03 : (n3 : Int) ≤ 9223372036854775807 := by have := hm0.2.2; unfold maxLen at this; omega
    go_enter Try.func5, Try.ntmps5
    go_wp2_with fail
    obtain ⟨k000, hb⟩ := one_box w 25 #[.slice A1 n1 c1, .slice A2 n2 c2, .slice A3 n3 c3]
    generalize w.alloc (.cells #[.slice A1 n1 c1, .slice A2 n2 c2, .slice A3 n3 c3] 25) = W1 at *
    have h := (h00.below hb).more hb.size
    go_at_call 12; refine (szPresence_no _ _ _ _ _ _ _ _ _ _ _ (by omega) (by omega) (by omega) hx01 hx02 hx03).mono ?_; rintro e w1 ⟨rfl, hb4⟩
    go_wp2
    go_ret
    exact ⟨rfl, hb.trans (hb4.mono hb.size)⟩

theorem own : ownKnob Try.prog.godebug = none := by kernel_rfl
theorem laidOut : laidOutB Try.prog = true := by kernel_rfl
set_option maxRecDepth 100000 in
theorem lifted (os : Os) (started : os.Started) (H : Type) (enc : TypeId × Value → H) :
    ReturnsInHanded {} Try.checked os 5 .any (Rows.fnExactMarkOfSpec.pre6 enc Try.prog Try.f5 Rows.fnExactMarkOfRow.domain false) (Rows.fnExactMarkOfSpec.post enc Try.prog Try.f5 false true false false) := by
  refine returnsInHanded_of_change (C := Try.checked) own started (by kernel_rfl) Try.func5
    (ChangeSpec.witness6 (enc := enc) (C := Try.checked) false ⟨#[], #[.agg #[.slice none 0 0, .slice none 0 0, .slice none 0 0], .int .i64 0], []⟩ 8 (by kernel_rfl) (by kernel_rfl) (by kernel_rfl) (by kernel_rfl)) ?_
  intro W base args ds gs before hval0 hW hcnd _
  have hval : ∀ (j : Nat) t v, Try.f5.params[j]? = some t → args[j]? = some v → Value.okWide Try.prog W .any base t v := hval0
  have hW' := hW
  obtain ⟨p, q, hA0, hV, rfl, hfz, hnd⟩ := hW
  have hA : DataW.TrodAll enc Try.prog W 0 (fun _ => true) true Try.f5.params.toList args.toList ds p := hA0
  rw [Try.params5] at hA hval
  obtain ⟨v0, vs0, d0, ds0, p0, q0, hargs, rfl, rfl, h0, r0⟩ := trodAll_cons hA
  obtain ⟨v1, vs1, d1, ds1, p1, q1, rfl, rfl, rfl, h1, r1⟩ := trodAll_cons r0
  obtain ⟨rfl, rfl, rfl⟩ := trodAll_nil r1
  obtain rfl : args = #[v0, v1] := by cases args; simp_all
  obtain ⟨rfl, rfl⟩ := trodVars_none hV
  have k0 := h0
  have lt0 : ∀ x ∈ p0, x.block < W.heap.size := by obtain ⟨m, hm⟩ := k0; exact DataW.trod_lt m _ _ _ hm
  obtain ⟨A10, n10, c10, A20, n20, c20, A30, n30, c30, hs0, ts0, ks0, rfl, w0, u0⟩ := open_presence (hval 0 25 v0 rfl rfl) h0
  obtain ⟨a1, rfl, rfl, rfl, w1⟩ := open_int Try.underlying2 (hval 1 2 v1 rfl rfl) h1
  clear hA0 hval0
  refine (walk A10 n10 c10 A20 n20 c20 A30 n30 c30 hs0 ts0 ks0 a1 W w0 u0 w1).mono fun e W' ⟨he, bel⟩ => ?_
  subst he
  exact ⟨_, rfl, _, _, _, [], _, [], hW', trodAll_mk1 (shut_bool Try.underlying4 _), (trodAll_cons_mk (Below.trod laidOut (by kernel_rfl) (of_decide_eq_true (by kernel_rfl)) k0 bel lt0) (trodAll_cons_mk (shut_int Try.underlying2 w1) trodAll_mk0)), rfl, bel.frame _, fun h => by cases h⟩

theorem over : Rows.fnExactMarkOfRow.holds Try.pinned (OpenSpec.ofChange Rows.fnExactMarkOfSpec) :=
  OpenClaim.holds_of_wide 5 Try.f5 rfl rfl rfl rfl rfl rfl rfl ⟨rfl, rfl, rfl, rfl, rfl⟩ rfl rfl rfl rfl rfl (by kernel_rfl) Try.func5 (by kernel_rfl)
    (of_decide_eq_true (by kernel_rfl)) (by unfold Func.isWrapper; first | (rw [if_pos (by decide +kernel)]; kernel_rfl) | (rw [if_neg (by decide +kernel)]; exact ⟨rfl, rfl⟩))
    (fun os started H enc _ => lifted os started H enc)

theorem proved : Rows.FnExactMarkOfSaid := over
#print axioms proved
end Go.Proofs.Ytgomffcdoglbfaa.fnExactMarkOf
