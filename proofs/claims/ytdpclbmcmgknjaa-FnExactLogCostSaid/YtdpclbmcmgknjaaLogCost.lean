/-
  LogCost answers as its model for every log, and leaves its argument as it was: the law returns true for every log. No condition.
-/
import Derived.Test.YtdpclbmcmgknjaaRows
import Derived.WalkKit
import Derived.ProofKit
import Derived.OpenShut
import Derived.ShutString
import Derived.ChangeOld
import Derived.Below
import Derived.Lib.Hide
import Derived.Deep.RegionHeld3
import Derived.Test.YtdpclbmcmgknjaaCstS
import Derived.Test.YtdpclbmcmgknjaaCstI
import Derived.Test.YtdpclbmcmgknjaaMsgA
import Derived.Test.YtdpclbmcmgknjaaLogM
namespace Go.Proofs.Ytdpclbmcmgknjaa.fnExactLogCost
open Go.ChangeShapes Go.WideShapes Go.ChangeAt Go.RowKit
open Go.ChangeMaps (open_string shut_string)
set_option linter.unusedVariables false
set_option maxRecDepth 100000
set_option maxHeartbeats 6400000 in
theorem walk (x : Int) (A : Option Addr) (n c : Nat) (rs : List Rm) (w : World) (h00 : LogOk w A n rs) (wfx : (Lit.int .i64 x).wf = true) :
    Calls Try.prog 5 #[.agg #[.int .i64 x, .slice A n c]] w fun e w' => e = .returned (.bool true) ∧ Below w.heap.size w w' := by
  obtain ⟨r0, hr0⟩ : ∃ z, (if logB x (mgs rs) = true then logC (mgs rs) else 0) = z := ⟨_, rfl⟩
  have HR0 := Lib.hid hr0
  clear hr0
  obtain ⟨r1, hr1⟩ : ∃ z, (logB x (mgs rs)) = z := ⟨_, rfl⟩
  have HR1 := Lib.hid hr1
  clear hr1
  by_cases hA0 : (0 : Int) ≤ (1048576 : Int) - (logSize rs : Int)
  · have hn0 : logSize rs ≤ 1048576 := by omega
    have HFIT := Lib.hid (fit_of h00.1 hn0)
    have HSUM := Lib.hid (likeLen_le h00.1 hn0)
    have hnn := fit_n h00.1 HFIT.out
    go_enter Try.func5, Try.ntmps5
    go_wp2_with fail
    obtain ⟨k000, hb⟩ := one_box w 33 #[.int .i64 x, .slice A n c]
    have hc := Below.refl (w.heap.size + 1) (w.alloc (.cells #[.int .i64 x, .slice A n c] 33))
    have hcz : w.heap.size + 1 ≤ (w.alloc (.cells #[.int .i64 x, .slice A n c] 33)).heap.size := by simp
    generalize w.alloc (.cells #[.int .i64 x, .slice A n c] 33) = W1 at *
    have x0 : ¬ ((1048576 : Int) - (logSize rs : Int) < 0) := by omega
    have h0 := (h00.1.below hb).more hb.size
    go_at_call 19; refine (szLog_ok _ _ _ _ _ _ _ h0 (by omega) (by omega)).mono ?_; rintro e w11 ⟨rfl, hbn⟩
    clear h0
    have hc := hc.trans (hbn.mono (Nat.le_trans hcz hc.size))
    have hb := hb.trans (hbn.mono hb.size)
    clear hbn
    have k00 := k000.below hc (by omega)
    have al0_0 := k00.cell 0
    have al0_1 := k00.cell 1
    have alt0 := k00.lt
    go_wp2_with fail
    clear al0_0 al0_1 alt0 k00
    have h0 := (h00.1.below hb).more hb.size
    have bhoq1 := Lib.hid (Nat.le_trans hcz hc.size)
    go_at_call 21; refine (toLog_any _ _ _ _ _ _ h0 hn0).mono ?_; rintro e w12 ⟨q1, hoq1r, rfl, hhoq1s, hoq1, hbn⟩
    have Hhhoq1s := Lib.hid hhoq1s
    clear hhoq1s
    have shoq1 := Lib.hid (hoq1.span)
    have zhoq1 := Nat.le_refl w12.heap.size
    clear h0
    have hc := hc.trans (hbn.mono (Nat.le_trans hcz hc.size))
    have hb := hb.trans (hbn.mono hb.size)
    clear hbn
    go_wp2_with fail
    go_at_call 20; refine (spec_LogCost_any _ _ _ _ _ _ hoq1.at_ (by rw [Hhhoq1s.out]; exact HFIT.out)).mono ?_; rw [Hhhoq1s.out]; rw [HR0.out]; rw [HR1.out]; rintro e w13 ⟨rfl, hbn⟩
    have hoq1 := hoq1.below hbn (Nat.le_refl _)
    have zhoq1 := Nat.le_trans zhoq1 hbn.size
    have hc := hc.trans (hbn.mono (Nat.le_trans hcz hc.size))
    have hb := hb.trans (hbn.mono hb.size)
    clear hbn
    clear hoq1
    have k00 := k000.below hc (by omega)
    have al0_0 := k00.cell 0; have al0_1 := k00.cell 1; have alt0 := k00.lt
    go_wp2_with fail
    clear al0_0 al0_1 alt0 k00
    have h0 := (h00.1.below hb).more hb.size
    have bhox0 := Lib.hid (Nat.le_trans hcz hc.size)
    go_at_call 21; refine (toLog_any _ _ _ _ _ _ h0 hn0).mono ?_; rintro e w14 ⟨x0, hox0r, rfl, hhox0s, hox0, hbn⟩
    have Hhhox0s := Lib.hid hhox0s
    clear hhox0s
    have shox0 := Lib.hid (hox0.span)
    have zhox0 := Nat.le_refl w14.heap.size
    clear h0
    have hc := hc.trans (hbn.mono (Nat.le_trans hcz hc.size))
    have hb := hb.trans (hbn.mono hb.size)
    clear hbn
    go_wp2_with fail
    have ohox0_kx0 := Lib.hid zhox0
    have bkx0 := Lib.hid (Nat.le_trans hcz hc.size)
    obtain ⟨kx0, hbn⟩ := one_box w14 38 #[.int .i64 x, .slice (some ⟨x0, 0, none⟩) n n]
    generalize w14.alloc (.cells #[.int .i64 x, .slice (some ⟨x0, 0, none⟩) n n] 38) = w15 at *
    have hox0 := hox0.below hbn (Nat.le_refl _)
    have zhox0 := Nat.le_trans zhox0 hbn.size
    have hc := hc.trans (hbn.mono (Nat.le_trans hcz hc.size))
    have hb := hb.trans (hbn.mono hb.size)
    clear hbn
    go_at_call 22; refine (impl_LogCost_any _ _ _ _ _ _ hox0.at_ (by rw [Hhhox0s.out]; exact HFIT.out)).mono ?_; rw [Hhhox0s.out]; rw [HR0.out]; rw [HR1.out]; rintro e w16 ⟨rfl, hbn⟩
    have hox0 := hox0.below hbn (Nat.le_refl _)
    have zhox0 := Nat.le_trans zhox0 hbn.size
    have kx0 := kx0.below hbn kx0.lt
    have hc := hc.trans (hbn.mono (Nat.le_trans hcz hc.size))
    have hb := hb.trans (hbn.mono hb.size)
    clear hbn
    go_wp2_with fail
    have k00 := k000.below hc (by omega)
    have al0_0 := k00.cell 0; have al0_1 := k00.cell 1; have alt0 := k00.lt
    have kx0l0 := kx0.cell 0; have kx0l1 := kx0.cell 1; have kx0lt := kx0.lt
    go_wp2_with fail
    clear kx0l0 kx0l1 kx0lt
    clear al0_0 al0_1 alt0 k00
    have hbn : Below w16.heap.size w16 w16.drew := (Below.refl _ _).drew
    have hox0 := hox0.below hbn (Nat.le_refl _)
    have zhox0 := Nat.le_trans zhox0 hbn.size
    have kx0 := kx0.below hbn kx0.lt
    have hc := hc.trans (hbn.mono (Nat.le_trans hcz hc.size))
    have hb := hb.trans (hbn.mono hb.size)
    clear hbn
    have k0 := k000.below hc (by omega)
    have h : LogAt w16.drew w16.drew.heap.size A n rs := (h00.1.below hb).more hb.size
    go_region_held3 (fun w' => (w'.cell? ⟨w.heap.size, 0, none⟩ = some (.int .i64 x) ∧ w'.cell? ⟨w.heap.size, 1, none⟩ = some (.slice A n c)) ∧ (w'.cell? ⟨w14.heap.size, 0, none⟩ = some (.int .i64 x) ∧ w'.cell? ⟨w14.heap.size, 1, none⟩ = some (.slice (some ⟨x0, 0, none⟩) n n))) (first | exact ⟨⟨k0_8.cell 0, k0_8.cell 1⟩, kx0_8.cell 0, kx0_8.cell 1⟩ | exact ⟨⟨k0_7.cell 0, k0_7.cell 1⟩, kx0_7.cell 0, kx0_7.cell 1⟩ | exact ⟨⟨k0.cell 0, k0.cell 1⟩, kx0.cell 0, kx0.cell 1⟩) ((first | (go_at_call 21; refine (toLog_any _ _ _ _ _ _ h hn0).mono ?_; rintro e w17 ⟨y, ho7r, rfl, hho7s, ho7, hq7⟩; have Hhho7s := Lib.hid hho7s; clear hho7s; have k0_7 := k0.below hq7 k0.lt; have hox0_7 := hox0.below hq7 (Nat.le_refl _); have zhox0_7 := Nat.le_trans zhox0 hq7.size; have kx0_7 := kx0.below hq7 kx0.lt; have hc_7 := hc.trans (hq7.mono (Nat.le_trans hcz hc.size)); have hb_7 := hb.trans (hq7.mono hb.size)) | (go_at_call 23; refine (eqLog_same _ _ _ _ _ _ _ _ _ _ hox0_7.at_ ho7.at_ (Hhhox0s.out.trans Hhho7s.out.symm) (by rw [Hhhox0s.out]; exact HFIT.out)).mono ?_; rintro e w18 ⟨rfl, hq8⟩; have k0_8 := k0_7.below hq8 k0_7.lt; have hox0_8 := hox0_7.below hq8 (Nat.le_refl _); have zhox0_8 := Nat.le_trans zhox0_7 hq8.size; have kx0_8 := kx0_7.below hq8 kx0_7.lt; have hc_8 := hc_7.trans (hq8.mono (Nat.le_trans hcz hc_7.size)); have hb_8 := hb_7.trans (hq8.mono hb_7.size))))
    clear k0 h hox0 kx0 zhox0 hc hb k0_7 hox0_7 kx0_7 zhox0_7 hc_7 hb_7 ho7 hq7 hq8 k0_8 Hhho7s
    have hox0 := hox0_8
    have kx0 := kx0_8
    have zhox0 := zhox0_8
    have hc := hc_8
    have hb := hb_8
    clear hox0_8 kx0_8 zhox0_8 hc_8 hb_8
    go_wp2
    go_ret
    exact ⟨rfl, hb⟩
  · have hx01 : (n : Int) ≤ 9223372036854775807 := by have := h00.2.1; unfold maxLen at this; omega
    go_enter Try.func5, Try.ntmps5
    go_wp2_with fail
    obtain ⟨k000, hb⟩ := one_box w 33 #[.int .i64 x, .slice A n c]
    have hc := Below.refl (w.heap.size + 1) (w.alloc (.cells #[.int .i64 x, .slice A n c] 33))
    have hcz : w.heap.size + 1 ≤ (w.alloc (.cells #[.int .i64 x, .slice A n c] 33)).heap.size := by simp
    generalize w.alloc (.cells #[.int .i64 x, .slice A n c] 33) = W1 at *
    have h0 := (h00.1.below hb).more hb.size
    go_at_call 19; refine (szLog_no _ _ _ _ _ _ _ h0 (by omega) (by omega) (by omega) hx01 h00.2.2).mono ?_; rintro e w10 ⟨rfl, hb4⟩
    go_wp2
    go_ret
    exact ⟨rfl, hb.trans (hb4.mono hb.size)⟩

theorem own : ownKnob Try.prog.godebug = none := by kernel_rfl
theorem laidOut : laidOutB Try.prog = true := by kernel_rfl
set_option maxRecDepth 100000 in
theorem lifted (os : Os) (started : os.Started) (H : Type) (enc : TypeId × Value → H) :
    ReturnsInHanded {} Try.checked os 5 .any (Rows.fnExactLogCostSpec.pre6 enc Try.prog Try.f5 Rows.fnExactLogCostRow.domain false) (Rows.fnExactLogCostSpec.post enc Try.prog Try.f5 false true false false) := by
  refine returnsInHanded_of_change (C := Try.checked) own started (by kernel_rfl) Try.func5
    (ChangeSpec.witness6 (enc := enc) (C := Try.checked) false ⟨#[], #[.agg #[.int .i64 0, .slice none 0 0]], []⟩ 8 (by kernel_rfl) (by kernel_rfl) (by kernel_rfl) (by kernel_rfl)) ?_
  intro W base args ds gs before hval0 hW hcnd _
  have hval : ∀ (j : Nat) t v, Try.f5.params[j]? = some t → args[j]? = some v → Value.okWide Try.prog W .any base t v := hval0
  have hW' := hW
  obtain ⟨p, q, hA0, hV, rfl, hfz, hnd⟩ := hW
  have hA : DataW.TrodAll enc Try.prog W 0 (fun _ => true) true Try.f5.params.toList args.toList ds p := hA0
  rw [Try.params5] at hA hval
  obtain ⟨v0, vs0, d0, ds0, p0, q0, hargs, rfl, rfl, h0, r0⟩ := trodAll_cons hA
  obtain ⟨rfl, rfl, rfl⟩ := trodAll_nil r0
  obtain rfl : args = #[v0] := by cases args; simp_all
  obtain ⟨rfl, rfl⟩ := trodVars_none hV
  have k0 := h0
  have lt0 : ∀ x ∈ p0, x.block < W.heap.size := by obtain ⟨m, hm⟩ := k0; exact DataW.trod_lt m _ _ _ hm
  obtain ⟨x0, A0, n0, c0, rs0, rfl, w0, u0⟩ := open_log (hval 0 33 v0 rfl rfl) h0
  clear hA0 hval0
  refine (walk x0 A0 n0 c0 rs0 W w0 u0).mono fun e W' ⟨he, bel⟩ => ?_
  subst he
  exact ⟨_, rfl, _, _, _, [], _, [], hW', trodAll_mk1 (shut_bool Try.underlying4 _), (trodAll_cons_mk (Below.trod laidOut (by kernel_rfl) (of_decide_eq_true (by kernel_rfl)) k0 bel lt0) trodAll_mk0), rfl, bel.frame _, fun h => by cases h⟩

theorem over : Rows.fnExactLogCostRow.holds Try.pinned (OpenSpec.ofChange Rows.fnExactLogCostSpec) :=
  OpenClaim.holds_of_wide 5 Try.f5 rfl rfl rfl rfl rfl rfl rfl ⟨rfl, rfl, rfl, rfl, rfl⟩ rfl rfl rfl rfl rfl (by kernel_rfl) Try.func5 (by kernel_rfl)
    (of_decide_eq_true (by kernel_rfl)) (by unfold Func.isWrapper; first | (rw [if_pos (by decide +kernel)]; kernel_rfl) | (rw [if_neg (by decide +kernel)]; exact ⟨rfl, rfl⟩))
    (fun os started H enc _ => lifted os started H enc)

theorem proved : Rows.FnExactLogCostSaid := over
#print axioms proved
end Go.Proofs.Ytdpclbmcmgknjaa.fnExactLogCost
