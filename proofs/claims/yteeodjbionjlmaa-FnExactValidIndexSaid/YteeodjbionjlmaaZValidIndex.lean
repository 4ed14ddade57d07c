/-
  ValidIndex answers as its model for every index, and leaves its argument as it was: the law returns true for every index. No condition.
-/
import Derived.Test.YteeodjbionjlmaaRows
import Derived.WalkKit
import Derived.ProofKit
import Derived.OpenShut
import Derived.ShutString
import Derived.ChangeOld
import Derived.Below
import Derived.Lib.Hide
import Derived.Deep.RegionHeld3
import Derived.Test.YteeodjbionjlmaaZIdxV
import Derived.Test.YteeodjbionjlmaaZIdxA
namespace Go.Proofs.Yteeodjbionjlmaa.fnExactValidIndex
open Go.ChangeShapes Go.WideShapes Go.ChangeAt Go.RowKit
open Go.ChangeMaps (open_string shut_string)
set_option linter.unusedVariables false
set_option maxRecDepth 100000
set_option maxHeartbeats 3200000 in
theorem walk (A : Option Addr) (n c : Nat) (rs : List Re) (w : World) (h0 : IdxOk w A n rs) :
    Calls Try.prog 10 #[.agg #[.slice A n c]] w fun e w' => e = .returned (.bool true) ∧ Below w.heap.size w w' := by
  obtain ⟨z0, hz0⟩ : ∃ z, idxE (ens rs) = z := ⟨_, rfl⟩
  have HR0 := Lib.hid hz0
  clear hz0
  by_cases hs : idxSize rs ≤ 1048576
  · have HFIT := Lib.hid (fitE_of h0.1 hs)
    go_enter Try.func10, Try.ntmps10
    go_wp2_with fail
    obtain ⟨k0, hb0⟩ := one_box w 47 #[.slice A n c]
    generalize w.alloc (.cells #[.slice A n c] 47) = W at *
    have h := (h0.1.below hb0).more hb0.size
    have x1 : ¬ ((1048576 : Int) - (idxSize rs : Int) < 0) := by omega
    go_at_call 37; refine (szIndex_ok _ _ _ _ _ _ h (by omega) (by omega)).mono ?_; rintro e w1 ⟨rfl, hb1⟩
    have h := h.to hb1
    have k0 := k0.below hb1 k0.lt
    have hb0 := hb0.trans (hb1.mono hb0.size)
    clear hb1
    have l0 := k0.cell 0; have lt0 := k0.lt
    go_wp2_with fail
    go_at_call 39; refine (toIndex_any _ _ _ _ _ h hs).mono ?_; rintro e w2 ⟨g1, ts, rfl, hts, ho2, hb1⟩
    have HTS := Lib.hid hts
    clear hts
    have h := h.to hb1
    have k0 := k0.below hb1 k0.lt
    have hb0 := hb0.trans (hb1.mono hb0.size)
    clear hb1
    clear l0 lt0
    go_wp2_with fail
    go_at_call 38; refine (spec_ValidIndex_e _ _ _ _ _ ho2.at_ (by rw [HTS.out]; exact HFIT.out)).mono ?_; rw [HTS.out]; rw [HR0.out]; rintro e w3 ⟨rfl, hb1⟩
    have h := h.to hb1
    have k0 := k0.below hb1 k0.lt
    have hb0 := hb0.trans (hb1.mono hb0.size)
    clear hb1
    clear ho2
    have l0 := k0.cell 0; have lt0 := k0.lt
    go_wp2_with fail
    go_at_call 39; refine (toIndex_any _ _ _ _ _ h hs).mono ?_; rintro e w4 ⟨g2, us, rfl, hus, ho4, hb1⟩
    have HUS := Lib.hid hus
    clear hus
    have h := h.to hb1
    have k0 := k0.below hb1 k0.lt
    have hb0 := hb0.trans (hb1.mono hb0.size)
    clear hb1
    clear l0 lt0
    go_wp2_with fail
    obtain ⟨kx, hb1⟩ := one_box w4 52 #[.slice (some ⟨g2, 0, none⟩) n n]
    generalize w4.alloc (.cells #[.slice (some ⟨g2, 0, none⟩) n n] 52) = w5 at *
    have h := h.to hb1
    have k0 := k0.below hb1 k0.lt
    have ho := ho4.below hb1 (Nat.le_refl _)
    have hb0 := hb0.trans (hb1.mono hb0.size)
    clear hb1 ho4
    go_at_call 40; refine (impl_ValidIndex_e _ _ _ _ _ ho.at_ (by rw [HUS.out]; exact HFIT.out)).mono ?_; rw [HUS.out]; rw [HR0.out]; rintro e w6 ⟨rfl, hb1⟩
    have h := h.to hb1
    have k0 := k0.below hb1 k0.lt
    have kx := kx.below hb1 kx.lt
    have ho := ho.below hb1 (Nat.le_refl _)
    have hb0 := hb0.trans (hb1.mono hb0.size)
    clear hb1
    go_wp2_with fail
    have h : IdxAt w6.drew w6.drew.heap.size A n rs := h
    have k0 : Blk w6.drew w.heap.size 47 #[.slice A n c] := k0
    have kx : Blk w6.drew w4.heap.size 52 #[.slice (some ⟨g2, 0, none⟩) n n] := kx
    have ho : IdxOwn w6.drew w3.heap.size (some ⟨g2, 0, none⟩) n n us := ho
    have hb0 : Below w.heap.size w w6.drew := hb0.drew
    go_region_held3 (fun w' => (w'.cell? ⟨w.heap.size, 0, none⟩ = some (.slice A n c)) ∧ (w'.cell? ⟨w4.heap.size, 0, none⟩ = some (.slice (some ⟨g2, 0, none⟩) n n))) (first | exact ⟨k8.cell 0, kx8.cell 0⟩ | exact ⟨k7.cell 0, kx7.cell 0⟩ | exact ⟨k0.cell 0, kx.cell 0⟩) ((first | (go_at_call 39; refine (toIndex_any _ _ _ _ _ h hs).mono ?_; rintro e w7 ⟨g7, vs, rfl, hvs, ho7, hb7⟩; have k7 := k0.below hb7 k0.lt; have kx7 := kx.below hb7 kx.lt; have hx7 := ho.below hb7 (Nat.le_refl _); have hb07 := hb0.trans (hb7.mono hb0.size); have HVS := Lib.hid hvs; clear hvs) | (go_at_call 41; refine (eqIndex_same _ _ _ _ _ _ _ _ _ hx7.at_ ho7.at_ (HUS.out.trans HVS.out.symm) (by rw [HUS.out]; exact HFIT.out)).mono ?_; rintro e w8 ⟨rfl, hb8⟩; have k8 := k7.below hb8 k7.lt; have kx8 := kx7.below hb8 kx7.lt; have hb08 := hb07.trans (hb8.mono hb07.size))))
    go_wp2
    go_ret
    exact ⟨rfl, hb08⟩
  · have hb1 : (n : Int) ≤ 9223372036854775807 := by have := h0.2.1; unfold maxLen at this; omega
    go_enter Try.func10, Try.ntmps10
    go_wp2_with fail
    obtain ⟨k0, hb0⟩ := one_box w 47 #[.slice A n c]
    generalize w.alloc (.cells #[.slice A n c] 47) = W at *
    go_at_call 37; refine (szIndex_no _ _ _ _ _ _ ((h0.1.below hb0).more hb0.size) (by omega) (by omega) (by omega) hb1 h0.2.2).mono ?_; rintro e w1 ⟨rfl, hb4⟩
    have hb0 := hb0.trans (hb4.mono hb0.size)
    go_wp2
    go_ret
    exact ⟨rfl, hb0⟩

theorem own : ownKnob Try.prog.godebug = none := by kernel_rfl
theorem laidOut : laidOutB Try.prog = true := by kernel_rfl
set_option maxRecDepth 100000 in
theorem lifted (os : Os) (started : os.Started) (H : Type) (enc : TypeId × Value → H) :
    ReturnsInHanded {} Try.checked os 10 .any (Rows.fnExactValidIndexSpec.pre6 enc Try.prog Try.f10 Rows.fnExactValidIndexRow.domain false) (Rows.fnExactValidIndexSpec.post enc Try.prog Try.f10 false true false false) := by
  refine returnsInHanded_of_change (C := Try.checked) own started (by kernel_rfl) Try.func10
    (ChangeSpec.witness6 (enc := enc) (C := Try.checked) false ⟨#[], #[.agg #[.slice none 0 0]], []⟩ 8 (by kernel_rfl) (by kernel_rfl) (by kernel_rfl) (by kernel_rfl)) ?_
  intro W base args ds gs before hval0 hW hcnd _
  have hval : ∀ (j : Nat) t v, Try.f10.params[j]? = some t → args[j]? = some v → Value.okWide Try.prog W .any base t v := hval0
  have hW' := hW
  obtain ⟨p, q, hA0, hV, rfl, hfz, hnd⟩ := hW
  have hA : DataW.TrodAll enc Try.prog W 0 (fun _ => true) true Try.f10.params.toList args.toList ds p := hA0
  rw [Try.params10] at hA hval
  obtain ⟨v0, vs0, d0, ds0, p0, q0, hargs, rfl, rfl, h0, r0⟩ := trodAll_cons hA
  obtain ⟨rfl, rfl, rfl⟩ := trodAll_nil r0
  obtain rfl : args = #[v0] := by cases args; simp_all
  obtain ⟨rfl, rfl⟩ := trodVars_none hV
  have k0 := h0
  have lt0 : ∀ x ∈ p0, x.block < W.heap.size := by obtain ⟨m, hm⟩ := k0; exact DataW.trod_lt m _ _ _ hm
  obtain ⟨A0, n0, c0, rs0, rfl, w0⟩ := open_index (hval 0 47 v0 rfl rfl) h0
  clear hA0 hval0
  refine (walk A0 n0 c0 rs0 W w0).mono fun e W' ⟨he, bel⟩ => ?_
  subst he
  exact ⟨_, rfl, _, _, _, [], _, [], hW', trodAll_mk1 (shut_bool Try.underlying4 _), (trodAll_cons_mk (Below.trod laidOut (by kernel_rfl) (of_decide_eq_true (by kernel_rfl)) k0 bel lt0) trodAll_mk0), rfl, bel.frame _, fun h => by cases h⟩

theorem over : Rows.fnExactValidIndexRow.holds Try.pinned (OpenSpec.ofChange Rows.fnExactValidIndexSpec) :=
  OpenClaim.holds_of_wide 10 Try.f10 rfl rfl rfl rfl rfl rfl rfl ⟨rfl, rfl, rfl, rfl, rfl⟩ rfl rfl rfl rfl rfl (by kernel_rfl) Try.func10 (by kernel_rfl)
    (of_decide_eq_true (by kernel_rfl)) (by unfold Func.isWrapper; first | (rw [if_pos (by decide +kernel)]; kernel_rfl) | (rw [if_neg (by decide +kernel)]; exact ⟨rfl, rfl⟩))
    (fun os started H enc _ => lifted os started H enc)

theorem proved : Rows.FnExactValidIndexSaid := over
#print axioms proved
end Go.Proofs.Yteeodjbionjlmaa.fnExactValidIndex
