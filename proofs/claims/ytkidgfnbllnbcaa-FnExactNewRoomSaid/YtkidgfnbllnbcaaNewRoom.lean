/-
  NewRoom answers as its model for all arguments, every field, writes into no argument, and its answer owns its memory: the law returns true for all arguments. No condition.
-/
import Derived.Test.YtkidgfnbllnbcaaRows
import Derived.WalkKit
import Derived.ProofKit
import Derived.OpenShut
import Derived.ShutString
import Derived.ChangeOld
import Derived.Below
import Derived.Lib.Hide
import Derived.Test.YtkidgfnbllnbcaaNewC
import Derived.Test.YtkidgfnbllnbcaaRoomA
import Derived.Test.YtkidgfnbllnbcaaRoomW
namespace Go.Proofs.Ytkidgfnbllnbcaa.fnExactNewRoom
open Go.ChangeShapes Go.WideShapes Go.ChangeAt Go.RowKit
open Go.ChangeMaps (open_string shut_string)
set_option linter.unusedVariables false
set_option maxHeartbeats 3200000 in
theorem walk (p : Int) (at_ : Int) (o : Bool) (w : World) (w0 : (Lit.int .i64 p).wf = true) (w1 : (Lit.int .i64 at_).wf = true) :
    Calls Try.prog 5 #[.int .i64 p, .int .i64 at_, .bool o] w fun e w' => e = .returned (.bool true) ∧ Below w.heap.size w w' := by
  generalize hr : newS p at_ o = r
  have HR := Lib.hid hr
  clear hr w0 w1
  go_enter Try.func5, Try.ntmps5
  go_wp2_with fail
  have hb : Below w.heap.size w w := Below.refl _ _
  go_at_call 15; refine (spec_NewRoom_any _ _ _ _).mono ?_; rw [HR.out]; rintro e w11 ⟨V1, Vn1, Vc1, V2, Vn2, Vc2, V3, Vn3, Vc3, rfl, how, hbn, hsw⟩
  have hb := hb.trans hbn
  clear hbn
  go_wp2_with fail
  obtain ⟨kw, hbn⟩ := one_box w11 33 #[.bool r.o, .slice V1 Vn1 Vc1, .slice V2 Vn2 Vc2, .slice V3 Vn3 Vc3]
  generalize w11.alloc (.cells #[.bool r.o, .slice V1 Vn1 Vc1, .slice V2 Vn2 Vc2, .slice V3 Vn3 Vc3] 33) = w12 at *
  have how := how.below hbn (Nat.le_refl _)
  have hb := hb.trans (hbn.mono hb.size)
  clear hbn
  go_at_call 16; refine (impl_NewRoom_any _ _ _ _).mono ?_; rw [HR.out]; rintro e w13 ⟨G1, Gn1, Gc1, G2, Gn2, Gc2, G3, Gn3, Gc3, rfl, hog, hbn, hsg⟩
  have hwg := room_off how hog
  have hbB := hb.size
  have kw := kw.below hbn kw.lt
  have how := how.below hbn (Nat.le_refl _)
  have hb := hb.trans (hbn.mono hb.size)
  clear hbn
  have kwl0 := kw.cell 0
  have kwl1 := kw.cell 1
  have kwl2 := kw.cell 2
  have kwl3 := kw.cell 3
  have kwt := kw.lt
  go_wp2_with fail
  clear kwl0 kwl1 kwl2 kwl3 kwt
  obtain ⟨kg, hbn⟩ := one_box w13 33 #[.bool r.o, .slice G1 Gn1 Gc1, .slice G2 Gn2 Gc2, .slice G3 Gn3 Gc3]
  generalize w13.alloc (.cells #[.bool r.o, .slice G1 Gn1 Gc1, .slice G2 Gn2 Gc2, .slice G3 Gn3 Gc3] 33) = w14 at *
  have kw := kw.below hbn kw.lt
  have how := how.below hbn (Nat.le_refl _)
  have hog := hog.below hbn (Nat.le_refl _)
  have hb := hb.trans (hbn.mono hb.size)
  clear hbn
  go_at_call 12; refine (eqRoom_same _ _ _ _ _ _ _ _ _ _ _ _ _ _ _ _ _ _ _ _ _ _ _ hog.at_ how.at_ hsg).mono ?_; rintro e w15 ⟨rfl, hbn⟩
  have kw := kw.below hbn kw.lt
  have kg := kg.below hbn kg.lt
  have how := how.below hbn (Nat.le_refl _)
  have hog := hog.below hbn (Nat.le_refl _)
  have hb := hb.trans (hbn.mono hb.size)
  clear hbn
  have kgl0 := kg.cell 0
  have kgl1 := kg.cell 1
  have kgl2 := kg.cell 2
  have kgl3 := kg.cell 3
  go_wp2_with fail
  go_at_call 17; refine (markRoom_any _ _ _ _ _ _ _ _ _ _ 1 _ _ _ _ _ hog hsg (by omega)).mono ?_; rintro e w16 ⟨rfl, hm, hkp, hbl, hsz, hbk⟩
  clear kgl0 kgl1 kgl2 kgl3
  have kw := hbk _ _ _ kw (by decide) (by decide) (by decide)
  have kg := hbk _ _ _ kg (by decide) (by decide) (by decide)
  have how := room_kept how hkp hwg
  have hog := hm
  have hb := hbl _ _ hb hbB hb.size
  clear hm hkp hbl hsz hbk
  have kgl0 := kg.cell 0
  have kgl1 := kg.cell 1
  have kgl2 := kg.cell 2
  have kgl3 := kg.cell 3
  go_wp2_with fail
  go_at_call 18; refine (heldRoom_any _ _ _ _ _ _ _ _ _ _ 1 _ hog.at_ hsg (by omega)).mono ?_; rintro e w17 ⟨rfl, hbn⟩
  clear kgl0 kgl1 kgl2 kgl3
  have kw := kw.below hbn kw.lt
  have kg := kg.below hbn kg.lt
  have how := how.below hbn (Nat.le_refl _)
  have hog := hog.below hbn (Nat.le_refl _)
  have hb := hb.trans (hbn.mono hb.size)
  clear hbn
  go_wp2_with fail
  go_at_call 16; refine (impl_NewRoom_any _ _ _ _).mono ?_; rw [HR.out]; rintro e w18 ⟨H1, Hn1, Hc1, H2, Hn2, Hc2, H3, Hn3, Hc3, rfl, hoh, hbn, hsh⟩
  have kw := kw.below hbn kw.lt
  have kg := kg.below hbn kg.lt
  have how := how.below hbn (Nat.le_refl _)
  have hog := hog.below hbn (Nat.le_refl _)
  have hb := hb.trans (hbn.mono hb.size)
  clear hbn
  have kwl0 := kw.cell 0
  have kwl1 := kw.cell 1
  have kwl2 := kw.cell 2
  have kwl3 := kw.cell 3
  have kwt := kw.lt
  go_wp2_with fail
  clear kwl0 kwl1 kwl2 kwl3 kwt
  obtain ⟨kh, hbn⟩ := one_box w18 33 #[.bool r.o, .slice H1 Hn1 Hc1, .slice H2 Hn2 Hc2, .slice H3 Hn3 Hc3]
  generalize w18.alloc (.cells #[.bool r.o, .slice H1 Hn1 Hc1, .slice H2 Hn2 Hc2, .slice H3 Hn3 Hc3] 33) = w19 at *
  have kw := kw.below hbn kw.lt
  have kg := kg.below hbn kg.lt
  have how := how.below hbn (Nat.le_refl _)
  have hog := hog.below hbn (Nat.le_refl _)
  have hoh := hoh.below hbn (Nat.le_refl _)
  have hb := hb.trans (hbn.mono hb.size)
  clear hbn
  go_at_call 12; refine (eqRoom_same _ _ _ _ _ _ _ _ _ _ _ _ _ _ _ _ _ _ _ _ _ _ _ hoh.at_ how.at_ hsh).mono ?_; rintro e w20 ⟨rfl, hbn⟩
  have kw := kw.below hbn kw.lt
  have kg := kg.below hbn kg.lt
  have kh := kh.below hbn kh.lt
  have how := how.below hbn (Nat.le_refl _)
  have hog := hog.below hbn (Nat.le_refl _)
  have hoh := hoh.below hbn (Nat.le_refl _)
  have hb := hb.trans (hbn.mono hb.size)
  clear hbn
  have kgl0 := kg.cell 0
  have kgl1 := kg.cell 1
  have kgl2 := kg.cell 2
  have kgl3 := kg.cell 3
  go_wp2_with fail
  go_at_call 18; refine (heldRoom_any _ _ _ _ _ _ _ _ _ _ 1 _ hog.at_ hsg (by omega)).mono ?_; rintro e w21 ⟨rfl, hbn⟩
  clear kgl0 kgl1 kgl2 kgl3
  have kw := kw.below hbn kw.lt
  have kg := kg.below hbn kg.lt
  have kh := kh.below hbn kh.lt
  have how := how.below hbn (Nat.le_refl _)
  have hog := hog.below hbn (Nat.le_refl _)
  have hoh := hoh.below hbn (Nat.le_refl _)
  have hb := hb.trans (hbn.mono hb.size)
  clear hbn
  go_wp2
  go_ret
  exact ⟨rfl, hb⟩

theorem own : ownKnob Try.prog.godebug = none := by kernel_rfl
theorem laidOut : laidOutB Try.prog = true := by kernel_rfl
set_option maxRecDepth 100000 in
theorem lifted (os : Os) (started : os.Started) (H : Type) (enc : TypeId × Value → H) :
    ReturnsInHanded {} Try.checked os 5 .any (Rows.fnExactNewRoomSpec.pre6 enc Try.prog Try.f5 Rows.fnExactNewRoomRow.domain false) (Rows.fnExactNewRoomSpec.post enc Try.prog Try.f5 false true false false) := by
  refine returnsInHanded_of_change (C := Try.checked) own started (by kernel_rfl) Try.func5
    (ChangeSpec.witness6 (enc := enc) (C := Try.checked) false ⟨#[], #[.int .i64 0, .int .i64 0, .bool false], []⟩ 8 (by kernel_rfl) (by kernel_rfl) (by kernel_rfl) (by kernel_rfl)) ?_
  intro W base args ds gs before hval0 hW hcnd _
  have hval : ∀ (j : Nat) t v, Try.f5.params[j]? = some t → args[j]? = some v → Value.okWide Try.prog W .any base t v := hval0
  have hW' := hW
  obtain ⟨p, q, hA0, hV, rfl, hfz, hnd⟩ := hW
  have hA : DataW.TrodAll enc Try.prog W 0 (fun _ => true) true Try.f5.params.toList args.toList ds p := hA0
  rw [Try.params5] at hA hval
  obtain ⟨v0, vs0, d0, ds0, p0, q0, hargs, rfl, rfl, h0, r0⟩ := trodAll_cons hA
  obtain ⟨v1, vs1, d1, ds1, p1, q1, rfl, rfl, rfl, h1, r1⟩ := trodAll_cons r0
  obtain ⟨v2, vs2, d2, ds2, p2, q2, rfl, rfl, rfl, h2, r2⟩ := trodAll_cons r1
  obtain ⟨rfl, rfl, rfl⟩ := trodAll_nil r2
  obtain rfl : args = #[v0, v1, v2] := by cases args; simp_all
  obtain ⟨rfl, rfl⟩ := trodVars_none hV
  obtain ⟨a0, rfl, rfl, rfl, w0⟩ := open_int Try.underlying2 (hval 0 2 v0 rfl rfl) h0
  obtain ⟨a1, rfl, rfl, rfl, w1⟩ := open_int Try.underlying2 (hval 1 2 v1 rfl rfl) h1
  obtain ⟨a2, rfl, rfl, rfl⟩ := open_bool Try.underlying4 (hval 2 4 v2 rfl rfl) h2
  clear hA0 hval0
  refine (walk a0 a1 a2 W w0 w1).mono fun e W' ⟨he, bel⟩ => ?_
  subst he
  exact ⟨_, rfl, _, _, _, [], [], [], hW', trodAll_mk1 (shut_bool Try.underlying4 _), (trodAll_cons_mk (shut_int Try.underlying2 w0) (trodAll_cons_mk (shut_int Try.underlying2 w1) (trodAll_cons_mk (shut_bool Try.underlying4 _) trodAll_mk0))), rfl, bel.frame _, fun h => by cases h⟩

theorem over : Rows.fnExactNewRoomRow.holds Try.pinned (OpenSpec.ofChange Rows.fnExactNewRoomSpec) :=
  OpenClaim.holds_of_wide 5 Try.f5 rfl rfl rfl rfl rfl rfl rfl ⟨rfl, rfl, rfl, rfl, rfl⟩ rfl rfl rfl rfl rfl (by kernel_rfl) Try.func5 (by kernel_rfl)
    (of_decide_eq_true (by kernel_rfl)) (by unfold Func.isWrapper; first | (rw [if_pos (by decide +kernel)]; kernel_rfl) | (rw [if_neg (by decide +kernel)]; exact ⟨rfl, rfl⟩))
    (fun os started H enc _ => lifted os started H enc)

theorem proved : Rows.FnExactNewRoomSaid := over
#print axioms proved
end Go.Proofs.Ytkidgfnbllnbcaa.fnExactNewRoom
