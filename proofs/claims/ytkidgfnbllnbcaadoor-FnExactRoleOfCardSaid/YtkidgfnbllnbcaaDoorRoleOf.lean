/-
  RoleOf answers as its model for every room and all numbers, and leaves its argument as it was: the law returns true for all arguments. The row's own condition 'laid' (the package's error for who is no member holds what its initialiser laid) is tied to the program's text by the card.
-/
import Derived.Test.YtkidgfnbllnbcaaDoorRows
import Derived.Test.YtkidgfnbllnbcaaDoorTie
import Derived.Test.YtkidgfnbllnbcaaDoorCards
import Derived.SevenTiedAt
import Derived.LaidMore
import Derived.Lay
import Derived.Stop.Joined
import Derived.WalkKit
import Derived.ProofKit
import Derived.OpenShut
import Derived.ShutString
import Derived.ChangeOld
import Derived.Below
import Derived.Lib.Hide
import Derived.Test.YtkidgfnbllnbcaaDoorAllowC
import Derived.Test.YtkidgfnbllnbcaaDoorLaidR
import Derived.Test.YtkidgfnbllnbcaaDoorRoomA
namespace Go.Proofs.YtkidgfnbllnbcaaDoor.fnExactRoleOf
open Go.ChangeShapes Go.WideShapes Go.ChangeAt Go.RowKit
open Go.ChangeMaps (open_string shut_string)
set_option linter.unusedVariables false
set_option maxHeartbeats 1600000 in
theorem walk_all {w : World} {a : Addr} (he : ErrN w a) (o : Bool) (A1 A2 A3 : Option Addr) (n1 c1 n2 c2 n3 c3 : Nat) (ms : List Mb) (vs : List Iv) (bs : List Bn) (t : Int) (h : RoomAt w w.heap.size A1 n1 A2 n2 A3 n3 ms vs bs) (hb : n1 ≤ maxLen ∧ n2 ≤ maxLen ∧ n3 ≤ maxLen) (wft : (Lit.int .i64 t).wf = true) :
    Calls Tryd.prog 5 #[.agg #[.bool o, .slice A1 n1 c1, .slice A2 n2 c2, .slice A3 n3 c3], .int .i64 t] w fun e w' => e = .returned (.bool true) ∧ Below w.heap.size w w' := by
  obtain ⟨rz, hrz⟩ : ∃ z, (if roomB ms vs bs = true then roleAt ms t else 0) = z := ⟨_, rfl⟩
  obtain ⟨ry, hry⟩ : ∃ y, (roomB ms vs bs && decide (t ∈ mids ms)) = y := ⟨_, rfl⟩
  have HZ := Lib.hid hrz
  have HY := Lib.hid hry
  clear hrz hry
  by_cases hn : n1 + n2 + n3 ≤ 1048576
  · go_enter Tryd.func5, Tryd.ntmps5
    go_wp2_with fail
    obtain ⟨k0, hb0⟩ := one_box w 48 #[.bool o, .slice A1 n1 c1, .slice A2 n2 c2, .slice A3 n3 c3]
    generalize w.alloc (.cells #[.bool o, .slice A1 n1 c1, .slice A2 n2 c2, .slice A3 n3 c3] 48) = W at *
    have h := (h.below hb0).more hb0.size
    have he := he.below hb0
    have x1 : ¬ ((1048576 : Int) - (n1 : Int) - (n2 : Int) - (n3 : Int) < 0) := by omega
    go_at_call 19; refine (szRoom_ok _ _ _ _ _ _ _ _ _ _ _ _ (by omega) (by omega)).mono ?_; rintro e w1 ⟨rfl, hb1⟩
    have h := h.to hb1
    have he := he.below hb1
    have k0 := k0.below hb1 k0.lt
    have hb0 := hb0.trans (hb1.mono hb0.size)
    clear hb1
    have l0 := k0.cell 0; have l1 := k0.cell 1; have l2 := k0.cell 2; have l3 := k0.cell 3
    go_wp2_with fail
    go_at_call 21; refine (toRoom_any _ _ _ _ _ _ _ _ _ _ _ _ _ _ h hn).mono ?_; rintro e w2 ⟨g1, g2, g3, rfl, ho2, hb1⟩
    have h := h.to hb1
    have he := he.below hb1
    have k0 := k0.below hb1 k0.lt
    have hb0 := hb0.trans (hb1.mono hb0.size)
    clear hb1 l0 l1 l2 l3
    go_wp2_with fail
    go_at_call 20; refine (spec_RoleOf_any _ _ _ _ _ _ _ _ _ _ _ _ _ _ _ ho2.at_ hn).mono ?_; rw [HZ.out, HY.out]; rintro e w3 ⟨rfl, hb1⟩
    have h := h.to hb1
    have he := he.below hb1
    have k0 := k0.below hb1 k0.lt
    have hb0 := hb0.trans (hb1.mono hb0.size)
    clear hb1 ho2
    have l0 := k0.cell 0; have l1 := k0.cell 1; have l2 := k0.cell 2; have l3 := k0.cell 3
    go_wp2_with fail
    go_at_call 21; refine (toRoom_any _ _ _ _ _ _ _ _ _ _ _ _ _ _ h hn).mono ?_; rintro e w4 ⟨q1, q2, q3, rfl, ho4, hb1⟩
    have h := h.to hb1
    have he := he.below hb1
    have k0 := k0.below hb1 k0.lt
    have hb0 := hb0.trans (hb1.mono hb0.size)
    clear hb1 l0 l1 l2 l3
    go_wp2_with fail
    obtain ⟨kx, hb1⟩ := one_box w4 28 #[.bool o, .slice (some ⟨q1, 0, none⟩) n1 n1, .slice (some ⟨q2, 0, none⟩) n2 n2, .slice (some ⟨q3, 0, none⟩) n3 n3]
    generalize w4.alloc (.cells #[.bool o, .slice (some ⟨q1, 0, none⟩) n1 n1, .slice (some ⟨q2, 0, none⟩) n2 n2, .slice (some ⟨q3, 0, none⟩) n3 n3] 28) = w5 at *
    have h := h.to hb1
    have he := he.below hb1
    have k0 := k0.below hb1 k0.lt
    have ho := ho4.below hb1 (Nat.le_refl _)
    have hb0 := hb0.trans (hb1.mono hb0.size)
    clear hb1 ho4
    go_at_call 12; refine (impl_RoleOf_any _ _ _ _ _ _ _ _ _ _ _ _ _ _ _ _ ho.at_ hn he wft).mono ?_; rw [HZ.out, HY.out]; rintro e w6 ⟨rfl, hb1⟩
    have h := h.to hb1
    have he := he.below hb1
    have k0 := k0.below hb1 k0.lt
    have kx := kx.below hb1 kx.lt
    have ho := ho.below hb1 (Nat.le_refl _)
    have hb0 := hb0.trans (hb1.mono hb0.size)
    clear hb1
    go_wp2_with fail
    have h : RoomAt w6.drew w6.drew.heap.size A1 n1 A2 n2 A3 n3 ms vs bs := h
    have k0 : Blk w6.drew w.heap.size 48 #[.bool o, .slice A1 n1 c1, .slice A2 n2 c2, .slice A3 n3 c3] := k0
    have kx : Blk w6.drew w4.heap.size 28 #[.bool o, .slice (some ⟨q1, 0, none⟩) n1 n1, .slice (some ⟨q2, 0, none⟩) n2 n2, .slice (some ⟨q3, 0, none⟩) n3 n3] := kx
    have ho : RoomOwn w6.drew w3.heap.size (some ⟨q1, 0, none⟩) n1 n1 (some ⟨q2, 0, none⟩) n2 n2 (some ⟨q3, 0, none⟩) n3 n3 ms vs bs := ho
    have hb0 : Below w.heap.size w w6.drew := hb0.drew
    go_region_held3 (fun w' => (w'.cell? ⟨w.heap.size, 0, none⟩ = some (.bool o) ∧ w'.cell? ⟨w.heap.size, 1, none⟩ = some (.slice A1 n1 c1) ∧ w'.cell? ⟨w.heap.size, 2, none⟩ = some (.slice A2 n2 c2) ∧ w'.cell? ⟨w.heap.size, 3, none⟩ = some (.slice A3 n3 c3)) ∧ (w'.cell? ⟨w4.heap.size, 0, none⟩ = some (.bool o) ∧ w'.cell? ⟨w4.heap.size, 1, none⟩ = some (.slice (some ⟨q1, 0, none⟩) n1 n1) ∧ w'.cell? ⟨w4.heap.size, 2, none⟩ = some (.slice (some ⟨q2, 0, none⟩) n2 n2) ∧ w'.cell? ⟨w4.heap.size, 3, none⟩ = some (.slice (some ⟨q3, 0, none⟩) n3 n3))) (first | exact ⟨⟨k0.cell 0, k0.cell 1, k0.cell 2, k0.cell 3⟩, kx.cell 0, kx.cell 1, kx.cell 2, kx.cell 3⟩ | exact ⟨⟨k7.cell 0, k7.cell 1, k7.cell 2, k7.cell 3⟩, kx7.cell 0, kx7.cell 1, kx7.cell 2, kx7.cell 3⟩ | exact ⟨⟨k8.cell 0, k8.cell 1, k8.cell 2, k8.cell 3⟩, kx8.cell 0, kx8.cell 1, kx8.cell 2, kx8.cell 3⟩) ((first | (go_at_call 21; refine (toRoom_any _ _ _ _ _ _ _ _ _ _ _ _ _ _ h hn).mono ?_; rintro e w7 ⟨y1, y2, y3, rfl, ho7, hb7⟩; have k7 := k0.below hb7 k0.lt; have kx7 := kx.below hb7 kx.lt; have hx7 := ho.below hb7 (Nat.le_refl _); have hb07 := hb0.trans (hb7.mono hb0.size)) | (go_at_call 22; refine (eqRoom_same _ _ _ _ _ _ _ _ _ _ _ _ _ _ _ _ _ _ _ _ _ _ _ hx7.at_ ho7.at_ hn).mono ?_; rintro e w8 ⟨rfl, hb8⟩; have k8 := k7.below hb8 k7.lt; have kx8 := kx7.below hb8 kx7.lt; have hb08 := hb07.trans (hb8.mono hb07.size))))
    go_wp2
    go_ret
    exact ⟨rfl, hb08⟩
  · have hb1 : (n1 : Int) ≤ 9223372036854775807 := by have := hb.1; unfold maxLen at this; omega
    have hb2 : (n2 : Int) ≤ 9223372036854775807 := by have := hb.2.1; unfold maxLen at this; omega
    have hb3 : (n3 : Int) ≤ 9223372036854775807 := by have := hb.2.2; unfold maxLen at this; omega
    clear hb
    go_enter Tryd.func5, Tryd.ntmps5
    go_wp2_with fail
    go_at_call 19; refine (szRoom_no _ _ _ _ _ _ _ _ _ _ _ _ (by omega) (by omega) (by omega) hb1 hb2 hb3).mono ?_; rintro e w1 ⟨rfl, hb4⟩
    go_wp2
    go_ret
    exact ⟨rfl, ((Below.refl _ _).alloc (Nat.le_refl _) _).trans (hb4.mono (by simp))⟩

theorem walk {W : World} (hL : laidMetH Tryd.prog Rows.fnExactRoleOfRow.laid W) (o : Bool) (A1 A2 A3 : Option Addr) (n1 c1 n2 c2 n3 c3 : Nat) (ms : List Mb) (vs : List Iv) (bs : List Bn) (t : Int) (h : RoomAt W W.heap.size A1 n1 A2 n2 A3 n3 ms vs bs) (hb : n1 ≤ maxLen ∧ n2 ≤ maxLen ∧ n3 ≤ maxLen) (wft : (Lit.int .i64 t).wf = true) :
    Calls Tryd.prog 5 #[.agg #[.bool o, .slice A1 n1 c1, .slice A2 n2 c2, .slice A3 n3 c3], .int .i64 t] W fun e w' => e = .returned (.bool true) ∧ Below W.heap.size W w' := by
  rw [MakeChecks.laidMetH_plain _ _ _ (by kernel_rfl)] at hL
  obtain ⟨a, he⟩ := errN_of_laid (rest := _) hL
  exact walk_all he o A1 A2 A3 n1 c1 n2 c2 n3 c3 ms vs bs t h hb wft

theorem own : ownKnob Tryd.prog.godebug = none := by kernel_rfl
theorem laidOut : laidOutB Tryd.prog = true := by kernel_rfl
theorem door_met (os : Os) (args : Array Value) : laidMetH Tryd.prog Rows.fnExactRoleOfRow.laid ((World.doorLaid Tryd.prog 400 os).forCall (fun _ _ => 0) ⟨#[], args, []⟩).memory :=
  laidMetH_of_parts3 (fuel := 8) (laidMet_of_run' 8 (by kernel_rfl) (by kernel_rfl)) (by kernel_rfl) (by kernel_rfl)
set_option maxRecDepth 100000 in
theorem lifted (os : Os) (started : os.Started) (H : Type) (enc : TypeId × Value → H) :
    ReturnsInHanded {} Tryd.checked os 5 .any (fun w args => (Rows.fnExactRoleOfSpec.pre enc Tryd.prog Tryd.f5 [] false w args ∧ laidMetH Tryd.prog Rows.fnExactRoleOfRow.laid w) ∧ sizedMet enc Tryd.prog Tryd.f5 (OpenSpec.ofChange Rows.fnExactRoleOfSpec) false w args)
      (Rows.fnExactRoleOfSpec.post enc Tryd.prog Tryd.f5 false true false false) := by
  refine returnsInHanded_of_change_and (C := Tryd.checked) (X := fun w _ => laidMetH Tryd.prog Rows.fnExactRoleOfRow.laid w) (fun _ _ _ hh h => h.of_heap hh) own started (by kernel_rfl) Tryd.func5
    (ChangeSpec.witness_shaped (enc := enc) (C := Tryd.checked) (os := os) (X := fun w _ => laidMetH Tryd.prog Rows.fnExactRoleOfRow.laid w) false (World.doorLaid Tryd.prog 400 os) #[.agg #[.bool false, .slice none 0 0, .slice none 0 0, .slice none 0 0], .int .i64 0] 8 rfl (World.shaped_of_RefB (by kernel_rfl) (by kernel_rfl)) (by kernel_rfl) (by kernel_rfl) (by kernel_rfl) (door_met os _)) ?_
  intro W base args ds gs before hval0 hW hcnd _ hL _
  have hval : ∀ (j : Nat) t v, Tryd.f5.params[j]? = some t → args[j]? = some v → Value.okWide Tryd.prog W .any base t v := hval0
  have hW' := hW
  obtain ⟨p, q, hA0, hV, rfl, hfz, hnd⟩ := hW
  have hA : DataW.TrodAll enc Tryd.prog W 0 (fun _ => true) true Tryd.f5.params.toList args.toList ds p := hA0
  rw [Tryd.params5] at hA hval
  obtain ⟨v0, vs0, d0, ds0, p0, q0, hargs, rfl, rfl, h0, r0⟩ := trodAll_cons hA
  obtain ⟨v1, vs1, d1, ds1, p1, q1, rfl, rfl, rfl, h1, r1⟩ := trodAll_cons r0
  obtain ⟨rfl, rfl, rfl⟩ := trodAll_nil r1
  obtain rfl : args = #[v0, v1] := by cases args; simp_all
  have hL1 := hL
  rw [MakeChecks.laidMetH_plain _ _ _ (by kernel_rfl)] at hL1
  obtain ⟨va, hva⟩ := varN_of_laid (rest := _) hL1
  obtain ⟨rfl, rfl⟩ := hV.unique (vars_read1 enc gN gNT Tryd.underlying74 hva trivial _)
  have k0 := h0
  have lt0 : ∀ x ∈ p0, x.block < W.heap.size := by obtain ⟨m, hm⟩ := k0; exact DataW.trod_lt m _ _ _ hm
  obtain ⟨o0, A0, n0, c0, B0, m0, d0', C0, l0, e0, ms0, vs0, bs0, rfl, w0, u0⟩ := open_room (hval 0 48 v0 rfl rfl) h0
  obtain ⟨a1, rfl, rfl, rfl, w1⟩ := open_int Tryd.underlying2 (hval 1 2 v1 rfl rfl) h1
  clear hA0 hval0
  refine (walk hL o0 A0 B0 C0 n0 c0 m0 d0' l0 e0 ms0 vs0 bs0 a1 w0 u0 w1).mono fun e W' ⟨he, bel⟩ => ?_
  subst he
  exact ⟨_, rfl, _, _, _, [], _, _, hW', trodAll_mk1 (shut_bool Tryd.underlying4 _), (trodAll_cons_mk (Below.trod laidOut (by kernel_rfl) (of_decide_eq_true (by kernel_rfl)) k0 bel lt0) (trodAll_cons_mk (shut_int Tryd.underlying2 w1) trodAll_mk0)), vars_read1 enc gN gNT Tryd.underlying74 (var_below gN hva bel) trivial _, bel.frame _, fun h => by cases h⟩

theorem over : Rows.fnExactRoleOfRow.holds Tryd.pinned (OpenSpec.ofChange Rows.fnExactRoleOfSpec) :=
  OpenClaim.holds_of_wide 5 Tryd.f5 rfl rfl rfl rfl rfl rfl rfl ⟨rfl, rfl, rfl, rfl, rfl⟩ rfl rfl rfl rfl rfl (by kernel_rfl) Tryd.func5 (by kernel_rfl)
    (of_decide_eq_true (by kernel_rfl)) (by unfold Func.isWrapper; first | (rw [if_pos (by decide +kernel)]; kernel_rfl) | (rw [if_neg (by decide +kernel)]; exact ⟨rfl, rfl⟩))
    (fun os started H enc _ => lifted os started H enc)

theorem proved : Rows.FnExactRoleOfCardSaid :=
  Claim7.holds_tied_plain_at .later [] _ true _ true
    over (fun _ h => by cases h) (by kernel_rfl) (fun _ h => by cases h) fnExactRoleOf_row_tie rfl ⟨rfl, rfl⟩ (by kernel_rfl) rfl
    (fun f fn hf hfn => by
      obtain rfl : f = 5 := Option.some.inj ((show Tryd.prog.funcNamed Rows.fnExactRoleOfRow.func = some 5 by kernel_rfl).symm.trans hf) |>.symm
      obtain rfl : fn = Tryd.f5 := (Option.some.inj (Tryd.func5.symm.trans hfn)).symm
      exact ⟨by kernel_rfl, fun j t ht => by
        rw [Tryd.params5] at ht
        have hm : t ∈ [48, 2] := by simpa using Array.mem_of_getElem? ht
        have hall : ([48, 2].all fun u => !Tryd.prog.wantsStandIn u) = true := by kernel_rfl
        exact (show Tryd.prog.wantsStandIn t = false by simpa using List.all_eq_true.1 hall t hm)⟩)
    (by kernel_rfl)
#print axioms proved
end Go.Proofs.YtkidgfnbllnbcaaDoor.fnExactRoleOf
