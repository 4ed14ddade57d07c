/-
  ValidMessage answers as its model for every message, and leaves its argument as it was: the law returns true for every message. No condition.
-/
import Derived.Test.YthekkjblgnjmgaaRows
import Derived.WalkKit
import Derived.ProofKit
import Derived.OpenShut
import Derived.ShutString
import Derived.ChangeOld
import Derived.Below
import Derived.Lib.Hide
import Derived.Deep.RegionHeld3
import Derived.Test.YthekkjblgnjmgaaMsgV
import Derived.Test.YthekkjblgnjmgaaMsgA
namespace Go.Proofs.Ythekkjblgnjmgaa.fnExactValidMessage
open Go.ChangeShapes Go.WideShapes Go.ChangeAt Go.RowKit
open Go.ChangeMaps (open_string shut_string)
set_option linter.unusedVariables false
set_option maxRecDepth 100000
set_option maxHeartbeats 3200000 in
theorem walk (m : Rm) (w : World) (h0 : RmOk w m) :
    Calls Try.prog 3 #[.agg #[.int .i64 m.m.num, .int .i64 m.m.sdr, .int .i64 m.m.tick, .string m.m.text, .int .i64 m.m.edits, .bool m.m.gone, .int .i64 m.m.reply, .slice m.la m.ln m.lc]] w fun e w' => e = .returned (.bool true) ∧ Below w.heap.size w w' := by
  obtain ⟨z, hz⟩ : ∃ z, msgB m.m = z := ⟨_, rfl⟩
  have HR := Lib.hid hz
  clear hz
  by_cases hs : m.m.text.size + m.ln ≤ 1048576
  · have hl : m.ln ≤ 1048576 := by omega
    have ht : m.m.text.size ≤ 1048576 := by omega
    go_enter Try.func3, Try.ntmps3
    go_wp2_with fail
    obtain ⟨k0, hb0⟩ := one_box w 24 #[.int .i64 m.m.num, .int .i64 m.m.sdr, .int .i64 m.m.tick, .string m.m.text, .int .i64 m.m.edits, .bool m.m.gone, .int .i64 m.m.reply, .slice m.la m.ln m.lc]
    generalize w.alloc (.cells #[.int .i64 m.m.num, .int .i64 m.m.sdr, .int .i64 m.m.tick, .string m.m.text, .int .i64 m.m.edits, .bool m.m.gone, .int .i64 m.m.reply, .slice m.la m.ln m.lc] 24) = W at *
    have h := h0.1.to hb0
    have x1 : ¬ ((1048576 : Int) - (m.m.text.size : Int) - (m.ln : Int) < 0) := by omega
    go_at_call 9; refine (szMessage_ok _ _ _ (by omega) (by omega)).mono ?_; rintro e w1 ⟨rfl, hb1⟩
    have h := h.to hb1
    have k0 := k0.below hb1 k0.lt
    have hb0 := hb0.trans (hb1.mono hb0.size)
    clear hb1
    have l0 := k0.cell 0; have l1 := k0.cell 1; have l2 := k0.cell 2; have l3 := k0.cell 3; have l4 := k0.cell 4; have l5 := k0.cell 5; have l6 := k0.cell 6; have l7 := k0.cell 7; have lt0 := k0.lt
    go_wp2_with fail
    go_at_call 11; refine (toMessage_any _ _ h hl).mono ?_; rintro e w2 ⟨g1, rfl, ho2, hb1⟩
    have h := h.to hb1
    have k0 := k0.below hb1 k0.lt
    have hb0 := hb0.trans (hb1.mono hb0.size)
    clear hb1
    clear l0 l1 l2 l3 l4 l5 l6 l7 lt0
    go_wp2_with fail
    go_at_call 10; refine (spec_ValidMessage_any ⟨m.m, some ⟨g1, 0, none⟩, m.ln, m.ln⟩ _ (Row.of_own_any ho2) hl ht).mono ?_; rw [HR.out]; rintro e w3 ⟨rfl, hb1⟩
    have h := h.to hb1
    have k0 := k0.below hb1 k0.lt
    have hb0 := hb0.trans (hb1.mono hb0.size)
    clear hb1
    clear ho2
    have l0 := k0.cell 0; have l1 := k0.cell 1; have l2 := k0.cell 2; have l3 := k0.cell 3; have l4 := k0.cell 4; have l5 := k0.cell 5; have l6 := k0.cell 6; have l7 := k0.cell 7; have lt0 := k0.lt
    go_wp2_with fail
    go_at_call 11; refine (toMessage_any _ _ h hl).mono ?_; rintro e w4 ⟨g2, rfl, ho4, hb1⟩
    have h := h.to hb1
    have k0 := k0.below hb1 k0.lt
    have hb0 := hb0.trans (hb1.mono hb0.size)
    clear hb1
    clear l0 l1 l2 l3 l4 l5 l6 l7 lt0
    go_wp2_with fail
    obtain ⟨kx, hb1⟩ := one_box w4 27 #[.int .i64 m.m.num, .int .i64 m.m.sdr, .int .i64 m.m.tick, .string m.m.text, .int .i64 m.m.edits, .bool m.m.gone, .int .i64 m.m.reply, .slice (some ⟨g2, 0, none⟩) m.ln m.ln]
    generalize w4.alloc (.cells #[.int .i64 m.m.num, .int .i64 m.m.sdr, .int .i64 m.m.tick, .string m.m.text, .int .i64 m.m.edits, .bool m.m.gone, .int .i64 m.m.reply, .slice (some ⟨g2, 0, none⟩) m.ln m.ln] 27) = w5 at *
    have h := h.to hb1
    have k0 := k0.below hb1 k0.lt
    have ho := own_below ho4 hb1 (Nat.le_refl _)
    have hb0 := hb0.trans (hb1.mono hb0.size)
    clear hb1 ho4
    go_at_call 12; refine (impl_ValidMessage_any ⟨m.m, some ⟨g2, 0, none⟩, m.ln, m.ln⟩ _ (Row.of_own_any ho) hl ht).mono ?_; rw [HR.out]; rintro e w6 ⟨rfl, hb1⟩
    have h := h.to hb1
    have k0 := k0.below hb1 k0.lt
    have kx := kx.below hb1 kx.lt
    have ho := own_below ho hb1 (Nat.le_refl _)
    have hb0 := hb0.trans (hb1.mono hb0.size)
    clear hb1
    go_wp2_with fail
    have h : Row i64v w6.drew w6.drew.heap.size m.la m.ln m.m.likes := h
    have k0 : Blk w6.drew w.heap.size 24 #[.int .i64 m.m.num, .int .i64 m.m.sdr, .int .i64 m.m.tick, .string m.m.text, .int .i64 m.m.edits, .bool m.m.gone, .int .i64 m.m.reply, .slice m.la m.ln m.lc] := k0
    have kx : Blk w6.drew w4.heap.size 27 #[.int .i64 m.m.num, .int .i64 m.m.sdr, .int .i64 m.m.tick, .string m.m.text, .int .i64 m.m.edits, .bool m.m.gone, .int .i64 m.m.reply, .slice (some ⟨g2, 0, none⟩) m.ln m.ln] := kx
    have ho : w6.drew.ownsRow w3.heap.size 2 1 (.slice (some ⟨g2, 0, none⟩) m.ln m.ln) m.ln (m.m.likes.map i64v) := ho
    have hb0 : Below w.heap.size w w6.drew := hb0.drew
    go_region_held3 (fun w' => (w'.cell? ⟨w.heap.size, 0, none⟩ = some (.int .i64 m.m.num) ∧ w'.cell? ⟨w.heap.size, 1, none⟩ = some (.int .i64 m.m.sdr) ∧ w'.cell? ⟨w.heap.size, 2, none⟩ = some (.int .i64 m.m.tick) ∧ w'.cell? ⟨w.heap.size, 3, none⟩ = some (.string m.m.text) ∧ w'.cell? ⟨w.heap.size, 4, none⟩ = some (.int .i64 m.m.edits) ∧ w'.cell? ⟨w.heap.size, 5, none⟩ = some (.bool m.m.gone) ∧ w'.cell? ⟨w.heap.size, 6, none⟩ = some (.int .i64 m.m.reply) ∧ w'.cell? ⟨w.heap.size, 7, none⟩ = some (.slice m.la m.ln m.lc)) ∧ (w'.cell? ⟨w4.heap.size, 0, none⟩ = some (.int .i64 m.m.num) ∧ w'.cell? ⟨w4.heap.size, 1, none⟩ = some (.int .i64 m.m.sdr) ∧ w'.cell? ⟨w4.heap.size, 2, none⟩ = some (.int .i64 m.m.tick) ∧ w'.cell? ⟨w4.heap.size, 3, none⟩ = some (.string m.m.text) ∧ w'.cell? ⟨w4.heap.size, 4, none⟩ = some (.int .i64 m.m.edits) ∧ w'.cell? ⟨w4.heap.size, 5, none⟩ = some (.bool m.m.gone) ∧ w'.cell? ⟨w4.heap.size, 6, none⟩ = some (.int .i64 m.m.reply) ∧ w'.cell? ⟨w4.heap.size, 7, none⟩ = some (.slice (some ⟨g2, 0, none⟩) m.ln m.ln))) (first | exact ⟨⟨k8.cell 0, k8.cell 1, k8.cell 2, k8.cell 3, k8.cell 4, k8.cell 5, k8.cell 6, k8.cell 7⟩, kx8.cell 0, kx8.cell 1, kx8.cell 2, kx8.cell 3, kx8.cell 4, kx8.cell 5, kx8.cell 6, kx8.cell 7⟩ | exact ⟨⟨k7.cell 0, k7.cell 1, k7.cell 2, k7.cell 3, k7.cell 4, k7.cell 5, k7.cell 6, k7.cell 7⟩, kx7.cell 0, kx7.cell 1, kx7.cell 2, kx7.cell 3, kx7.cell 4, kx7.cell 5, kx7.cell 6, kx7.cell 7⟩ | exact ⟨⟨k0.cell 0, k0.cell 1, k0.cell 2, k0.cell 3, k0.cell 4, k0.cell 5, k0.cell 6, k0.cell 7⟩, kx.cell 0, kx.cell 1, kx.cell 2, kx.cell 3, kx.cell 4, kx.cell 5, kx.cell 6, kx.cell 7⟩) ((first | (go_at_call 11; refine (toMessage_any _ _ h hl).mono ?_; rintro e w7 ⟨g7, rfl, ho7, hb7⟩; have k7 := k0.below hb7 k0.lt; have kx7 := kx.below hb7 kx.lt; have hx7 := own_below ho hb7 (Nat.le_refl _); have hb07 := hb0.trans (hb7.mono hb0.size)) | (go_at_call 13; refine (eqMessage_same m.m _ _ _ _ _ _ _ (Row.of_own_any hx7) (Row.of_own_any ho7) hl).mono ?_; rintro e w8 ⟨rfl, hb8⟩; have k8 := k7.below hb8 k7.lt; have kx8 := kx7.below hb8 kx7.lt; have hb08 := hb07.trans (hb8.mono hb07.size))))
    go_wp2
    go_ret
    exact ⟨rfl, hb08⟩
  · have hb1 : (m.ln : Int) ≤ 9223372036854775807 := by have := h0.2.1; unfold maxLen at this; omega
    have hb2 : (m.m.text.size : Int) ≤ 9223372036854775807 := by have := h0.2.2; unfold maxLen at this; omega
    go_enter Try.func3, Try.ntmps3
    go_wp2_with fail
    obtain ⟨k0, hb0⟩ := one_box w 24 #[.int .i64 m.m.num, .int .i64 m.m.sdr, .int .i64 m.m.tick, .string m.m.text, .int .i64 m.m.edits, .bool m.m.gone, .int .i64 m.m.reply, .slice m.la m.ln m.lc]
    generalize w.alloc (.cells #[.int .i64 m.m.num, .int .i64 m.m.sdr, .int .i64 m.m.tick, .string m.m.text, .int .i64 m.m.edits, .bool m.m.gone, .int .i64 m.m.reply, .slice m.la m.ln m.lc] 24) = W at *
    go_at_call 9; refine (szMessage_no _ _ _ (by omega) (by omega) (by omega) hb2 hb1).mono ?_; rintro e w1 ⟨rfl, hb4⟩
    have hb0 := hb0.trans (hb4.mono hb0.size)
    go_wp2
    go_ret
    exact ⟨rfl, hb0⟩

theorem own : ownKnob Try.prog.godebug = none := by kernel_rfl
theorem laidOut : laidOutB Try.prog = true := by kernel_rfl
set_option maxRecDepth 100000 in
theorem lifted (os : Os) (started : os.Started) (H : Type) (enc : TypeId × Value → H) :
    ReturnsInHanded {} Try.checked os 3 .any (Rows.fnExactValidMessageSpec.pre6 enc Try.prog Try.f3 Rows.fnExactValidMessageRow.domain false) (Rows.fnExactValidMessageSpec.post enc Try.prog Try.f3 false true false false) := by
  refine returnsInHanded_of_change (C := Try.checked) own started (by kernel_rfl) Try.func3
    (ChangeSpec.witness6 (enc := enc) (C := Try.checked) false ⟨#[], #[.agg #[.int .i64 0, .int .i64 0, .int .i64 0, .string ByteArray.empty, .int .i64 0, .bool false, .int .i64 0, .slice none 0 0]], []⟩ 8 (by kernel_rfl) (by kernel_rfl) (by kernel_rfl) (by kernel_rfl)) ?_
  intro W base args ds gs before hval0 hW hcnd _
  have hval : ∀ (j : Nat) t v, Try.f3.params[j]? = some t → args[j]? = some v → Value.okWide Try.prog W .any base t v := hval0
  have hW' := hW
  obtain ⟨p, q, hA0, hV, rfl, hfz, hnd⟩ := hW
  have hA : DataW.TrodAll enc Try.prog W 0 (fun _ => true) true Try.f3.params.toList args.toList ds p := hA0
  rw [Try.params3] at hA hval
  obtain ⟨v0, vs0, d0, ds0, p0, q0, hargs, rfl, rfl, h0, r0⟩ := trodAll_cons hA
  obtain ⟨rfl, rfl, rfl⟩ := trodAll_nil r0
  obtain rfl : args = #[v0] := by cases args; simp_all
  obtain ⟨rfl, rfl⟩ := trodVars_none hV
  have k0 := h0
  have lt0 : ∀ x ∈ p0, x.block < W.heap.size := by obtain ⟨m, hm⟩ := k0; exact DataW.trod_lt m _ _ _ hm
  obtain ⟨m0, rfl, w0⟩ := open_msg (hval 0 24 v0 rfl rfl) h0
  clear hA0 hval0
  refine (walk m0 W w0).mono fun e W' ⟨he, bel⟩ => ?_
  subst he
  exact ⟨_, rfl, _, _, _, [], _, [], hW', trodAll_mk1 (shut_bool Try.underlying4 _), (trodAll_cons_mk (Below.trod laidOut (by kernel_rfl) (of_decide_eq_true (by kernel_rfl)) k0 bel lt0) trodAll_mk0), rfl, bel.frame _, fun h => by cases h⟩

theorem over : Rows.fnExactValidMessageRow.holds Try.pinned (OpenSpec.ofChange Rows.fnExactValidMessageSpec) :=
  OpenClaim.holds_of_wide 3 Try.f3 rfl rfl rfl rfl rfl rfl rfl ⟨rfl, rfl, rfl, rfl, rfl⟩ rfl rfl rfl rfl rfl (by kernel_rfl) Try.func3 (by kernel_rfl)
    (of_decide_eq_true (by kernel_rfl)) (by unfold Func.isWrapper; first | (rw [if_pos (by decide +kernel)]; kernel_rfl) | (rw [if_neg (by decide +kernel)]; exact ⟨rfl, rfl⟩))
    (fun os started H enc _ => lifted os started H enc)

theorem proved : Rows.FnExactValidMessageSaid := over
#print axioms proved
end Go.Proofs.Ythekkjblgnjmgaa.fnExactValidMessage
