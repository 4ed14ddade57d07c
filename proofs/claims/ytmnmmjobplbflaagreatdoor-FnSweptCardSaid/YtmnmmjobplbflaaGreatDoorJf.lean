import Derived.Test.YtmnmmjobplbflaaGreatDoorChecked
import Derived.WalkKit
import Derived.ProofKit
import Derived.OpenShut
import Derived.ShutString
import Derived.ChangeOld
import Derived.Below
import Derived.Lib.Hide
import Derived.MapKept
import Derived.Maps.OwnSet
import Derived.Maps.OwnOps
import Derived.Deep.RegionHeld3
import Derived.Test.YtmnmmjobplbflaaGreatDoorZListedC
import Derived.Test.YtmnmmjobplbflaaGreatDoorJq
namespace Go.Proofs.YtmnmmjobplbflaaGreatDoor
open Go.ChangeShapes Go.WideShapes Go.ChangeAt Go.RowKit
open Go.ChangeMaps (open_string shut_string)
set_option linter.unusedVariables false
open Go.Maps
set_option maxRecDepth 100000
--M{
def mbV (m : Mb) : Value := .agg #[.int .i64 m.id, .int .i64 m.role, .int .i64 m.since, .int .i64 m.quiet]
def ivV (x : Iv) : Value := .agg #[.int .i64 x.id, .int .i64 x.byy, .int .i64 x.til]
def bnV (x : Bn) : Value := .agg #[.int .i64 x.id, .int .i64 x.til]
theorem kInt : Keyed Tryz.prog 2 := int_keyed Tryz.underlying2
theorem run_makeMap_hint {P : Program} {t key elem : TypeId} (hu : P.underlying t = some (.map key elem)) (k : IntKind) (n : Int) (w : World) : (Instr.makeMap t (some (.int k n))).run P w = .ok (.map (some w.heap.size)) (w.alloc (.map #[] 0)) := by
  simp [Instr.makeMap, run_underlying hu, asInt, asIntOf, Result.andThen]
theorem ownsMap_below {P : Program} {kt : TypeId} {R : Value → Option (DataW Value × List MemPlace)} {w w' : World} {b n B : Nat} {D : DataW Value} (h : w.ownsMap P kt R b n D) (hb : Below B w w') (hB : b < B) : w'.ownsMap P kt R b n D := by
  obtain ⟨es, clock, he, r⟩ := h
  exact ⟨es, clock, (hb.block b hB).trans he, r⟩
theorem Blk.turned {w w' : World} {g t b : Nat} {cs : Array Value} (h : Blk w g t cs) (ht : w.mapTurned w' b) : Blk w' g t cs := h.grown ht.grown (by
  intro e
  cases e
  obtain ⟨es, cl, _, _, h1, _⟩ := ht
  unfold Blk at h
  rw [h] at h1
  cases h1)
theorem wf_id {t : Int} (h : idB t = true) : (Lit.int .i64 t).wf = true := by
  simp only [idB, decide_eq_true_eq] at h
  exact WalkArith.wf_i64 (by omega)
theorem below_map {B : Nat} {w w1 w2 : World} {b : Nat} (h : Below B w w1) (ht : w1.mapTurned w2 b) (hB : B ≤ w1.heap.size) (hb : B ≤ b) : Below B w w2 := h.grown ht.grown hB (fun g hg => by cases hg; exact hb)
--M}
set_option maxHeartbeats 1600000 in
theorem byIdM_any (A : Option Addr) (n c : Nat) (xs : List Mb) (w : World) (h : SRow 4 mbC w w.heap.size A n xs) (hn : n ≤ 1048576) (hr : Rise Mb.id xs) (hw : ∀ x ∈ xs, idB x.id = true) :
    Calls Tryz.prog 80 #[.slice A n c] w fun e w' => e = .returned (.map (some w.heap.size)) ∧ w'.ownsMap Tryz.prog 2 heldR w.heap.size n (tabD Mb.id mbV xs) ∧ Below w.heap.size w w' := by
  have HL := Lib.hid h.1
  have HR := Lib.hid hr
  have HW := Lib.hid hw
  clear hr hw
  have hmm := fun k n w => @run_makeMap_hint Tryz.prog _ _ _ Tryz.underlying112 k n w
  go_enter Tryz.func80, Tryz.ntmps80
  go_wp2
  have hm0 := World.ownsMap_made w Tryz.prog 2 heldR
  have hb0 : Below w.heap.size w (w.alloc (.map #[] 0)) := (Below.refl _ _).alloc (Nat.le_refl _) _
  go_loopw [11] (fun i wr => ∃ k : Nat, k ≤ n ∧ i = .int .i64 k ∧ wr.ownsMap Tryz.prog 2 heldR w.heap.size k (tabD Mb.id mbV (xs.take k)) ∧ Below w.heap.size w wr) (fun i _ => n - (RowKit.intOf i).toNat)
  case atStart => exact ⟨0, by omega, rfl, hm0, hb0⟩
  case round =>
    obtain ⟨k, hk, rfl, hown, hbel⟩ := hrel
    clear hm0 hb0
    have hbs := hbel.size
    by_cases hlt : k < n
    · obtain ⟨b, off, z, rfl, hb, hz, c0, c1, c2, c3⟩ := h.atm hlt
      have HP := Lib.hid (Rise_put_take HR.out hz)
      have hwf := wf_id (HW.out z (List.mem_of_getElem? hz))
      clear hz
      have d0 := (hbel.cell (p := ⟨b, off + k * 4, none⟩) hb).trans c0
      have d1 := (hbel.cell (p := ⟨b, off + k * 4 + 1, none⟩) hb).trans c1
      have d2 := (hbel.cell (p := ⟨b, off + k * 4 + 2, none⟩) hb).trans c2
      have d3 := (hbel.cell (p := ⟨b, off + k * 4 + 3, none⟩) hb).trans c3
      clear c0 c1 c2 c3 h
      have hm : ∀ w : World, (method 351 66 (.agg #[.int .i64 z.id, .int .i64 z.role, .int .i64 z.since, .int .i64 z.quiet]) "loop.example/g01202/impl.key").run Tryz.prog w = .ok (184, .agg #[.int .i64 z.id, .int .i64 z.role, .int .i64 z.since, .int .i64 z.quiet]) w := fun _ => by kernel_rfl
      go_wp2_with fail
      obtain ⟨kz, ha⟩ := one_box wr 66 #[.int .i64 z.id, .int .i64 z.role, .int .i64 z.since, .int .i64 z.quiet]
      have hownA := hown.alloc (.cells #[.int .i64 z.id, .int .i64 z.role, .int .i64 z.since, .int .i64 z.quiet] 66)
      generalize wr.alloc (.cells #[.int .i64 z.id, .int .i64 z.role, .int .i64 z.since, .int .i64 z.quiet] 66) = wa at *
      have hb1 := hbel.trans (ha.mono hbs)
      have hb2 : Below w.heap.size w wa.drew := hb1.drew
      have hownD : wa.drew.ownsMap Tryz.prog 2 heldR w.heap.size k (tabD Mb.id mbV (xs.take k)) := hownA
      have kD : Blk wa.drew wr.heap.size 66 #[.int .i64 z.id, .int .i64 z.role, .int .i64 z.since, .int .i64 z.quiet] := kz
      clear hown hownA hbel ha hb1 d0 d1 d2 d3
      have hsD := hb2.size
      go_region_held3 (fun w' => w'.cell? ⟨wr.heap.size, 0, none⟩ = some (.int .i64 z.id) ∧ w'.cell? ⟨wr.heap.size, 1, none⟩ = some (.int .i64 z.role) ∧ w'.cell? ⟨wr.heap.size, 2, none⟩ = some (.int .i64 z.since) ∧ w'.cell? ⟨wr.heap.size, 3, none⟩ = some (.int .i64 z.quiet))
        (first | exact ⟨kD.cell 0, kD.cell 1, kD.cell 2, kD.cell 3⟩ | exact ⟨k3.cell 0, k3.cell 1, k3.cell 2, k3.cell 3⟩ | exact ⟨k4.cell 0, k4.cell 1, k4.cell 2, k4.cell 3⟩)
        ((go_at_call 184; refine (MemberKey_any z _).mono ?_; rintro e w3 ⟨rfl, hb3⟩; have k3 := kD.below hb3 kD.lt; have hown3 := ownsMap_below hownD hb3 hownD.lt; obtain ⟨w4, hrun4, hown4, hturn4⟩ := hown3.store kInt Tryz.underlying112 (by unfold maxLen; omega) (keyOf_int_mk Tryz.underlying2 hwf) (show heldR (.agg #[.int .i64 z.id, .int .i64 z.role, .int .i64 z.since, .int .i64 z.quiet]) = some (.held (mbV z), []) from rfl); have k4 := k3.turned hturn4; have hb4 := hb2.trans (hb3.mono hsD); have hb5 := below_map hb4 hturn4 hb4.size (Nat.le_refl _)))
      rw [show DataW.put (tabD Mb.id mbV (xs.take k)) (.int .i64 z.id) (.held (mbV z)) = tabD Mb.id mbV (xs.take (k + 1)) by rw [tab_put, HP.out]] at hown4
      clear hb2 hownD hown3 hb4 hb3 hturn4 hrun4
      go_wp2
      go_roundw
      case rel => exact ⟨k + 1, by omega, by go_num, hown4, hb5⟩
      case measure => simp [RowKit.intOf]; omega
    · have hkn : k = n := by omega
      subst hkn
      rw [List.take_of_length_le (by have := HL.out; omega)] at hown
      go_wp2
      go_ret
      exact ⟨rfl, hown, hbel⟩
end Go.Proofs.YtmnmmjobplbflaaGreatDoor
namespace Go.Proofs.YtmnmmjobplbflaaGreatDoor
open Go.ChangeShapes Go.WideShapes Go.ChangeAt Go.RowKit
open Go.ChangeMaps (open_string shut_string)
set_option linter.unusedVariables false
open Go.Maps
set_option maxRecDepth 100000
set_option maxHeartbeats 1600000 in
theorem byIdI_any (A : Option Addr) (n c : Nat) (xs : List Iv) (w : World) (h : SRow 3 ivC w w.heap.size A n xs) (hn : n ≤ 1048576) (hr : Rise Iv.id xs) (hw : ∀ x ∈ xs, idB x.id = true) :
    Calls Tryz.prog 81 #[.slice A n c] w fun e w' => e = .returned (.map (some w.heap.size)) ∧ w'.ownsMap Tryz.prog 2 heldR w.heap.size n (tabD Iv.id ivV xs) ∧ Below w.heap.size w w' := by
  have HL := Lib.hid h.1
  have HR := Lib.hid hr
  have HW := Lib.hid hw
  clear hr hw
  have hmm := fun k n w => @run_makeMap_hint Tryz.prog _ _ _ Tryz.underlying113 k n w
  go_enter Tryz.func81, Tryz.ntmps81
  go_wp2
  have hm0 := World.ownsMap_made w Tryz.prog 2 heldR
  have hb0 : Below w.heap.size w (w.alloc (.map #[] 0)) := (Below.refl _ _).alloc (Nat.le_refl _) _
  go_loopw [11] (fun i wr => ∃ k : Nat, k ≤ n ∧ i = .int .i64 k ∧ wr.ownsMap Tryz.prog 2 heldR w.heap.size k (tabD Iv.id ivV (xs.take k)) ∧ Below w.heap.size w wr) (fun i _ => n - (RowKit.intOf i).toNat)
  case atStart => exact ⟨0, by omega, rfl, hm0, hb0⟩
  case round =>
    obtain ⟨k, hk, rfl, hown, hbel⟩ := hrel
    clear hm0 hb0
    have hbs := hbel.size
    by_cases hlt : k < n
    · obtain ⟨b, off, z, rfl, hb, hz, c0, c1, c2⟩ := h.ativ hlt
      have HP := Lib.hid (Rise_put_take HR.out hz)
      have hwf := wf_id (HW.out z (List.mem_of_getElem? hz))
      clear hz
      have d0 := (hbel.cell (p := ⟨b, off + k * 3, none⟩) hb).trans c0
      have d1 := (hbel.cell (p := ⟨b, off + k * 3 + 1, none⟩) hb).trans c1
      have d2 := (hbel.cell (p := ⟨b, off + k * 3 + 2, none⟩) hb).trans c2
      clear c0 c1 c2 h
      have hm : ∀ w : World, (method 351 36 (.agg #[.int .i64 z.id, .int .i64 z.byy, .int .i64 z.til]) "loop.example/g01202/impl.key").run Tryz.prog w = .ok (180, .agg #[.int .i64 z.id, .int .i64 z.byy, .int .i64 z.til]) w := fun _ => by kernel_rfl
      go_wp2_with fail
      obtain ⟨kz, ha⟩ := one_box wr 36 #[.int .i64 z.id, .int .i64 z.byy, .int .i64 z.til]
      have hownA := hown.alloc (.cells #[.int .i64 z.id, .int .i64 z.byy, .int .i64 z.til] 36)
      generalize wr.alloc (.cells #[.int .i64 z.id, .int .i64 z.byy, .int .i64 z.til] 36) = wa at *
      have hb1 := hbel.trans (ha.mono hbs)
      have hb2 : Below w.heap.size w wa.drew := hb1.drew
      have hownD : wa.drew.ownsMap Tryz.prog 2 heldR w.heap.size k (tabD Iv.id ivV (xs.take k)) := hownA
      have kD : Blk wa.drew wr.heap.size 36 #[.int .i64 z.id, .int .i64 z.byy, .int .i64 z.til] := kz
      clear hown hownA hbel ha hb1 d0 d1 d2
      have hsD := hb2.size
      go_region_held3 (fun w' => w'.cell? ⟨wr.heap.size, 0, none⟩ = some (.int .i64 z.id) ∧ w'.cell? ⟨wr.heap.size, 1, none⟩ = some (.int .i64 z.byy) ∧ w'.cell? ⟨wr.heap.size, 2, none⟩ = some (.int .i64 z.til))
        (first | exact ⟨kD.cell 0, kD.cell 1, kD.cell 2⟩ | exact ⟨k3.cell 0, k3.cell 1, k3.cell 2⟩ | exact ⟨k4.cell 0, k4.cell 1, k4.cell 2⟩)
        ((go_at_call 180; refine (InviteKey_any z _).mono ?_; rintro e w3 ⟨rfl, hb3⟩; have k3 := kD.below hb3 kD.lt; have hown3 := ownsMap_below hownD hb3 hownD.lt; obtain ⟨w4, hrun4, hown4, hturn4⟩ := hown3.store kInt Tryz.underlying113 (by unfold maxLen; omega) (keyOf_int_mk Tryz.underlying2 hwf) (show heldR (.agg #[.int .i64 z.id, .int .i64 z.byy, .int .i64 z.til]) = some (.held (ivV z), []) from rfl); have k4 := k3.turned hturn4; have hb4 := hb2.trans (hb3.mono hsD); have hb5 := below_map hb4 hturn4 hb4.size (Nat.le_refl _)))
      rw [show DataW.put (tabD Iv.id ivV (xs.take k)) (.int .i64 z.id) (.held (ivV z)) = tabD Iv.id ivV (xs.take (k + 1)) by rw [tab_put, HP.out]] at hown4
      clear hb2 hownD hown3 hb4 hb3 hturn4 hrun4
      go_wp2
      go_roundw
      case rel => exact ⟨k + 1, by omega, by go_num, hown4, hb5⟩
      case measure => simp [RowKit.intOf]; omega
    · have hkn : k = n := by omega
      subst hkn
      rw [List.take_of_length_le (by have := HL.out; omega)] at hown
      go_wp2
      go_ret
      exact ⟨rfl, hown, hbel⟩
end Go.Proofs.YtmnmmjobplbflaaGreatDoor
namespace Go.Proofs.YtmnmmjobplbflaaGreatDoor
open Go.ChangeShapes Go.WideShapes Go.ChangeAt Go.RowKit
open Go.ChangeMaps (open_string shut_string)
set_option linter.unusedVariables false
open Go.Maps
set_option maxRecDepth 100000
set_option maxHeartbeats 1600000 in
theorem byIdB_any (A : Option Addr) (n c : Nat) (xs : List Bn) (w : World) (h : SRow 2 bnC w w.heap.size A n xs) (hn : n ≤ 1048576) (hr : Rise Bn.id xs) (hw : ∀ x ∈ xs, idB x.id = true) :
    Calls Tryz.prog 82 #[.slice A n c] w fun e w' => e = .returned (.map (some w.heap.size)) ∧ w'.ownsMap Tryz.prog 2 heldR w.heap.size n (tabD Bn.id bnV xs) ∧ Below w.heap.size w w' := by
  have HL := Lib.hid h.1
  have HR := Lib.hid hr
  have HW := Lib.hid hw
  clear hr hw
  have hmm := fun k n w => @run_makeMap_hint Tryz.prog _ _ _ Tryz.underlying114 k n w
  go_enter Tryz.func82, Tryz.ntmps82
  go_wp2
  have hm0 := World.ownsMap_made w Tryz.prog 2 heldR
  have hb0 : Below w.heap.size w (w.alloc (.map #[] 0)) := (Below.refl _ _).alloc (Nat.le_refl _) _
  go_loopw [11] (fun i wr => ∃ k : Nat, k ≤ n ∧ i = .int .i64 k ∧ wr.ownsMap Tryz.prog 2 heldR w.heap.size k (tabD Bn.id bnV (xs.take k)) ∧ Below w.heap.size w wr) (fun i _ => n - (RowKit.intOf i).toNat)
  case atStart => exact ⟨0, by omega, rfl, hm0, hb0⟩
  case round =>
    obtain ⟨k, hk, rfl, hown, hbel⟩ := hrel
    clear hm0 hb0
    have hbs := hbel.size
    by_cases hlt : k < n
    · obtain ⟨b, off, z, rfl, hb, hz, c0, c1⟩ := h.atbn hlt
      have HP := Lib.hid (Rise_put_take HR.out hz)
      have hwf := wf_id (HW.out z (List.mem_of_getElem? hz))
      clear hz
      have d0 := (hbel.cell (p := ⟨b, off + k * 2, none⟩) hb).trans c0
      have d1 := (hbel.cell (p := ⟨b, off + k * 2 + 1, none⟩) hb).trans c1
      clear c0 c1 h
      have hm : ∀ w : World, (method 351 38 (.agg #[.int .i64 z.id, .int .i64 z.til]) "loop.example/g01202/impl.key").run Tryz.prog w = .ok (182, .agg #[.int .i64 z.id, .int .i64 z.til]) w := fun _ => by kernel_rfl
      go_wp2_with fail
      obtain ⟨kz, ha⟩ := one_box wr 38 #[.int .i64 z.id, .int .i64 z.til]
      have hownA := hown.alloc (.cells #[.int .i64 z.id, .int .i64 z.til] 38)
      generalize wr.alloc (.cells #[.int .i64 z.id, .int .i64 z.til] 38) = wa at *
      have hb1 := hbel.trans (ha.mono hbs)
      have hb2 : Below w.heap.size w wa.drew := hb1.drew
      have hownD : wa.drew.ownsMap Tryz.prog 2 heldR w.heap.size k (tabD Bn.id bnV (xs.take k)) := hownA
      have kD : Blk wa.drew wr.heap.size 38 #[.int .i64 z.id, .int .i64 z.til] := kz
      clear hown hownA hbel ha hb1 d0 d1
      have hsD := hb2.size
      go_region_held3 (fun w' => w'.cell? ⟨wr.heap.size, 0, none⟩ = some (.int .i64 z.id) ∧ w'.cell? ⟨wr.heap.size, 1, none⟩ = some (.int .i64 z.til))
        (first | exact ⟨kD.cell 0, kD.cell 1⟩ | exact ⟨k3.cell 0, k3.cell 1⟩ | exact ⟨k4.cell 0, k4.cell 1⟩)
        ((go_at_call 182; refine (BanKey_any z _).mono ?_; rintro e w3 ⟨rfl, hb3⟩; have k3 := kD.below hb3 kD.lt; have hown3 := ownsMap_below hownD hb3 hownD.lt; obtain ⟨w4, hrun4, hown4, hturn4⟩ := hown3.store kInt Tryz.underlying114 (by unfold maxLen; omega) (keyOf_int_mk Tryz.underlying2 hwf) (show heldR (.agg #[.int .i64 z.id, .int .i64 z.til]) = some (.held (bnV z), []) from rfl); have k4 := k3.turned hturn4; have hb4 := hb2.trans (hb3.mono hsD); have hb5 := below_map hb4 hturn4 hb4.size (Nat.le_refl _)))
      rw [show DataW.put (tabD Bn.id bnV (xs.take k)) (.int .i64 z.id) (.held (bnV z)) = tabD Bn.id bnV (xs.take (k + 1)) by rw [tab_put, HP.out]] at hown4
      clear hb2 hownD hown3 hb4 hb3 hturn4 hrun4
      go_wp2
      go_roundw
      case rel => exact ⟨k + 1, by omega, by go_num, hown4, hb5⟩
      case measure => simp [RowKit.intOf]; omega
    · have hkn : k = n := by omega
      subst hkn
      rw [List.take_of_length_le (by have := HL.out; omega)] at hown
      go_wp2
      go_ret
      exact ⟨rfl, hown, hbel⟩
end Go.Proofs.YtmnmmjobplbflaaGreatDoor
