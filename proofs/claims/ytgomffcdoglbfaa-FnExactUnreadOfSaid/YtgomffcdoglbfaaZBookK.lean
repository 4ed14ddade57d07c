import Derived.Test.YtgomffcdoglbfaaChecked
import Derived.WalkKit
import Derived.ProofKit
import Derived.OpenShut
import Derived.ShutString
import Derived.ChangeOld
import Derived.Below
import Derived.Lib.Hide
import Derived.MapKept
import Derived.Maps.OwnSet
import Derived.Maps.OwnOps
import Derived.Deep.RegionHeld3
import Derived.Test.YtgomffcdoglbfaaJf
import Derived.Test.YtgomffcdoglbfaaZListK
namespace Go.Proofs.Ytgomffcdoglbfaa
open Go.ChangeShapes Go.WideShapes Go.ChangeAt Go.RowKit
open Go.ChangeMaps (open_string shut_string)
set_option linter.unusedVariables false
open Go.Maps
set_option maxRecDepth 100000
set_option maxHeartbeats 1600000 in
theorem byIdK_any (A : Option Addr) (n c : Nat) (xs : List Bn) (w : World) (h : SRow 2 bnC w w.heap.size A n xs) (hn : n ≤ 1048576) (hr : Rise Bn.id xs) (hw : ∀ x ∈ xs, idB x.id = true) :
    Calls Try.prog 57 #[.slice A n c] w fun e w' => e = .returned (.map (some w.heap.size)) ∧ w'.ownsMap Try.prog 2 heldR w.heap.size n (tabD Bn.id bnV xs) ∧ Below w.heap.size w w' := by
  have HL := Lib.hid h.1
  have HR := Lib.hid hr
  have HW := Lib.hid hw
  clear hr hw
  have hmm := fun k n w => @run_makeMap_hint Try.prog _ _ _ Try.underlying79 k n w
  go_enter Try.func57, Try.ntmps57
  go_wp2
  have hm0 := World.ownsMap_made w Try.prog 2 heldR
  have hb0 : Below w.heap.size w (w.alloc (.map #[] 0)) := (Below.refl _ _).alloc (Nat.le_refl _) _
  go_loopw [11] (fun i wr => ∃ k : Nat, k ≤ n ∧ i = .int .i64 k ∧ wr.ownsMap Try.prog 2 heldR w.heap.size k (tabD Bn.id bnV (xs.take k)) ∧ Below w.heap.size w wr) (fun i _ => n - (RowKit.intOf i).toNat)
  case atStart => exact ⟨0, by omega, rfl, hm0, hb0⟩
  case round =>
    obtain ⟨k, hk, rfl, hown, hbel⟩ := hrel
    clear hm0 hb0
    have hbs := hbel.size
    by_cases hlt : k < n
    · obtain ⟨b, off, z, rfl, hb, hz, c0, c1⟩ := h.atbn hlt
      have HP := Lib.hid (Rise_put_take HR.out hz)
      have hwf := wf_id (HW.out z (List.mem_of_getElem? hz))
      clear hz
      have d0 := (hbel.cell (p := ⟨b, off + k * 2, none⟩) hb).trans c0
      have d1 := (hbel.cell (p := ⟨b, off + k * 2 + 1, none⟩) hb).trans c1
      clear c0 c1 h
      have hm : ∀ w : World, (method 313 74 (.agg #[.int .i64 z.id, .int .i64 z.til]) "loop.example/g01202/impl.key").run Try.prog w = .ok (180, .agg #[.int .i64 z.id, .int .i64 z.til]) w := fun _ => by kernel_rfl
      go_wp2_with fail
      obtain ⟨kz, ha⟩ := one_box wr 74 #[.int .i64 z.id, .int .i64 z.til]
      have hownA := hown.alloc (.cells #[.int .i64 z.id, .int .i64 z.til] 74)
      generalize wr.alloc (.cells #[.int .i64 z.id, .int .i64 z.til] 74) = wa at *
      have hb1 := hbel.trans (ha.mono hbs)
      have hb2 : Below w.heap.size w wa.drew := hb1.drew
      have hownD : wa.drew.ownsMap Try.prog 2 heldR w.heap.size k (tabD Bn.id bnV (xs.take k)) := hownA
      have kD : Blk wa.drew wr.heap.size 74 #[.int .i64 z.id, .int .i64 z.til] := kz
      clear hown hownA hbel ha hb1 d0 d1
      have hsD := hb2.size
      go_region_held3 (fun w' => w'.cell? ⟨wr.heap.size, 0, none⟩ = some (.int .i64 z.id) ∧ w'.cell? ⟨wr.heap.size, 1, none⟩ = some (.int .i64 z.til))
        (first | exact ⟨kD.cell 0, kD.cell 1⟩ | exact ⟨k3.cell 0, k3.cell 1⟩ | exact ⟨k4.cell 0, k4.cell 1⟩)
        ((go_at_call 180; refine (MarkKey_any z _).mono ?_; rintro e w3 ⟨rfl, hb3⟩; have k3 := kD.below hb3 kD.lt; have hown3 := ownsMap_below hownD hb3 hownD.lt; obtain ⟨w4, hrun4, hown4, hturn4⟩ := hown3.store kInt Try.underlying79 (by unfold maxLen; omega) (keyOf_int_mk Try.underlying2 hwf) (show heldR (.agg #[.int .i64 z.id, .int .i64 z.til]) = some (.held (bnV z), []) from rfl); have k4 := k3.turned hturn4; have hb4 := hb2.trans (hb3.mono hsD); have hb5 := below_map hb4 hturn4 hb4.size (Nat.le_refl _)))
      rw [show DataW.put (tabD Bn.id bnV (xs.take k)) (.int .i64 z.id) (.held (bnV z)) = tabD Bn.id bnV (xs.take (k + 1)) by rw [tab_put, HP.out]] at hown4
      clear hb2 hownD hown3 hb4 hb3 hturn4 hrun4
      go_wp2
      go_roundw
      case rel => exact ⟨k + 1, by omega, by go_num, hown4, hb5⟩
      case measure => simp [RowKit.intOf]; omega
    · have hkn : k = n := by omega
      subst hkn
      rw [List.take_of_length_le (by have := HL.out; omega)] at hown
      go_wp2
      go_ret
      exact ⟨rfl, hown, hbel⟩
end Go.Proofs.Ytgomffcdoglbfaa
