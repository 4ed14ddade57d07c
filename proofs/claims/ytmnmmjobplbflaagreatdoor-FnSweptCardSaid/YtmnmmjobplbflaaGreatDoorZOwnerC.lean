import Derived.Test.YtmnmmjobplbflaaGreatDoorChecked
import Derived.WalkKit
import Derived.ProofKit
import Derived.OpenShut
import Derived.ShutString
import Derived.ChangeOld
import Derived.Below
import Derived.Lib.Hide
import Derived.Test.YtmnmmjobplbflaaGreatDoorZListedC
namespace Go.Proofs.YtmnmmjobplbflaaGreatDoor
open Go.ChangeShapes Go.WideShapes Go.ChangeAt Go.RowKit
open Go.ChangeMaps (open_string shut_string)
set_option linter.unusedVariables false
set_option maxRecDepth 100000
theorem isOwner_any (z : Mb) (w : World) : Calls Tryz.prog 42 #[.agg #[.int .i64 z.id, .int .i64 z.role, .int .i64 z.since, .int .i64 z.quiet]] w fun e w' => e = .returned (.bool (z.role == 3)) ∧ Below w.heap.size w w' := by
  go_enter Tryz.func42, Tryz.ntmps42
  go_wp2
  go_ret
  exact ⟨rfl, (Below.refl _ _).alloc (Nat.le_refl _) _⟩
def IdxPost (b : Bool) (w : World) (e : Ending) (w' : World) : Prop := ∃ p : Int, e = .returned (.int .i64 p) ∧ decide (0 ≤ p) = b ∧ Below w.heap.size w w'
theorem any_no {xs : List Mb} {k : Nat} (h : ∀ z ∈ xs.take k, ownB z = false) (hk : xs.length ≤ k) : xs.any ownB = false := by
  rw [List.take_of_length_le hk] at h
  rw [← Bool.not_eq_true]; intro H
  obtain ⟨z, hz, hb⟩ := List.any_eq_true.1 H
  rw [h z hz] at hb; cases hb
theorem any_yes {xs : List Mb} {k : Nat} {z : Mb} (hz : xs[k]? = some z) (h : ownB z = true) : xs.any ownB = true := List.any_eq_true.2 ⟨z, List.mem_of_getElem? hz, h⟩
theorem none_succ {xs : List Mb} {k : Nat} {z : Mb} (h : ∀ z ∈ xs.take k, ownB z = false) (hz : xs[k]? = some z) (hf : ownB z = false) : ∀ z ∈ xs.take (k + 1), ownB z = false := by
  intro u hu
  rw [take_some hz, List.mem_append] at hu
  rcases hu with hu | hu
  · exact h u hu
  · simp at hu; subst hu; exact hf
set_option maxHeartbeats 800000 in
theorem indexOwner_any (A : Option Addr) (n c : Nat) (xs : List Mb) (w : World) (h : SRow 4 mbC w w.heap.size A n xs) (hn : n ≤ 1048576) :
    Calls Tryz.prog 86 #[.slice A n c, .func (.func 42) #[] #[]] w fun e w' => IdxPost (xs.any ownB) w e w' := by
  have HL := Lib.hid h.1
  go_enter Tryz.func86, Tryz.ntmps86
  go_wp2
  go_loopw [8] (fun i wr => ∃ k : Nat, k ≤ n ∧ i = .int .i64 k ∧ Hid (∀ z ∈ xs.take k, ownB z = false) ∧ Below w.heap.size w wr) (fun i _ => n - (intOf i).toNat)
  case atStart => exact ⟨0, by omega, rfl, Lib.hid (fun z hz => by simp at hz), Below.refl _ _⟩
  case round =>
    obtain ⟨k, hk, rfl, HA, hbel⟩ := hrel
    have hbs := hbel.size
    by_cases hlt : k < n
    · obtain ⟨b, off, z, rfl, hb, hz, c0, c1, c2, c3⟩ := h.atm hlt
      have HZ := Lib.hid hz
      clear hz
      have d0 := (hbel.cell (p := ⟨b, off + k * 4, none⟩) hb).trans c0
      have d1 := (hbel.cell (p := ⟨b, off + k * 4 + 1, none⟩) hb).trans c1
      have d2 := (hbel.cell (p := ⟨b, off + k * 4 + 2, none⟩) hb).trans c2
      have d3 := (hbel.cell (p := ⟨b, off + k * 4 + 3, none⟩) hb).trans c3
      clear c0 c1 c2 c3 h
      cases ho : z.role == 3 with
      | true =>
        have HF := Lib.hid (any_yes HZ.out (show ownB z = true from ho))
        go_wp2_with (go_at_call 42; refine (isOwner_any z _).mono ?_; rw [ho]; rintro e w2 ⟨rfl, hb2⟩)
        go_ret
        exact ⟨_, rfl, by rw [HF.out]; simp, hbel.trans (hb2.mono hbs)⟩
      | false =>
        have HN := Lib.hid (none_succ HA.out HZ.out (show ownB z = false from ho))
        go_wp2_with (go_at_call 42; refine (isOwner_any z _).mono ?_; rw [ho]; rintro e w2 ⟨rfl, hb2⟩)
        have hb2 := hbel.trans (hb2.mono hbs)
        go_roundw
        case rel => exact ⟨k + 1, by omega, by go_num, HN, hb2⟩
        case measure => simp [intOf]; omega
    · have HE := Lib.hid (any_no HA.out (by have := HL.out; omega))
      go_wp2
      go_ret
      exact ⟨-1, rfl, by rw [HE.out]; simp, hbel⟩
theorem containsOwner_any (A : Option Addr) (n c : Nat) (xs : List Mb) (w : World) (h : SRow 4 mbC w w.heap.size A n xs) (hn : n ≤ 1048576) :
    Calls Tryz.prog 41 #[.slice A n c, .func (.func 42) #[] #[]] w fun e w' => e = .returned (.bool (xs.any ownB)) ∧ Below w.heap.size w w' := by
  go_enter Tryz.func41, Tryz.ntmps41
  go_wp2_with fail
  go_at_call 86; refine (indexOwner_any _ _ _ _ _ h hn).mono ?_; rintro e w2 ⟨p, rfl, hp, hb2⟩
  have HP := Lib.hid hp
  clear hp
  go_wp2
  go_ret
  exact ⟨ret_bool HP.out, hb2⟩
end Go.Proofs.YtmnmmjobplbflaaGreatDoor
