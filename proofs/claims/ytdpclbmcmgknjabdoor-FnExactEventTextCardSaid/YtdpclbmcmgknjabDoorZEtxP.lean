import Derived.Test.YtdpclbmcmgknjabDoorChecked
import Derived.WalkKit
import Derived.ProofKit
import Derived.OpenShut
import Derived.ShutString
import Derived.ChangeOld
import Derived.Below
import Derived.Lib.Hide
import Derived.Test.YtdpclbmcmgknjabDoorZEvtP
import Derived.Test.YtdpclbmcmgknjabDoorZListI
import Derived.Test.YtdpclbmcmgknjabDoorJr
import Derived.Test.YtdpclbmcmgknjabDoorJb
namespace Go.Proofs.YtdpclbmcmgknjabDoor
open Go.ChangeShapes Go.WideShapes Go.ChangeAt Go.RowKit
open Go.ChangeMaps (open_string shut_string)
set_option linter.unusedVariables false
set_option maxRecDepth 100000
def evTxt (e : Ev) : ByteArray := (ltS [e.kd, e.nu, e.mb, e.tk, e.rp] ++ ⟨#[32]⟩) ++ e.tx
theorem ev_small {e : Ev} (h : evB e = true) : SmallL [e.kd, e.nu, e.mb, e.tk, e.rp] := by
  simp only [evB, Bool.and_eq_true] at h
  obtain ⟨⟨h1, h2⟩, h3⟩ := h
  have n1 : 1 ≤ e.nu ∧ e.nu ≤ 1000000000 := by simpa [numB] using h1
  have n2 : 1 ≤ e.mb ∧ e.mb ≤ 1000 := by simpa [idB] using h2
  have n3 : (0 ≤ e.kd ∧ e.kd ≤ 4) ∧ (0 ≤ e.tk ∧ e.tk ≤ 1000000) ∧ (0 ≤ e.rp ∧ e.rp ≤ e.nu) := by
    unfold kindB at h3
    split at h3
    · simp [postEB, tickB] at h3; omega
    · split at h3
      · simp [editB] at h3; omega
      · split at h3
        · simp [bareB] at h3; omega
        · cases h3
  intro x hx
  simp only [List.mem_cons, List.not_mem_nil, or_false] at hx
  rcases hx with rfl | rfl | rfl | rfl | rfl <;> omega
theorem ev_size {e : Ev} (h : SmallL [e.kd, e.nu, e.mb, e.tk, e.rp]) (hs : e.tx.size ≤ 1048576) : (ltS [e.kd, e.nu, e.mb, e.tk, e.rp]).size + (⟨#[32]⟩ : ByteArray).size ≤ 9223372036854775807 ∧ (ltS [e.kd, e.nu, e.mb, e.tk, e.rp] ++ ⟨#[32]⟩).size + e.tx.size ≤ 9223372036854775807 := by
  have q : (ltS [e.kd, e.nu, e.mb, e.tk, e.rp]).size ≤ 59 := ltTo_size e.kd [e.nu, e.mb, e.tk, e.rp] h 4 (Nat.le_refl _)
  have q2 : (⟨#[32]⟩ : ByteArray).size = 1 := rfl
  rw [ByteArray.size_append, q2]
  omega
theorem few_of {xs : List Int} (h : SmallL xs) : FewAt xs xs.length := ⟨Nat.le_refl _, fun j x _ hx => h x (List.mem_of_getElem? hx), fun x hx => by simp at hx⟩
theorem row5 {w : World} {g : Nat} {a b c d e : Int} (h : Blk w g 2 #[.int .i64 a, .int .i64 b, .int .i64 c, .int .i64 d, .int .i64 e]) : Row i64v w w.heap.size (some ⟨g, 0, none⟩) 5 [a, b, c, d, e] := by
  refine ⟨rfl, fun _ => ⟨g, 0, rfl, h.lt, fun j z hz => ?_⟩⟩
  match j, hz with
  | 0, hz => cases hz; exact h.cell 0
  | 1, hz => cases hz; exact h.cell 1
  | 2, hz => cases hz; exact h.cell 2
  | 3, hz => cases hz; exact h.cell 3
  | 4, hz => cases hz; exact h.cell 4
  | j + 5, hz => simp at hz
end Go.Proofs.YtdpclbmcmgknjabDoor
