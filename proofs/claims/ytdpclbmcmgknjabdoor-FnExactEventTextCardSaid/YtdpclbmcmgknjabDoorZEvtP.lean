import Derived.Test.YtdpclbmcmgknjabDoorChecked
import Derived.WalkKit
import Derived.ProofKit
import Derived.OpenShut
import Derived.ShutString
import Derived.ChangeOld
import Derived.Below
import Derived.Lib.Hide
import Derived.Test.YtdpclbmcmgknjabDoorZPlain1
import Derived.Test.YtdpclbmcmgknjabDoorZMsgP
import Derived.Test.YtdpclbmcmgknjabDoorJa
namespace Go.Proofs.YtdpclbmcmgknjabDoor
open Go.ChangeShapes Go.WideShapes Go.ChangeAt Go.RowKit
open Go.ChangeMaps (open_string shut_string)
set_option linter.unusedVariables false
set_option maxRecDepth 100000
structure Ev where
  kd : Int
  nu : Int
  mb : Int
  tk : Int
  tx : ByteArray
  rp : Int
/-- what a kind does not tell is empty -/
def bareB (e : Ev) : Bool := decide (e.tk = 0) && e.tx.toList.isEmpty && decide (e.rp = 0)
def editB (e : Ev) : Bool := decide (e.tk = 0) && textB e.tx && decide (e.rp = 0)
def postEB (e : Ev) : Bool := tickB e.tk && textB e.tx && decide (0 ≤ e.rp) && decide (e.rp < e.nu)
def kindB (e : Ev) : Bool := if e.kd = 0 then postEB e else if e.kd = 1 then editB e else if e.kd = 2 ∨ e.kd = 3 ∨ e.kd = 4 then bareB e else false
def evB (e : Ev) : Bool := numB e.nu && idB e.mb && kindB e
def ev0 : Ev := ⟨0, 0, 0, 0, ByteArray.empty, 0⟩
theorem toList_loop_len (s : ByteArray) : ∀ (m i : Nat) (r : List UInt8), s.size - i = m → r.length ≤ (ByteArray.toList.loop s i r).length := by
  intro m
  induction m with
  | zero =>
    intro i r h
    rw [ByteArray.toList.loop, if_neg (by omega)]
    simp
  | succ m ih =>
    intro i r h
    rw [ByteArray.toList.loop, if_pos (by omega)]
    have := ih (i + 1) (s.get! i :: r) (by omega)
    simp at this
    omega
theorem tx_empty {s : ByteArray} (h : s.toList.isEmpty = true) : s = ByteArray.empty := by
  have h1 : s.size = 0 := by
    rcases Nat.eq_zero_or_pos s.size with h0 | h0
    · exact h0
    · exfalso
      have q := toList_loop_len s (s.size - 1) 1 [s.get! 0] rfl
      unfold ByteArray.toList at h
      rw [ByteArray.toList.loop, if_pos h0] at h
      rw [List.isEmpty_iff] at h
      simp at q
      rw [h] at q
      simp at q
  obtain ⟨d⟩ := s
  have h2 : d.size = 0 := h1
  have h3 : d = #[] := Array.eq_empty_of_size_eq_zero h2
  rw [h3]; rfl
theorem kindB_0 {e : Ev} (h : e.kd = 0) : kindB e = postEB e := by simp [kindB, h]
theorem kindB_1 {e : Ev} (h : e.kd = 1) : kindB e = editB e := by simp [kindB, h]
theorem kindB_2 {e : Ev} (h : e.kd = 2) : kindB e = bareB e := by simp [kindB, h]
theorem kindB_3 {e : Ev} (h : e.kd = 3) : kindB e = bareB e := by simp [kindB, h]
theorem kindB_4 {e : Ev} (h : e.kd = 4) : kindB e = bareB e := by simp [kindB, h]
theorem kindB_no {e : Ev} (h0 : e.kd ≠ 0) (h1 : e.kd ≠ 1) (h2 : e.kd ≠ 2) (h3 : e.kd ≠ 3) (h4 : e.kd ≠ 4) : kindB e = false := by simp [kindB, h0, h1, h2, h3, h4]
end Go.Proofs.YtdpclbmcmgknjabDoor
