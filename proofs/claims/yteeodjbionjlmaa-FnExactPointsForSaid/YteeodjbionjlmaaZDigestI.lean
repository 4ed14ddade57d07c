import Derived.Test.YteeodjbionjlmaaChecked
import Derived.WalkKit
import Derived.ProofKit
import Derived.OpenShut
import Derived.ShutString
import Derived.ChangeOld
import Derived.Below
import Derived.Lib.Hide
import Derived.RegionTactic
import Derived.ChangeAlike
import Derived.BigRegion
import Derived.Laws.CopyOwn
import Derived.Test.YteeodjbionjlmaaJr
import Derived.Test.YteeodjbionjlmaaZPlain8
namespace Go.Proofs.Yteeodjbionjlmaa
open Go.ChangeShapes Go.WideShapes Go.ChangeAt Go.RowKit
open Go.ChangeMaps (open_string shut_string)
set_option linter.unusedVariables false
def u32v : Int → Value := fun x => Value.int .u32 x
def wCs (ws : List Int) : Array Value := (ws.map u32v).toArray
theorem wCs_set (ws : List Int) (j : Nat) (x : Int) : (wCs ws).setIfInBounds j (.int .u32 x) = wCs (ws.set j x) := by
  apply Array.ext'
  simp [wCs, u32v, List.map_set]
theorem wCs_size (ws : List Int) : (wCs ws).size = ws.length := by simp [wCs]
theorem wCs_one (ws : List Int) : (wCs ws).all (·.oneCell') = true := by
  rw [Array.all_eq_true_iff_forall_mem]
  intro v hv
  simp only [wCs, List.mem_toArray, List.mem_map] at hv
  obtain ⟨x, _, rfl⟩ := hv
  rfl
def dZero : Array Value := #[.int .u8 0, .int .u8 0, .int .u8 0, .int .u8 0, .int .u8 0, .int .u8 0, .int .u8 0, .int .u8 0, .int .u8 0, .int .u8 0, .int .u8 0, .int .u8 0, .int .u8 0, .int .u8 0, .int .u8 0, .int .u8 0,
  .int .u8 0, .int .u8 0, .int .u8 0, .int .u8 0, .int .u8 0, .int .u8 0, .int .u8 0, .int .u8 0, .int .u8 0, .int .u8 0, .int .u8 0, .int .u8 0, .int .u8 0, .int .u8 0, .int .u8 0, .int .u8 0]
def iCs (n j : Nat) : Array Value := ((dInit n j).map u32v ++ List.replicate (8 - j) (Value.int .u32 0)).toArray
theorem iCs_at (n j : Nat) (hj : j < 8) : (iCs n j)[j]? = some (.int .u32 0) := by
  simp [iCs, dInit_len, List.getElem?_append_right, List.getElem?_replicate]; omega
theorem iCs_succ (n j : Nat) (hj : j < 8) : (iCs n j).setIfInBounds j (.int .u32 ((2654435769 * ((j : Int) + 1) + (n : Int)) % 4294967296)) = iCs n (j + 1) := by
  apply Array.ext'
  simp only [iCs, dInit_succ, Array.toList_setIfInBounds, List.map_append, List.append_assoc]
  obtain ⟨r, hr⟩ : ∃ r, 8 - j = r + 1 := ⟨7 - j, by omega⟩
  rw [hr, show 8 - (j + 1) = r by omega, List.set_append_right _ _ (by simp [dInit_len]), List.replicate_succ]
  simp [dInit_len, u32v]
theorem iCs_full (n : Nat) : iCs n 8 = wCs (dInit n 8) := by simp [iCs, wCs]
def oCs (ws : List Int) (p : Nat) : Array Value := ((dOut (ws.take p)).map (Value.int .u8) ++ List.replicate (32 - 4 * p) (Value.int .u8 0)).toArray
theorem oCs_len (ws : List Int) (p : Nat) (hl : ws.length = 8) (hp : p ≤ 8) : (dOut (ws.take p)).length = 4 * p := by rw [dOut_len, List.length_take]; omega
theorem oCs_size (ws : List Int) (p : Nat) (hl : ws.length = 8) (hp : p ≤ 8) : (oCs ws p).size = 32 := by
  have := oCs_len ws p hl hp
  simp [oCs, this]; omega
theorem oCs_at (ws : List Int) (p i : Nat) (hl : ws.length = 8) (hp : p ≤ 8) (hi : i < 32) : ∃ v, (oCs ws p)[i]? = some v :=
  ⟨_, Array.getElem?_eq_getElem (by rw [oCs_size ws p hl hp]; exact hi)⟩
theorem oCs_succ (ws : List Int) (p : Nat) (x : Int) (hx : ws[p]? = some x) (hp : p < 8) (hl : ws.length = 8) :
    ((((oCs ws p).setIfInBounds (4 * p) (.int .u8 (x / 16777216))).setIfInBounds (4 * p + 1) (.int .u8 (x / 65536 % 256))).setIfInBounds (4 * p + 2) (.int .u8 (x / 256 % 256))).setIfInBounds (4 * p + 3) (.int .u8 (x % 256)) = oCs ws (p + 1) := by
  have hlen := oCs_len ws p hl (by omega)
  apply Array.ext'
  simp only [oCs, dOut_take ws p x hx, Array.toList_setIfInBounds, List.map_append, List.append_assoc]
  obtain ⟨r, hr⟩ : ∃ r, 32 - 4 * p = r + 4 := ⟨28 - 4 * p, by omega⟩
  rw [hr, show 32 - 4 * (p + 1) = r by omega]
  rw [List.set_append_right _ _ (by simp [hlen]), List.set_append_right _ _ (by simp [hlen]), List.set_append_right _ _ (by simp [hlen]), List.set_append_right _ _ (by simp [hlen])]
  simp [hlen, List.replicate_succ, show 4 * p + 1 - 4 * p = 1 by omega, show 4 * p + 2 - 4 * p = 2 by omega, show 4 * p + 3 - 4 * p = 3 by omega]
end Go.Proofs.Yteeodjbionjlmaa
