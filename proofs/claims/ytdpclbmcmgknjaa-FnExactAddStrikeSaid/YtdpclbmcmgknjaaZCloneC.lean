import Derived.Test.YtdpclbmcmgknjaaChecked
import Derived.WalkKit
import Derived.ProofKit
import Derived.OpenShut
import Derived.ShutString
import Derived.ChangeOld
import Derived.Below
import Derived.Lib.Hide
import Derived.Laws.AppendOwn
import Derived.Test.YtdpclbmcmgknjaaZMsgT
namespace Go.Proofs.Ytdpclbmcmgknjaa
open Go.ChangeShapes Go.WideShapes Go.ChangeAt Go.RowKit
open Go.ChangeMaps (open_string shut_string)
set_option linter.unusedVariables false
set_option maxRecDepth 100000
/-- the cells behind a slice's address, as append takes them -/
theorem row_cells {f : Int → Value} {w : World} {B n : Nat} {a : Addr} {xs : List Int} (h : Row f w B (some a) n xs) : ∀ (j : Nat) (u : Value), (xs.map f)[j]? = some u → w.cell? (a.add j) = some u := by
  intro j u hu
  rw [List.getElem?_map] at hu
  obtain ⟨x, hx, rfl⟩ := Option.map_eq_some_iff.1 hu
  have hj : j < xs.length := (List.getElem?_eq_some_iff.1 hx).1
  obtain ⟨b', off', e, _, hc⟩ := h.2 (by have := h.1; omega)
  injection e with e
  subst e
  have := hc j x hx
  cases j <;> simpa [Addr.add] using this
theorem rms_cells {w : World} {B n : Nat} {a : Addr} {xs : List Rm} (h : SRow 8 rmC w B (some a) n xs) : ∀ (j : Nat) (u : Value), (xs.flatMap rmC)[j]? = some u → w.cell? (a.add j) = some u := by
  intro j u hu
  have hf := rmC_len
  have hsz : 0 < 8 := by decide
  have hj : j < xs.length * 8 := by
    have := (List.getElem?_eq_some_iff.1 hu).1
    rw [flat_len hf] at this
    exact this
  have hd : j / 8 < xs.length := by omega
  have hz : xs[j / 8]? = some xs[j / 8] := List.getElem?_eq_getElem hd
  obtain ⟨b, off, e, hb, hc⟩ := h.2 (by rw [← h.1]; exact Nat.lt_of_le_of_lt (Nat.zero_le _) hd)
  injection e with e
  subst e
  have e2 : j / 8 * 8 + j % 8 = j := Nat.div_add_mod' j 8
  have hg := flat_get hf xs (j / 8) _ hz (j % 8) (Nat.mod_lt _ hsz)
  rw [e2, hu] at hg
  have := hc (j / 8) _ hz (j % 8) u hg.symm
  rw [Nat.add_assoc, e2] at this
  clear hg e2 hz hd hj hu
  cases j <;> simpa [Addr.add] using this
theorem rms_one (xs : List Rm) : ∀ u ∈ xs.flatMap rmC, u.oneCell' = true := by
  intro u hu
  obtain ⟨x, _, hx⟩ := List.mem_flatMap.1 hu
  simp only [rmC, List.mem_cons, List.not_mem_nil, or_false] at hx
  rcases hx with rfl | rfl | rfl | rfl | rfl | rfl | rfl | rfl <;> rfl
theorem i64s_one {xs : List Int} : ∀ u ∈ xs.map i64v, u.oneCell' = true := by
  intro u hu
  obtain ⟨x, _, rfl⟩ := List.mem_map.1 hu
  rfl
end Go.Proofs.Ytdpclbmcmgknjaa
