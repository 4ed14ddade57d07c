import Derived.Test.YtdpclbmcmgknjaaChecked
import Derived.WalkKit
import Derived.ProofKit
import Derived.OpenShut
import Derived.ShutString
import Derived.ChangeOld
import Derived.Below
import Derived.Lib.Hide
import Derived.Lib.SliceRun
import Derived.Test.YtdpclbmcmgknjaaJc
namespace Go.Proofs.Ytdpclbmcmgknjaa
open Go.ChangeShapes Go.WideShapes Go.ChangeAt Go.RowKit
open Go.ChangeMaps (open_string shut_string)
set_option linter.unusedVariables false
set_option maxRecDepth 100000
/-- the first elements of an own row -/
theorem own_prefix {w : World} {base e size n cap g k : Nat} {xs : List Value} (h : w.ownsRow base e size (.slice (some ⟨g, 0, none⟩) n cap) n xs) (hk : k ≤ n) : w.ownsRow base e size (.slice (some ⟨g, 0, none⟩) k cap) k (xs.take (k * size)) := by
  have hm : k * size ≤ n * size := Nat.mul_le_mul_right _ hk
  refine ⟨by rw [List.length_take, h.1]; omega, ?_⟩
  rcases h.2 with ⟨hv, _⟩ | ⟨g', cap', cur, hv, hg, hc, h1, h2, h3, h4⟩
  · cases hv
  · cases hv
    exact .inr ⟨g, cap, cur, rfl, hg, hc, Nat.le_trans hk h1, h2, h3, by rw [← h4, List.take_take, Nat.min_eq_left hm]⟩
/-- 'clear(s)': the cells of s hold something else, the world is else as it was -/
theorem run_clear_cells {P : Program} (w : World) (t e : TypeId) (z : Value) (ht : P.underlying t = some (.slice e)) (hv : ∀ w, (zeroValue e).run P w = .ok z w) (h1 : ∀ u ∈ z.cells.toList, u.oneCell' = true) (hz : 0 < z.cells.size) (b o n c : Nat) (hn : 0 < n)
    (hth : w.there b o (n * z.cells.size)) :
    ∃ vs : List Value, vs.length = n * z.cells.size ∧ ∀ ty, (Builtin.clear_ #[t] ty #[.slice (some ⟨b, o, none⟩) n c]).run P w = .ok (.tuple #[]) (w.setCells b o vs) := by
  have hl : (Builtin.zeroCells z.cells n).toList.length = n * z.cells.size := by simp [Builtin.zeroCells]
  have ho : ∀ u ∈ (Builtin.zeroCells z.cells n).toList, u.oneCell' = true := by
    intro u hu
    simp only [Builtin.zeroCells] at hu
    obtain ⟨i, hi, rfl⟩ := List.mem_iff_getElem.1 hu
    simp
    exact h1 _ (by rw [getElem!_pos z.cells _ (Nat.mod_lt _ hz)]; simp)
  refine ⟨(Builtin.zeroCells z.cells n).toList, hl, fun ty => ?_⟩
  have hst := run_storeCells_cells (P := P) b o (Builtin.zeroCells z.cells n).toList 0 w (by intro j hj; rw [hl] at hj; simpa using (hth j hj).1) (by intro j hj; rw [hl] at hj; simpa using (hth j hj).2) ho
  simp only [Nat.add_zero] at hst
  obtain ⟨m, rfl⟩ : ∃ m, n = m + 1 := ⟨n - 1, by omega⟩
  simp [Builtin.clear_, run_underlying ht, hv, hst]
section
variable {α : Type} {p : α → Bool} {xs : List α}
/-- what is kept of the first k -/
def keptL (p : α → Bool) (xs : List α) (j : Nat) : List α := (xs.take j).filter fun x => !p x
theorem keptL_yes {j : Nat} {z : α} (hz : xs[j]? = some z) (h : p z = true) : keptL p xs (j + 1) = keptL p xs j := by
  unfold keptL; rw [List.take_add_one, hz]; simp [h]
theorem keptL_no {j : Nat} {z : α} (hz : xs[j]? = some z) (h : p z = false) : keptL p xs (j + 1) = keptL p xs j ++ [z] := by
  unfold keptL; rw [List.take_add_one, hz]; simp [h]
theorem keptL_len (j : Nat) : (keptL p xs j).length ≤ j := by
  unfold keptL
  exact Nat.le_trans (List.length_filter_le _ _) (List.length_take_le _ _)
theorem keptL_all {j : Nat} (h : xs.length ≤ j) : keptL p xs j = xs.filter fun x => !p x := by unfold keptL; rw [List.take_of_length_le h]
theorem at_kept {k j : Nat} (hk : (keptL p xs j).length = k) (hkj : k ≤ j) {z : α} (hz : xs[j]? = some z) : (keptL p xs j ++ xs.drop k)[j]? = some z := by
  rw [List.getElem?_append_right (by omega), hk, List.getElem?_drop, ← hz]
  congr 1; omega
end
theorem srow_cells {α : Type} {sz : Nat} {f : α → List Value} (hf : ∀ x, (f x).length = sz) (hsz : 0 < sz) {w : World} {B n : Nat} {a : Addr} {xs : List α} (h : SRow sz f w B (some a) n xs) : ∀ (j : Nat) (u : Value), (xs.flatMap f)[j]? = some u → w.cell? (a.add j) = some u := by
  intro j u hu
  have hj : j < xs.length * sz := by
    have := (List.getElem?_eq_some_iff.1 hu).1
    rw [flat_len hf] at this
    exact this
  have hd : j / sz < xs.length := Nat.div_lt_of_lt_mul (by rw [Nat.mul_comm]; exact hj)
  have hz : xs[j / sz]? = some xs[j / sz] := List.getElem?_eq_getElem hd
  obtain ⟨b, off, e, hb, hc⟩ := h.2 (by rw [← h.1]; exact Nat.lt_of_le_of_lt (Nat.zero_le _) hd)
  injection e with e
  subst e
  have e2 : j / sz * sz + j % sz = j := Nat.div_add_mod' j sz
  have hg := flat_get hf xs (j / sz) _ hz (j % sz) (Nat.mod_lt _ hsz)
  rw [e2, hu] at hg
  have := hc (j / sz) _ hz (j % sz) u hg.symm
  rw [Nat.add_assoc, e2] at this
  clear hg e2 hz hd hj hu
  cases j <;> simpa [Addr.add] using this
end Go.Proofs.Ytdpclbmcmgknjaa
