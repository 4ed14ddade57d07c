import Derived.Test.YteeodjbionjlmaaChecked
import Derived.WalkKit
import Derived.ProofKit
import Derived.OpenShut
import Derived.ShutString
import Derived.ChangeOld
import Derived.Below
import Derived.Lib.Hide
import Derived.RegionTactic
import Derived.ChangeAlike
import Derived.BigRegion
import Derived.Deep.RegionHeld3
import Derived.Deep.QuietTactic
import Derived.BigQuiet
import Derived.IntWalk
import Derived.WalkSpells
import Derived.WalkLawsBesides
import Derived.Laws.IdiomStrings
import Derived.Laws.Cover3
import Derived.Test.YteeodjbionjlmaaZReadHexS
import Derived.Test.YteeodjbionjlmaaZHexTextC
import Derived.Test.YteeodjbionjlmaaZIsMembersC
namespace Go.Proofs.Yteeodjbionjlmaa
open Go.ChangeShapes Go.WideShapes Go.ChangeAt Go.RowKit
open Go.ChangeMaps (open_string shut_string)
set_option linter.unusedVariables false
theorem bits_two16 : ∀ x y : Fin 16, bits BinOp.or IntKind.u8 ((x.1 : Int) * 16 % 256) (y.1 : Int) = 16 * (x.1 : Int) + (y.1 : Int) := by decide
theorem bits_u8 (a b : Int) : 0 ≤ bits BinOp.or IntKind.u8 a b ∧ bits BinOp.or IntKind.u8 a b < 256 := by
  have h1 := bits_lo_u8 BinOp.or a b
  have h2 := bits_hi_u8 BinOp.or a b
  omega
theorem bits_two (a b : Int) (a0 : 0 ≤ a) (a1 : a < 256) (b0 : 0 ≤ b) (b1 : b < 256) (x : 0 ≤ nib a) (y : 0 ≤ nib b) :
    bits BinOp.or IntKind.u8 (hv a * 16 % 256) (hv b) = 16 * nib a + nib b := by
  have ha := nib_bd a
  have hb := nib_bd b
  rw [hv_nib a a0 a1 x, hv_nib b b0 b1 y]
  have := bits_two16 ⟨(nib a).toNat, by omega⟩ ⟨(nib b).toNat, by omega⟩
  simp only at this
  rw [Int.toNat_of_nonneg x, Int.toNat_of_nonneg y] at this
  exact this
theorem conv_two (s : ByteArray) (w : World) (a : Nat) (h : a + 1 < s.size) :
    ∃ C w1, (convert 9 82 (.string (s.extract a (a + 2)))).run Try.prog w = .ok (.slice (some ⟨w.heap.size, 0, none⟩) 2 C) w1 ∧ Below w.heap.size w w1 ∧
      w1.cell? ⟨w.heap.size, 0, none⟩ = some (.int .u8 s[a].toNat) ∧ w1.cell? ⟨w.heap.size, 1, none⟩ = some (.int .u8 s[a + 1].toNat) ∧ w.heap.size + 1 ≤ w1.heap.size := by
  have hs2 : (s.extract a (a + 2)).size = 2 := by simp; omega
  have hr := run_bytes_of_string (P := Try.prog) w 9 82 5 (s.extract a (a + 2)) Try.underlying9 Try.underlying82 Try.underlying5
  rw [hs2] at hr
  have hd0 : (s.extract a (a + 2)).data[0]? = some s[a] := by
    have : (s.extract a (a + 2)).data = s.data.extract a (a + 2) := by simp
    rw [this, Array.getElem?_extract]
    rw [if_pos (by have : s.data.size = s.size := rfl; omega)]
    simp [ByteArray.getElem_eq_getElem_data]
  have hd1 : (s.extract a (a + 2)).data[1]? = some s[a + 1] := by
    have : (s.extract a (a + 2)).data = s.data.extract a (a + 2) := by simp
    rw [this, Array.getElem?_extract]
    rw [if_pos (by have : s.data.size = s.size := rfl; omega)]
    simp [ByteArray.getElem_eq_getElem_data]
  refine ⟨_, _, hr, ((Below.refl _ _).alloc (Nat.le_refl _) _).drew, ?_, ?_, by simp⟩
  · have hg : (w.drew.alloc (.cells (bytesRow (s.extract a (a + 2)) (grownCap w 2 0 5)) 5 ((bytesRow (s.extract a (a + 2)) (grownCap w 2 0 5)).size, (bytesRow (s.extract a (a + 2)) (grownCap w 2 0 5)).size + 1))).heap[w.heap.size]? = some _ := heap_alloc_new w.drew _
    rw [cell_of_row _ _ _ _ _ _ hg, bytesRow, Array.getElem?_append_left (by simp; omega)]
    rw [Array.getElem?_map, hd0]; rfl
  · have hg : (w.drew.alloc (.cells (bytesRow (s.extract a (a + 2)) (grownCap w 2 0 5)) 5 ((bytesRow (s.extract a (a + 2)) (grownCap w 2 0 5)).size, (bytesRow (s.extract a (a + 2)) (grownCap w 2 0 5)).size + 1))).heap[w.heap.size]? = some _ := heap_alloc_new w.drew _
    rw [cell_of_row _ _ _ _ _ _ hg, bytesRow, Array.getElem?_append_left (by simp; omega)]
    rw [Array.getElem?_map, hd1]; rfl
end Go.Proofs.Yteeodjbionjlmaa
