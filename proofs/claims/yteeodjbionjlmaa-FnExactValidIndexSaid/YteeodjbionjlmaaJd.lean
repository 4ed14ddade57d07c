import Derived.Test.YteeodjbionjlmaaChecked
import Derived.WalkKit
import Derived.ProofKit
import Derived.OpenShut
import Derived.ShutString
import Derived.ChangeOld
import Derived.Below
import Derived.Lib.Hide
import Derived.Test.YteeodjbionjlmaaJc
namespace Go.Proofs.Yteeodjbionjlmaa
open Go.ChangeShapes Go.WideShapes Go.ChangeAt Go.RowKit
open Go.ChangeMaps (open_string shut_string)
set_option linter.unusedVariables false
set_option maxRecDepth 100000
def marksM (k0 n : Nat) : List Mb := (List.range n).map fun i => ⟨((k0 + i * 4 : Nat) : Int), ((k0 + i * 4 + 1 : Nat) : Int), ((k0 + i * 4 + 2 : Nat) : Int), ((k0 + i * 4 + 3 : Nat) : Int)⟩
theorem marksM_len (k0 n : Nat) : (marksM k0 n).length = n := by simp [marksM]
theorem marksM_at (k0 n k : Nat) (h : k < n) : (marksM k0 n)[k]? = some ⟨((k0 + k * 4 : Nat) : Int), ((k0 + k * 4 + 1 : Nat) : Int), ((k0 + k * 4 + 2 : Nat) : Int), ((k0 + k * 4 + 3 : Nat) : Int)⟩ := by simp [marksM, h]
theorem marksM_vals (k0 k : Nat) (z : Int) (hz : z = ((k0 + k * 4 : Nat) : Int)) : mbC ⟨((k0 + k * 4 : Nat) : Int), ((k0 + k * 4 + 1 : Nat) : Int), ((k0 + k * 4 + 2 : Nat) : Int), ((k0 + k * 4 + 3 : Nat) : Int)⟩ = [.int .i64 (z), .int .i64 (z + 1), .int .i64 (z + 1 + 1), .int .i64 (z + 1 + 1 + 1)] := by
  subst hz
  simp [mbC, Int.add_assoc]
end Go.Proofs.Yteeodjbionjlmaa
namespace Go.Proofs.Yteeodjbionjlmaa
open Go.ChangeShapes Go.WideShapes Go.ChangeAt Go.RowKit
open Go.ChangeMaps (open_string shut_string)
set_option linter.unusedVariables false
set_option maxRecDepth 100000
def marksI (k0 n : Nat) : List Iv := (List.range n).map fun i => ⟨((k0 + i * 3 : Nat) : Int), ((k0 + i * 3 + 1 : Nat) : Int), ((k0 + i * 3 + 2 : Nat) : Int)⟩
theorem marksI_len (k0 n : Nat) : (marksI k0 n).length = n := by simp [marksI]
theorem marksI_at (k0 n k : Nat) (h : k < n) : (marksI k0 n)[k]? = some ⟨((k0 + k * 3 : Nat) : Int), ((k0 + k * 3 + 1 : Nat) : Int), ((k0 + k * 3 + 2 : Nat) : Int)⟩ := by simp [marksI, h]
theorem marksI_vals (k0 k : Nat) (z : Int) (hz : z = ((k0 + k * 3 : Nat) : Int)) : ivC ⟨((k0 + k * 3 : Nat) : Int), ((k0 + k * 3 + 1 : Nat) : Int), ((k0 + k * 3 + 2 : Nat) : Int)⟩ = [.int .i64 (z), .int .i64 (z + 1), .int .i64 (z + 1 + 1)] := by
  subst hz
  simp [ivC, Int.add_assoc]
end Go.Proofs.Yteeodjbionjlmaa
namespace Go.Proofs.Yteeodjbionjlmaa
open Go.ChangeShapes Go.WideShapes Go.ChangeAt Go.RowKit
open Go.ChangeMaps (open_string shut_string)
set_option linter.unusedVariables false
set_option maxRecDepth 100000
def marksB (k0 n : Nat) : List Bn := (List.range n).map fun i => ⟨((k0 + i * 2 : Nat) : Int), ((k0 + i * 2 + 1 : Nat) : Int)⟩
theorem marksB_len (k0 n : Nat) : (marksB k0 n).length = n := by simp [marksB]
theorem marksB_at (k0 n k : Nat) (h : k < n) : (marksB k0 n)[k]? = some ⟨((k0 + k * 2 : Nat) : Int), ((k0 + k * 2 + 1 : Nat) : Int)⟩ := by simp [marksB, h]
theorem marksB_vals (k0 k : Nat) (z : Int) (hz : z = ((k0 + k * 2 : Nat) : Int)) : bnC ⟨((k0 + k * 2 : Nat) : Int), ((k0 + k * 2 + 1 : Nat) : Int)⟩ = [.int .i64 (z), .int .i64 (z + 1)] := by
  subst hz
  simp [bnC, Int.add_assoc]
end Go.Proofs.Yteeodjbionjlmaa
namespace Go.Proofs.Yteeodjbionjlmaa
open Go.ChangeShapes Go.WideShapes Go.ChangeAt Go.RowKit
open Go.ChangeMaps (open_string shut_string)
set_option linter.unusedVariables false
set_option maxRecDepth 100000
theorem one_box (w : World) (t : TypeId) (c : Array Value) : Blk (w.alloc (.cells c t)) w.heap.size t c ∧ Below w.heap.size w (w.alloc (.cells c t)) :=
  ⟨Blk.new _ _ _, (Below.refl _ _).alloc (Nat.le_refl _) _⟩
theorem two_boxes (w : World) (t t' : TypeId) (c c' : Array Value) : Blk ((w.alloc (.cells c t)).alloc (.cells c' t')) w.heap.size t c ∧ Blk ((w.alloc (.cells c t)).alloc (.cells c' t')) (w.heap.size + 1) t' c' ∧ Below w.heap.size w ((w.alloc (.cells c t)).alloc (.cells c' t')) := by
  refine ⟨(Blk.new _ _ _).alloc _, ?_, ((Below.refl _ _).alloc (Nat.le_refl _) _).alloc (by simp) _⟩
  have := Blk.new (w.alloc (.cells c t)) t' c'
  simpa using this
theorem own_types2 {w : World} {b1 b2 e1 e2 s1 s2 n1 n2 : Nat} {v1 v2 : Value} {xs ys : List Value} (h1 : w.ownsRow b1 e1 s1 v1 n1 xs) (h2 : w.ownsRow b2 e2 s2 v2 n2 ys) (he : e1 ≠ e2) : v1.ownBlock = none ∨ v1.ownBlock ≠ v2.ownBlock := by
  rcases h1.2 with ⟨rfl, _⟩ | ⟨g, cap, cur, rfl, _, hg, _⟩
  · exact .inl rfl
  · right
    rcases h2.2 with ⟨rfl, _⟩ | ⟨g', cap', cur', rfl, _, hg', _⟩
    · simp [Value.ownBlock]
    · intro e
      have e' : g = g' := by simpa [Value.ownBlock] using e
      subst e'
      rw [hg] at hg'
      injection hg' with hg'
      injection hg' with _ ht _
      exact he ht
theorem blk_apart {w : World} {g t base e s n : Nat} {cs : Array Value} {v : Value} {xs : List Value} (hb : Blk w g t cs) (h : w.ownsRow base e s v n xs) (hne : t ≠ e) : some g ≠ v.ownBlock := by
  rcases h.2 with ⟨rfl, _⟩ | ⟨g', cap, cur, rfl, _, hg, _⟩
  · simp [Value.ownBlock]
  · intro e
    have e' : g = g' := by simpa [Value.ownBlock] using e
    subst e'
    unfold Blk at hb
    rw [hg] at hb
    injection hb with hb
    injection hb with _ ht _
    exact hne ht.symm
def apartFrom (v : Value) (A1 A2 A3 : Value) : Prop := v.ownBlock = none ∨ (v.ownBlock ≠ A1.ownBlock ∧ v.ownBlock ≠ A2.ownBlock ∧ v.ownBlock ≠ A3.ownBlock)
theorem below_own {B base e size n : Nat} {w0 w w' : World} {v : Value} {xs : List Value} (hb : Below B w0 w) (h : w.ownsRow base e size v n xs) (hg : w.grownBy w' v.ownBlock) (hB : B ≤ base) (hBw : B ≤ w.heap.size) : Below B w0 w' :=
  hb.grown hg hBw fun k hk => Nat.le_trans hB (h.lt k hk).1
end Go.Proofs.Yteeodjbionjlmaa
