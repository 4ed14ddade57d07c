import Derived.Test.YteeodjbionjlmaaChecked
import Derived.WalkKit
import Derived.ProofKit
import Derived.OpenShut
import Derived.ShutString
import Derived.ChangeOld
import Derived.Below
import Derived.Lib.Hide
import Derived.Lib.SmallJoins
import Derived.ChangeArms
import Derived.Test.YteeodjbionjlmaaJc
namespace Go.Proofs.Yteeodjbionjlmaa
open Go.ChangeShapes Go.WideShapes Go.ChangeAt Go.RowKit
open Go.ChangeMaps (open_string shut_string)
set_option linter.unusedVariables false
open Go.Joins Go.Deep
set_option maxRecDepth 100000
section
variable {H : Type} {enc : TypeId × Value → H} {P : Program} {w : World} {base : Nat} {spare : Nat → Bool} {held : Bool}
/-- an argument that is a slice of structs (any number of one-cell fields): every field's cell and its reading -/
theorem open_slice_fields {t e : TypeId} {fs : Array Field} {fuel : Nat} {cs : List Value} {x : DataW H × List MemPlace} (ht : P.underlying t = some (.slice e)) (he : P.underlying e = some (.struct fs))
    (hone : oneCellFields P fs = true) (hC : P.cellsOf e = fs.size) (h : DataW.trod enc P w base spare held fuel t cs = some x) :
    (cs = [.slice none 0 0]) ∨
    ∃ (a : Addr) (len cap : Nat), cs = [.slice (some a) len cap] ∧
      ∀ i, i < len → ∃ (n : Nat), ∀ (j : Nat) (f : Field), fs[j]? = some f → ∃ (v : Value) (y : DataW H × List MemPlace), w.cell? (a.add (i * fs.size + j)) = some v ∧ DataW.trod enc P w base spare held n f.type [v] = some y := by
  rcases open_slice ht h with h0 | ⟨a, len, cap, m, n, D, Pl, hcs, hb, hl, hm, hmm, hx, hi⟩
  · exact .inl h0.1
  · refine .inr ⟨a, len, cap, hcs, fun i him => ?_⟩
    obtain ⟨cs', hc, ht'⟩ := hi i (by rw [hmm]; split <;> omega)
    rw [hC] at hc
    obtain ⟨ys, n', hn', hy, hlen, hyl, hf⟩ := DataW.trod_struct he ht'
    obtain ⟨_, hcl, hat⟩ := World.cells?_some hc
    refine ⟨n', fun j f hj => ?_⟩
    obtain ⟨ho, hk⟩ := hone_of hone j f hj
    have hjl : j < fs.size := (Array.getElem?_eq_some_iff.1 hj).1
    have hcell := hat j hjl
    have hv : cs'[j]? = some (cs'[j]'(by omega)) := List.getElem?_eq_getElem (by omega)
    have h1 := hf j f hj
    rw [ho, hk] at h1
    have hone' : (cs'.drop j).take 1 = [cs'[j]'(by omega)] := by
      rw [List.drop_eq_getElem_cons (by omega)]
      rfl
    rw [hone'] at h1
    have hys : ys[j]? = some (ys[j]'(by omega)) := List.getElem?_eq_getElem (by omega)
    refine ⟨_, _, ?_, h1.trans hys⟩
    rw [← Go.Deep.add_add, hcell, hv]
/-- rows out of cells: one element's cells for each place -/
theorem srow_of {α : Type} {sz : Nat} {f : α → List Value} (hf : ∀ x, (f x).length = sz) (hsz : 0 < sz) (a : Addr) (len : Nat)
    (h : ∀ i, i < len → ∃ x : α, ∀ j v, (f x)[j]? = some v → w.cell? (a.add (i * sz + j)) = some v) : ∃ xs : List α, SRow sz f w w.heap.size (some a) len xs := by
  have ex : ∀ m, m ≤ len → ∃ xs : List α, xs.length = m ∧ ∀ j z, xs[j]? = some z → ∀ i v, (f z)[i]? = some v → w.cell? (a.add (j * sz + i)) = some v := by
    intro m
    induction m with
    | zero => intro _; exact ⟨[], rfl, fun j z h => by simp at h⟩
    | succ m ih =>
      intro hm
      obtain ⟨xs, hl, hx⟩ := ih (by omega)
      obtain ⟨x, hxx⟩ := h m (by omega)
      refine ⟨xs ++ [x], by simp [hl], fun j z hz i v hv => ?_⟩
      by_cases hj : j < m
      · rw [List.getElem?_append_left (by omega)] at hz
        exact hx j z hz i v hv
      · have hjl : j < (xs ++ [x]).length := (List.getElem?_eq_some_iff.1 hz).1
        have : j = m := by simp at hjl; omega
        subst this
        rw [List.getElem?_append_right (by omega), hl] at hz
        simp at hz
        subst hz
        exact hxx i v hv
  obtain ⟨xs, hl, hx⟩ := ex len (Nat.le_refl _)
  refine ⟨xs, hl, fun hn => ?_⟩
  obtain ⟨x, hxx⟩ := h 0 hn
  have h0 : (f x)[0]? = some ((f x)[0]'(by rw [hf]; omega)) := List.getElem?_eq_getElem _
  have hc0 := hxx 0 _ h0
  obtain ⟨b, off, spot⟩ := a
  have hspot : spot = none := by simpa [Addr.add] using World.cell?_spot hc0
  subst hspot
  refine ⟨b, off, rfl, ?_, fun j z hz i v hv => ?_⟩
  · have := World.block_lt_of_cell? w _ hc0
    simpa [Addr.add] using this
  · have := hx j z hz i v hv
    have e : (⟨b, off, none⟩ : Addr).add (j * sz + i) = ⟨b, off + j * sz + i, none⟩ := by unfold Addr.add; split <;> simp_all [Nat.add_assoc]
    rw [e] at this
    exact this
theorem slice_small {t e : TypeId} {fuel : Nat} {v : Value} {x : DataW H × List MemPlace} (ht : P.underlying t = some (.slice e)) (h : DataW.trod enc P w base spare held fuel t [v] = some x) : ∀ A n c, v = .slice A n c → n ≤ maxLen := by
  intro A n' c' hv
  rcases open_slice ht h with h0 | ⟨a, len, cap, m, n, D, Pl, hcs, hb, hl, hm, _⟩
  · have := h0.1
    cases this
    cases hv
    unfold maxLen; omega
  · cases hcs
    cases hv
    omega
theorem open_mbs {t e : TypeId} {fuel : Nat} {v : Value} {x : DataW H × List MemPlace} {f0 f1 f2 f3 : Field} (ht : P.underlying t = some (.slice e)) (he : P.underlying e = some (.struct #[f0, f1, f2, f3]))
    (hone : oneCellFields P #[f0, f1, f2, f3] = true) (hC : P.cellsOf e = 4) (h0 : P.underlying f0.type = some (.int .i64)) (h1 : P.underlying f1.type = some (.int .i64)) (h2 : P.underlying f2.type = some (.int .i64)) (h3 : P.underlying f3.type = some (.int .i64))
    (h : DataW.trod enc P w base spare held fuel t [v] = some x) : ∃ A n c ms, v = .slice A n c ∧ SRow 4 mbC w w.heap.size A n ms := by
  rcases open_slice_fields ht he hone hC h with hcs | ⟨a, len, cap, hcs, hall⟩
  · cases hcs; exact ⟨none, 0, 0, [], rfl, SRow.none_⟩
  · cases hcs
    obtain ⟨xs, hx⟩ := srow_of (w := w) (f := mbC) mbC_len (by omega) a len fun i hi => by
      obtain ⟨n, hn⟩ := hall i hi
      obtain ⟨v0, y0, c0, t0⟩ := hn 0 f0 rfl
      obtain ⟨v1, y1, c1, t1⟩ := hn 1 f1 rfl
      obtain ⟨v2, y2, c2, t2⟩ := hn 2 f2 rfl
      obtain ⟨v3, y3, c3, t3⟩ := hn 3 f3 rfl
      obtain ⟨z0, q0, _⟩ := DataW.trod_int h0 t0
      obtain ⟨z1, q1, _⟩ := DataW.trod_int h1 t1
      obtain ⟨z2, q2, _⟩ := DataW.trod_int h2 t2
      obtain ⟨z3, q3, _⟩ := DataW.trod_int h3 t3
      cases q0; cases q1; cases q2; cases q3
      refine ⟨⟨z0, z1, z2, z3⟩, fun j v hv => ?_⟩
      match j, hv with
      | 0, hv => cases hv; exact c0
      | 1, hv => cases hv; exact c1
      | 2, hv => cases hv; exact c2
      | 3, hv => cases hv; exact c3
    exact ⟨_, _, _, xs, rfl, hx⟩
theorem open_ivs {t e : TypeId} {fuel : Nat} {v : Value} {x : DataW H × List MemPlace} {f0 f1 f2 : Field} (ht : P.underlying t = some (.slice e)) (he : P.underlying e = some (.struct #[f0, f1, f2]))
    (hone : oneCellFields P #[f0, f1, f2] = true) (hC : P.cellsOf e = 3) (h0 : P.underlying f0.type = some (.int .i64)) (h1 : P.underlying f1.type = some (.int .i64)) (h2 : P.underlying f2.type = some (.int .i64))
    (h : DataW.trod enc P w base spare held fuel t [v] = some x) : ∃ A n c ms, v = .slice A n c ∧ SRow 3 ivC w w.heap.size A n ms := by
  rcases open_slice_fields ht he hone hC h with hcs | ⟨a, len, cap, hcs, hall⟩
  · cases hcs; exact ⟨none, 0, 0, [], rfl, SRow.none_⟩
  · cases hcs
    obtain ⟨xs, hx⟩ := srow_of (w := w) (f := ivC) ivC_len (by omega) a len fun i hi => by
      obtain ⟨n, hn⟩ := hall i hi
      obtain ⟨v0, y0, c0, t0⟩ := hn 0 f0 rfl
      obtain ⟨v1, y1, c1, t1⟩ := hn 1 f1 rfl
      obtain ⟨v2, y2, c2, t2⟩ := hn 2 f2 rfl
      obtain ⟨z0, q0, _⟩ := DataW.trod_int h0 t0
      obtain ⟨z1, q1, _⟩ := DataW.trod_int h1 t1
      obtain ⟨z2, q2, _⟩ := DataW.trod_int h2 t2
      cases q0; cases q1; cases q2
      refine ⟨⟨z0, z1, z2⟩, fun j v hv => ?_⟩
      match j, hv with
      | 0, hv => cases hv; exact c0
      | 1, hv => cases hv; exact c1
      | 2, hv => cases hv; exact c2
    exact ⟨_, _, _, xs, rfl, hx⟩
theorem open_bns {t e : TypeId} {fuel : Nat} {v : Value} {x : DataW H × List MemPlace} {f0 f1 : Field} (ht : P.underlying t = some (.slice e)) (he : P.underlying e = some (.struct #[f0, f1]))
    (hone : oneCellFields P #[f0, f1] = true) (hC : P.cellsOf e = 2) (h0 : P.underlying f0.type = some (.int .i64)) (h1 : P.underlying f1.type = some (.int .i64))
    (h : DataW.trod enc P w base spare held fuel t [v] = some x) : ∃ A n c ms, v = .slice A n c ∧ SRow 2 bnC w w.heap.size A n ms := by
  rcases open_slice_fields ht he hone hC h with hcs | ⟨a, len, cap, hcs, hall⟩
  · cases hcs; exact ⟨none, 0, 0, [], rfl, SRow.none_⟩
  · cases hcs
    obtain ⟨xs, hx⟩ := srow_of (w := w) (f := bnC) bnC_len (by omega) a len fun i hi => by
      obtain ⟨n, hn⟩ := hall i hi
      obtain ⟨v0, y0, c0, t0⟩ := hn 0 f0 rfl
      obtain ⟨v1, y1, c1, t1⟩ := hn 1 f1 rfl
      obtain ⟨z0, q0, _⟩ := DataW.trod_int h0 t0
      obtain ⟨z1, q1, _⟩ := DataW.trod_int h1 t1
      cases q0; cases q1
      refine ⟨⟨z0, z1⟩, fun j v hv => ?_⟩
      match j, hv with
      | 0, hv => cases hv; exact c0
      | 1, hv => cases hv; exact c1
    exact ⟨_, _, _, xs, rfl, hx⟩
end
end Go.Proofs.Yteeodjbionjlmaa
