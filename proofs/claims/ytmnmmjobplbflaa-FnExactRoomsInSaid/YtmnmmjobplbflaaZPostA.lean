import Derived.Test.YtmnmmjobplbflaaChecked
import Derived.WalkKit
import Derived.ProofKit
import Derived.OpenShut
import Derived.ShutString
import Derived.ChangeOld
import Derived.Below
import Derived.Lib.Hide
import Derived.Lib.SmallJoins
import Derived.ChangeArms
import Derived.Test.YtmnmmjobplbflaaZPostR
import Derived.Test.YtmnmmjobplbflaaZRoomA
namespace Go.Proofs.Ytmnmmjobplbflaa
open Go.ChangeShapes Go.WideShapes Go.ChangeAt Go.RowKit
open Go.ChangeMaps (open_string shut_string)
set_option linter.unusedVariables false
open Go.Joins Go.Deep
set_option maxRecDepth 100000
section
variable {H : Type} {enc : TypeId × Value → H} {P : Program} {w : World} {base : Nat} {spare : Nat → Bool} {held : Bool}
/-- rows out of cells: one element's cells for each place, and a further word for each -/
theorem srow_withP {α : Type} {sz : Nat} {f : α → List Value} {Q : α → Prop} (hf : ∀ x, (f x).length = sz) (hsz : 0 < sz) (a : Addr) (len : Nat)
    (h : ∀ i, i < len → ∃ x : α, Q x ∧ ∀ j v, (f x)[j]? = some v → w.cell? (a.add (i * sz + j)) = some v) : ∃ xs : List α, SRow sz f w w.heap.size (some a) len xs ∧ ∀ x ∈ xs, Q x := by
  have ex : ∀ m, m ≤ len → ∃ xs : List α, xs.length = m ∧ (∀ x ∈ xs, Q x) ∧ ∀ j z, xs[j]? = some z → ∀ i v, (f z)[i]? = some v → w.cell? (a.add (j * sz + i)) = some v := by
    intro m
    induction m with
    | zero => intro _; exact ⟨[], rfl, (fun _ h => by cases h), (fun j z h => by simp at h)⟩
    | succ m ih =>
      intro hm
      obtain ⟨xs, hl, hq, hx⟩ := ih (by omega)
      obtain ⟨x, hxq, hxx⟩ := h m (by omega)
      refine ⟨xs ++ [x], by simp [hl], fun y hy => ?_, fun j z hz i v hv => ?_⟩
      · rcases List.mem_append.1 hy with hy | hy
        · exact hq y hy
        · simp at hy; subst hy; exact hxq
      · by_cases hj : j < m
        · rw [List.getElem?_append_left (by omega)] at hz
          exact hx j z hz i v hv
        · have hjl : j < (xs ++ [x]).length := (List.getElem?_eq_some_iff.1 hz).1
          have : j = m := by simp at hjl; omega
          subst this
          rw [List.getElem?_append_right (by omega), hl] at hz
          simp at hz
          subst hz
          exact hxx i v hv
  obtain ⟨xs, hl, hq, hx⟩ := ex len (Nat.le_refl _)
  refine ⟨xs, ⟨hl, fun hn => ?_⟩, hq⟩
  obtain ⟨x, _, hxx⟩ := h 0 hn
  have h0 : (f x)[0]? = some ((f x)[0]'(by rw [hf]; omega)) := List.getElem?_eq_getElem _
  have hc0 := hxx 0 _ h0
  obtain ⟨b, off, spot⟩ := a
  have hspot : spot = none := by simpa [Addr.add] using World.cell?_spot hc0
  subst hspot
  refine ⟨b, off, rfl, ?_, fun j z hz i v hv => ?_⟩
  · have := World.block_lt_of_cell? w _ hc0
    simpa [Addr.add] using this
  · have := hx j z hz i v hv
    have e : (⟨b, off, none⟩ : Addr).add (j * sz + i) = ⟨b, off + j * sz + i, none⟩ := by unfold Addr.add; split <;> simp_all [Nat.add_assoc]
    rw [e] at this
    exact this
/-- a field that is a slice of pairs -/
theorem open_held {t e : TypeId} {fuel : Nat} {v : Value} {x : DataW H × List MemPlace} {f0 f1 : Field} (ht : P.underlying t = some (.slice e)) (he : P.underlying e = some (.struct #[f0, f1])) (hone : oneCellFields P #[f0, f1] = true) (hC : P.cellsOf e = 2) (h0 : P.underlying f0.type = some (.int .i64)) (h1 : P.underlying f1.type = some (.int .i64))
    (h : DataW.trod enc P w base spare held fuel t [v] = some x) : ∃ A n c zs, v = .slice A n c ∧ SRow 2 bnC w w.heap.size A n zs ∧ n ≤ maxLen := by
  have hs := slice_small ht h
  obtain ⟨A, n, c, zs, rfl, hr⟩ := open_bns ht he hone hC h0 h1 h
  exact ⟨A, n, c, zs, rfl, hr, hs _ _ _ rfl⟩
def RbOk (w : World) (r : Rb) : Prop := SRow 2 bnC w w.heap.size r.la r.ln r.b.held ∧ r.ln ≤ maxLen ∧ r.b.tok.size ≤ maxLen
theorem open_rbs {t e te : TypeId} {fuel : Nat} {v : Value} {x : DataW H × List MemPlace} {f0 f1 f2 f3 g0 g1 : Field} (ht : P.underlying t = some (.slice e)) (he : P.underlying e = some (.struct #[f0, f1, f2, f3]))
    (hone : oneCellFields P #[f0, f1, f2, f3] = true) (hC : P.cellsOf e = 4) (h0 : P.underlying f0.type = some .string) (h1 : P.underlying f1.type = some (.int .i64)) (h2 : P.underlying f2.type = some (.int .i64))
    (h3 : P.underlying f3.type = some (.slice te)) (hte : P.underlying te = some (.struct #[g0, g1])) (hone' : oneCellFields P #[g0, g1] = true) (hC' : P.cellsOf te = 2) (k0 : P.underlying g0.type = some (.int .i64)) (k1 : P.underlying g1.type = some (.int .i64))
    (h : DataW.trod enc P w base spare held fuel t [v] = some x) : ∃ A n c rs, v = .slice A n c ∧ SRow 4 rbC w w.heap.size A n rs ∧ (∀ r ∈ rs, RbOk w r) := by
  rcases open_slice_fields ht he hone hC h with hcs | ⟨a, len, cap, hcs, hall⟩
  · cases hcs; exact ⟨none, 0, 0, [], rfl, SRow.none_, (fun _ h => by cases h)⟩
  · cases hcs
    obtain ⟨xs, hx, hq⟩ := srow_withP (w := w) (f := rbC) (Q := RbOk w) rbC_len (by omega) a len fun i hi => by
      obtain ⟨n, hn⟩ := hall i hi
      obtain ⟨v0, y0, c0, t0⟩ := hn 0 f0 rfl
      obtain ⟨v1, y1, c1, t1⟩ := hn 1 f1 rfl
      obtain ⟨v2, y2, c2, t2⟩ := hn 2 f2 rfl
      obtain ⟨v3, y3, c3, t3⟩ := hn 3 f3 rfl
      obtain ⟨z0, q0, k0'⟩ := DataW.trod_string h0 t0
      obtain ⟨z1, q1, _⟩ := DataW.trod_int h1 t1
      obtain ⟨z2, q2, _⟩ := DataW.trod_int h2 t2
      obtain ⟨A7, n7, c7', zs7, q7, r7, m7⟩ := open_held h3 hte hone' hC' k0 k1 t3
      cases q0; cases q1; cases q2; subst q7
      refine ⟨⟨⟨z0, z1, z2, zs7⟩, A7, n7, c7'⟩, ⟨r7, m7, ?_⟩, fun j v hv => ?_⟩
      · exact k0'.2
      · match j, hv with
        | 0, hv => cases hv; exact c0
        | 1, hv => cases hv; exact c1
        | 2, hv => cases hv; exact c2
        | 3, hv => cases hv; exact c3
    exact ⟨_, _, _, xs, rfl, hx, hq⟩
end
def PostOk (w : World) (A : Option Addr) (n : Nat) (rs : List Rb) : Prop := PostAt w w.heap.size A n rs ∧ n ≤ maxLen ∧ ∀ r ∈ rs, r.ln ≤ maxLen ∧ r.b.tok.size ≤ maxLen
set_option maxHeartbeats 800000 in
theorem open_post {H : Type} {enc : TypeId × Value → H} {w : World} {base : Nat} {spare : Nat → Bool} {held : Bool} {r : Reach} {b0 : Nat} {v : Value} {d : DataW H} {p : List MemPlace} (hv : Value.okWide Try.prog w r b0 24 v) (h : DataW.Trod enc Try.prog w base spare held 24 v d p) :
    ∃ (x : Int) (A : Option Addr) (n c : Nat) (rs : List Rb), v = .agg #[.int .i64 x, .slice A n c] ∧ PostOk w A n rs ∧ (Lit.int .i64 x).wf = true := by
  obtain ⟨v0, v1, y0, y1, n, rfl, _, _, t0, t1⟩ := open_agg2 Try.underlying24 (by kernel_rfl) (by kernel_rfl) hv h
  obtain ⟨z0, q0, _, wf0⟩ := DataW.trod_int Try.underlying2 t0
  cases q0
  have b1 := slice_small Try.underlying22 t1
  obtain ⟨A, n, c, rs, rfl, h1, h2⟩ := open_rbs Try.underlying22 Try.underlying81 (by kernel_rfl) (by kernel_rfl) Try.underlying9 Try.underlying2 Try.underlying2 Try.underlying44 Try.underlying76 (by kernel_rfl) (by kernel_rfl) Try.underlying2 Try.underlying2 t1
  exact ⟨z0, A, n, c, rs, rfl, ⟨⟨h1, fun r hr => (h2 r hr).1⟩, b1 _ _ _ rfl, fun r hr => (h2 r hr).2⟩, wf0⟩
theorem open_parcels {H : Type} {enc : TypeId × Value → H} {w : World} {base : Nat} {spare : Nat → Bool} {held : Bool} {r : Reach} {b0 : Nat} {v : Value} {d : DataW H} {p : List MemPlace} (hv : Value.okWide Try.prog w r b0 44 v) (h : DataW.Trod enc Try.prog w base spare held 44 v d p) :
    ∃ (A : Option Addr) (n c : Nat) (xs : List Bn), v = .slice A n c ∧ SRow 2 bnC w w.heap.size A n xs ∧ n ≤ maxLen := by
  obtain ⟨A0, n0, c0, rfl⟩ := okWide_slice Try.underlying44 hv
  obtain ⟨fuel, hf⟩ := h
  obtain ⟨A, n, c, xs, e, h1, h2⟩ := open_held (v := .slice A0 n0 c0) Try.underlying44 Try.underlying76 (by kernel_rfl) (by kernel_rfl) Try.underlying2 Try.underlying2 (by simpa [Value.cells] using hf)
  exact ⟨A, n, c, xs, e, h1, h2⟩
end Go.Proofs.Ytmnmmjobplbflaa
