import Derived.Test.YteeodjbionjlmaaChecked
import Derived.WalkKit
import Derived.ProofKit
import Derived.OpenShut
import Derived.ShutString
import Derived.ChangeOld
import Derived.Below
import Derived.Lib.Hide
import Derived.Lib.SmallJoins
import Derived.ChangeArms
import Derived.Test.YteeodjbionjlmaaZMsgR
import Derived.Test.YteeodjbionjlmaaZRoomA
namespace Go.Proofs.Yteeodjbionjlmaa
open Go.ChangeShapes Go.WideShapes Go.ChangeAt Go.RowKit
open Go.ChangeMaps (open_string shut_string)
set_option linter.unusedVariables false
open Go.Joins Go.Deep
set_option maxRecDepth 100000
section
variable {H : Type} {enc : TypeId × Value → H} {P : Program} {w : World} {base : Nat} {spare : Nat → Bool} {held : Bool}
/-- rows out of cells: one element's cells for each place, and a further word for each -/
theorem srow_with {α : Type} {sz : Nat} {f : α → List Value} {Q : α → Prop} (hf : ∀ x, (f x).length = sz) (hsz : 0 < sz) (a : Addr) (len : Nat)
    (h : ∀ i, i < len → ∃ x : α, Q x ∧ ∀ j v, (f x)[j]? = some v → w.cell? (a.add (i * sz + j)) = some v) : ∃ xs : List α, SRow sz f w w.heap.size (some a) len xs ∧ ∀ x ∈ xs, Q x := by
  have ex : ∀ m, m ≤ len → ∃ xs : List α, xs.length = m ∧ (∀ x ∈ xs, Q x) ∧ ∀ j z, xs[j]? = some z → ∀ i v, (f z)[i]? = some v → w.cell? (a.add (j * sz + i)) = some v := by
    intro m
    induction m with
    | zero => intro _; exact ⟨[], rfl, (fun _ h => by cases h), (fun j z h => by simp at h)⟩
    | succ m ih =>
      intro hm
      obtain ⟨xs, hl, hq, hx⟩ := ih (by omega)
      obtain ⟨x, hxq, hxx⟩ := h m (by omega)
      refine ⟨xs ++ [x], by simp [hl], fun y hy => ?_, fun j z hz i v hv => ?_⟩
      · rcases List.mem_append.1 hy with hy | hy
        · exact hq y hy
        · simp at hy; subst hy; exact hxq
      · by_cases hj : j < m
        · rw [List.getElem?_append_left (by omega)] at hz
          exact hx j z hz i v hv
        · have hjl : j < (xs ++ [x]).length := (List.getElem?_eq_some_iff.1 hz).1
          have : j = m := by simp at hjl; omega
          subst this
          rw [List.getElem?_append_right (by omega), hl] at hz
          simp at hz
          subst hz
          exact hxx i v hv
  obtain ⟨xs, hl, hq, hx⟩ := ex len (Nat.le_refl _)
  refine ⟨xs, ⟨hl, fun hn => ?_⟩, hq⟩
  obtain ⟨x, _, hxx⟩ := h 0 hn
  have h0 : (f x)[0]? = some ((f x)[0]'(by rw [hf]; omega)) := List.getElem?_eq_getElem _
  have hc0 := hxx 0 _ h0
  obtain ⟨b, off, spot⟩ := a
  have hspot : spot = none := by simpa [Addr.add] using World.cell?_spot hc0
  subst hspot
  refine ⟨b, off, rfl, ?_, fun j z hz i v hv => ?_⟩
  · have := World.block_lt_of_cell? w _ hc0
    simpa [Addr.add] using this
  · have := hx j z hz i v hv
    have e : (⟨b, off, none⟩ : Addr).add (j * sz + i) = ⟨b, off + j * sz + i, none⟩ := by unfold Addr.add; split <;> simp_all [Nat.add_assoc]
    rw [e] at this
    exact this
/-- a field that is a slice of int64 -/
theorem open_likes {t e : TypeId} {fuel : Nat} {v : Value} {x : DataW H × List MemPlace} (ht : P.underlying t = some (.slice e)) (he : P.underlying e = some (.int .i64)) (hC : P.cellsOf e = 1)
    (h : DataW.trod enc P w base spare held fuel t [v] = some x) : ∃ A n c zs, v = .slice A n c ∧ Row i64v w w.heap.size A n zs ∧ n ≤ maxLen := by
  rcases open_ints ht he hC h with ⟨hcs, _⟩ | ⟨a, l, c, zs, hcs, _, hl, hm, hz, _, hcell, hwz⟩
  · cases hcs; exact ⟨none, 0, 0, [], rfl, Row.none_, Nat.zero_le _⟩
  · cases hcs
    have hlz : l ≤ zs.length := by rw [hz]; split <;> omega
    refine ⟨some a, l, c, zs.take l, rfl, ⟨by simp; omega, fun hn => ?_⟩, by omega⟩
    have hc0 := hcell 0 (by omega)
    obtain ⟨b, off, spot⟩ := a
    have hspot : spot = none := by simpa [Addr.add] using World.cell?_spot hc0
    subst hspot
    refine ⟨b, off, rfl, ?_, fun j z hj => ?_⟩
    · have := World.block_lt_of_cell? w _ hc0
      simpa [Addr.add] using this
    · have hjl : j < l := by
        have := (List.getElem?_eq_some_iff.1 hj).1
        simp at this; omega
      have := hcell j (by omega)
      rw [List.getElem?_take_of_lt hjl] at hj
      have e : (⟨b, off, none⟩ : Addr).add j = ⟨b, off + j, none⟩ := by unfold Addr.add; split <;> simp_all
      rw [e] at this
      rw [this]
      simp [hj]
def RmOk (w : World) (r : Rm) : Prop := Row i64v w w.heap.size r.la r.ln r.m.likes ∧ r.ln ≤ maxLen ∧ r.m.text.size ≤ maxLen
theorem open_rms {t e tl : TypeId} {fuel : Nat} {v : Value} {x : DataW H × List MemPlace} {f0 f1 f2 f3 f4 f5 f6 f7 : Field} (ht : P.underlying t = some (.slice e)) (he : P.underlying e = some (.struct #[f0, f1, f2, f3, f4, f5, f6, f7]))
    (hone : oneCellFields P #[f0, f1, f2, f3, f4, f5, f6, f7] = true) (hC : P.cellsOf e = 8) (h0 : P.underlying f0.type = some (.int .i64)) (h1 : P.underlying f1.type = some (.int .i64)) (h2 : P.underlying f2.type = some (.int .i64)) (h3 : P.underlying f3.type = some .string)
    (h4 : P.underlying f4.type = some (.int .i64)) (h5 : P.underlying f5.type = some .bool) (h6 : P.underlying f6.type = some (.int .i64)) (h7 : P.underlying f7.type = some (.slice tl)) (hl : P.underlying tl = some (.int .i64)) (hlC : P.cellsOf tl = 1)
    (h : DataW.trod enc P w base spare held fuel t [v] = some x) : ∃ A n c rs, v = .slice A n c ∧ SRow 8 rmC w w.heap.size A n rs ∧ (∀ r ∈ rs, RmOk w r) := by
  rcases open_slice_fields ht he hone hC h with hcs | ⟨a, len, cap, hcs, hall⟩
  · cases hcs; exact ⟨none, 0, 0, [], rfl, SRow.none_, (fun _ h => by cases h)⟩
  · cases hcs
    obtain ⟨xs, hx, hq⟩ := srow_with (w := w) (f := rmC) (Q := RmOk w) rmC_len (by omega) a len fun i hi => by
      obtain ⟨n, hn⟩ := hall i hi
      obtain ⟨v0, y0, c0, t0⟩ := hn 0 f0 rfl
      obtain ⟨v1, y1, c1, t1⟩ := hn 1 f1 rfl
      obtain ⟨v2, y2, c2, t2⟩ := hn 2 f2 rfl
      obtain ⟨v3, y3, c3, t3⟩ := hn 3 f3 rfl
      obtain ⟨v4, y4, c4, t4⟩ := hn 4 f4 rfl
      obtain ⟨v5, y5, c5, t5⟩ := hn 5 f5 rfl
      obtain ⟨v6, y6, c6, t6⟩ := hn 6 f6 rfl
      obtain ⟨v7, y7, c7, t7⟩ := hn 7 f7 rfl
      obtain ⟨z0, q0, _⟩ := DataW.trod_int h0 t0
      obtain ⟨z1, q1, _⟩ := DataW.trod_int h1 t1
      obtain ⟨z2, q2, _⟩ := DataW.trod_int h2 t2
      obtain ⟨z3, q3, k3⟩ := DataW.trod_string h3 t3
      obtain ⟨z4, q4, _⟩ := DataW.trod_int h4 t4
      obtain ⟨z5, q5, _⟩ := DataW.trod_bool h5 t5
      obtain ⟨z6, q6, _⟩ := DataW.trod_int h6 t6
      obtain ⟨A7, n7, c7', zs7, q7, r7, m7⟩ := open_likes h7 hl hlC t7
      cases q0; cases q1; cases q2; cases q3; cases q4; cases q5; cases q6; subst q7
      refine ⟨⟨⟨z0, z1, z2, z3, z4, z5, z6, zs7⟩, A7, n7, c7'⟩, ⟨r7, m7, ?_⟩, fun j v hv => ?_⟩
      · exact k3.2
      · match j, hv with
        | 0, hv => cases hv; exact c0
        | 1, hv => cases hv; exact c1
        | 2, hv => cases hv; exact c2
        | 3, hv => cases hv; exact c3
        | 4, hv => cases hv; exact c4
        | 5, hv => cases hv; exact c5
        | 6, hv => cases hv; exact c6
        | 7, hv => cases hv; exact c7
    exact ⟨_, _, _, xs, rfl, hx, hq⟩
end
section
variable {H : Type} {enc : TypeId × Value → H} {P : Program} {w : World} {base : Nat} {spare : Nat → Bool} {held : Bool}
theorem open_agg8 {r : Reach} {b0 : Nat} {t : TypeId} {f0 f1 f2 f3 f4 f5 f6 f7 : Field} {v : Value} {d : DataW H} {p : List MemPlace} (hs : P.underlying t = some (.struct #[f0, f1, f2, f3, f4, f5, f6, f7])) (hone : oneCellFields P #[f0, f1, f2, f3, f4, f5, f6, f7] = true) (hC : P.cellsOf t = 8)
    (hv : Value.okWide P w r b0 t v) (h : DataW.Trod enc P w base spare held t v d p) :
    ∃ (v0 v1 v2 v3 v4 v5 v6 v7 : Value) (y0 y1 y2 y3 y4 y5 y6 y7 : DataW H × List MemPlace) (n : Nat), v = .agg #[v0, v1, v2, v3, v4, v5, v6, v7] ∧ DataW.trod enc P w base spare held n f0.type [v0] = some y0 ∧ DataW.trod enc P w base spare held n f1.type [v1] = some y1 ∧ DataW.trod enc P w base spare held n f2.type [v2] = some y2 ∧ DataW.trod enc P w base spare held n f3.type [v3] = some y3 ∧ DataW.trod enc P w base spare held n f4.type [v4] = some y4 ∧ DataW.trod enc P w base spare held n f5.type [v5] = some y5 ∧ DataW.trod enc P w base spare held n f6.type [v6] = some y6 ∧ DataW.trod enc P w base spare held n f7.type [v7] = some y7 := by
  obtain ⟨cs, rfl, hsz⟩ := okWide_struct hs hv
  obtain ⟨l⟩ := cs
  match l, hsz.trans hC with
  | [c0, c1, c2, c3, c4, c5, c6, c7], _ =>
    obtain ⟨fuel, hf⟩ := h
    obtain ⟨xs, n, _, hx, _, hlen, hg⟩ := DataW.trod_struct hs hf
    obtain ⟨o0, k0⟩ := hone_of hone 0 f0 rfl
    obtain ⟨o1, k1⟩ := hone_of hone 1 f1 rfl
    obtain ⟨o2, k2⟩ := hone_of hone 2 f2 rfl
    obtain ⟨o3, k3⟩ := hone_of hone 3 f3 rfl
    obtain ⟨o4, k4⟩ := hone_of hone 4 f4 rfl
    obtain ⟨o5, k5⟩ := hone_of hone 5 f5 rfl
    obtain ⟨o6, k6⟩ := hone_of hone 6 f6 rfl
    obtain ⟨o7, k7⟩ := hone_of hone 7 f7 rfl
    match xs, hlen with
    | [y0, y1, y2, y3, y4, y5, y6, y7], _ =>
      exact ⟨c0, c1, c2, c3, c4, c5, c6, c7, y0, y1, y2, y3, y4, y5, y6, y7, n, rfl, by simpa [Value.cells, o0, k0] using hg 0 f0 rfl, by simpa [Value.cells, o1, k1] using hg 1 f1 rfl, by simpa [Value.cells, o2, k2] using hg 2 f2 rfl, by simpa [Value.cells, o3, k3] using hg 3 f3 rfl, by simpa [Value.cells, o4, k4] using hg 4 f4 rfl, by simpa [Value.cells, o5, k5] using hg 5 f5 rfl, by simpa [Value.cells, o6, k6] using hg 6 f6 rfl, by simpa [Value.cells, o7, k7] using hg 7 f7 rfl⟩
end
set_option maxHeartbeats 800000 in
theorem open_msg {H : Type} {enc : TypeId × Value → H} {w : World} {base : Nat} {spare : Nat → Bool} {held : Bool} {r : Reach} {b0 : Nat} {v : Value} {d : DataW H} {p : List MemPlace} (hv : Value.okWide Try.prog w r b0 37 v) (h : DataW.Trod enc Try.prog w base spare held 37 v d p) :
    ∃ (m : Rm), v = .agg #[.int .i64 m.m.num, .int .i64 m.m.sdr, .int .i64 m.m.tick, .string m.m.text, .int .i64 m.m.edits, .bool m.m.gone, .int .i64 m.m.reply, .slice m.la m.ln m.lc] ∧ RmOk w m := by
  obtain ⟨v0, v1, v2, v3, v4, v5, v6, v7, y0, y1, y2, y3, y4, y5, y6, y7, n, rfl, t0, t1, t2, t3, t4, t5, t6, t7⟩ := open_agg8 Try.underlying37 (by kernel_rfl) (by kernel_rfl) hv h
  obtain ⟨z0, q0, _⟩ := DataW.trod_int Try.underlying2 t0
  obtain ⟨z1, q1, _⟩ := DataW.trod_int Try.underlying2 t1
  obtain ⟨z2, q2, _⟩ := DataW.trod_int Try.underlying2 t2
  obtain ⟨z3, q3, k3⟩ := DataW.trod_string Try.underlying9 t3
  obtain ⟨z4, q4, _⟩ := DataW.trod_int Try.underlying2 t4
  obtain ⟨z5, q5, _⟩ := DataW.trod_bool Try.underlying4 t5
  obtain ⟨z6, q6, _⟩ := DataW.trod_int Try.underlying2 t6
  obtain ⟨A7, n7, c7, zs7, q7, r7, m7⟩ := open_likes Try.underlying35 Try.underlying2 (by kernel_rfl) t7
  cases q0; cases q1; cases q2; cases q3; cases q4; cases q5; cases q6; subst q7
  exact ⟨⟨⟨z0, z1, z2, z3, z4, z5, z6, zs7⟩, A7, n7, c7⟩, rfl, r7, m7, k3.2⟩
def LogOk (w : World) (A : Option Addr) (n : Nat) (rs : List Rm) : Prop := LogAt w w.heap.size A n rs ∧ n ≤ maxLen ∧ ∀ r ∈ rs, r.ln ≤ maxLen ∧ r.m.text.size ≤ maxLen
end Go.Proofs.Yteeodjbionjlmaa
