import Derived.Test.YteeodjbionjlmaaChecked
import Derived.WalkKit
import Derived.ProofKit
import Derived.OpenShut
import Derived.ShutString
import Derived.ChangeOld
import Derived.Below
import Derived.Lib.Hide
import Derived.Lib.SmallJoins
import Derived.ChangeArms
import Derived.Test.YteeodjbionjlmaaZMsgA
import Derived.Test.YteeodjbionjlmaaZIdxR
namespace Go.Proofs.Yteeodjbionjlmaa
open Go.ChangeShapes Go.WideShapes Go.ChangeAt Go.RowKit
open Go.ChangeMaps (open_string shut_string)
set_option linter.unusedVariables false
open Go.Joins Go.Deep
set_option maxRecDepth 100000
def ReOk (w : World) (r : Re) : Prop := Row i64v w w.heap.size r.la r.ln r.m.nums ∧ r.ln ≤ maxLen ∧ r.m.word.size ≤ maxLen
section
variable {H : Type} {enc : TypeId × Value → H} {P : Program} {w : World} {base : Nat} {spare : Nat → Bool} {held : Bool}
theorem open_res {t e tl : TypeId} {fuel : Nat} {v : Value} {x : DataW H × List MemPlace} {f0 f1 : Field} (ht : P.underlying t = some (.slice e)) (he : P.underlying e = some (.struct #[f0, f1]))
    (hone : oneCellFields P #[f0, f1] = true) (hC : P.cellsOf e = 2) (h0 : P.underlying f0.type = some .string) (h1 : P.underlying f1.type = some (.slice tl)) (hl : P.underlying tl = some (.int .i64)) (hlC : P.cellsOf tl = 1)
    (h : DataW.trod enc P w base spare held fuel t [v] = some x) : ∃ A n c rs, v = .slice A n c ∧ SRow 2 reC w w.heap.size A n rs ∧ (∀ r ∈ rs, ReOk w r) := by
  rcases open_slice_fields ht he hone hC h with hcs | ⟨a, len, cap, hcs, hall⟩
  · cases hcs; exact ⟨none, 0, 0, [], rfl, SRow.none_, (fun _ h => by cases h)⟩
  · cases hcs
    obtain ⟨xs, hx, hq⟩ := srow_with (w := w) (f := reC) (Q := ReOk w) reC_len (by omega) a len fun i hi => by
      obtain ⟨n, hn⟩ := hall i hi
      obtain ⟨v0, y0, c0, t0⟩ := hn 0 f0 rfl
      obtain ⟨v1, y1, c1, t1⟩ := hn 1 f1 rfl
      obtain ⟨z0, q0, k0⟩ := DataW.trod_string h0 t0
      obtain ⟨A1, n1, c1', zs1, q1, r1, m1⟩ := open_likes h1 hl hlC t1
      cases q0; subst q1
      refine ⟨⟨⟨z0, zs1⟩, A1, n1, c1'⟩, ⟨r1, m1, ?_⟩, fun j v hv => ?_⟩
      · exact k0.2
      · match j, hv with
        | 0, hv => cases hv; exact c0
        | 1, hv => cases hv; exact c1
    exact ⟨_, _, _, xs, rfl, hx, hq⟩
theorem open_agg1 {r : Reach} {b0 : Nat} {t : TypeId} {f0 : Field} {v : Value} {d : DataW H} {p : List MemPlace} (hs : P.underlying t = some (.struct #[f0])) (hone : oneCellFields P #[f0] = true) (hC : P.cellsOf t = 1)
    (hv : Value.okWide P w r b0 t v) (h : DataW.Trod enc P w base spare held t v d p) :
    ∃ (v0 : Value) (y0 : DataW H × List MemPlace) (n : Nat), v = .agg #[v0] ∧ DataW.trod enc P w base spare held n f0.type [v0] = some y0 := by
  obtain ⟨cs, rfl, hsz⟩ := okWide_struct hs hv
  obtain ⟨l⟩ := cs
  match l, hsz.trans hC with
  | [c0], _ =>
    obtain ⟨fuel, hf⟩ := h
    obtain ⟨xs, n, _, hx, _, hlen, hg⟩ := DataW.trod_struct hs hf
    obtain ⟨o0, k0⟩ := hone_of hone 0 f0 rfl
    match xs, hlen with
    | [y0], _ =>
      exact ⟨c0, y0, n, rfl, by simpa [Value.cells, o0, k0] using hg 0 f0 rfl⟩
end
def IdxOk (w : World) (A : Option Addr) (n : Nat) (rs : List Re) : Prop := IdxAt w w.heap.size A n rs ∧ n ≤ maxLen ∧ ∀ r ∈ rs, r.ln ≤ maxLen ∧ r.m.word.size ≤ maxLen
set_option maxHeartbeats 800000 in
theorem open_index {H : Type} {enc : TypeId × Value → H} {w : World} {base : Nat} {spare : Nat → Bool} {held : Bool} {r : Reach} {b0 : Nat} {v : Value} {d : DataW H} {p : List MemPlace} (hv : Value.okWide Try.prog w r b0 47 v) (h : DataW.Trod enc Try.prog w base spare held 47 v d p) :
    ∃ (A : Option Addr) (n c : Nat) (rs : List Re), v = .agg #[.slice A n c] ∧ IdxOk w A n rs := by
  obtain ⟨v0, y0, n, rfl, t0⟩ := open_agg1 Try.underlying47 (by kernel_rfl) (by kernel_rfl) hv h
  have b1 := slice_small Try.underlying45 t0
  obtain ⟨A, n, c, rs, rfl, h1, h2⟩ := open_res Try.underlying45 Try.underlying146 (by kernel_rfl) (by kernel_rfl) Try.underlying9 Try.underlying35 Try.underlying2 (by kernel_rfl) t0
  exact ⟨A, n, c, rs, rfl, ⟨⟨h1, fun r hr => (h2 r hr).1⟩, b1 _ _ _ rfl, fun r hr => (h2 r hr).2⟩⟩
end Go.Proofs.Yteeodjbionjlmaa
