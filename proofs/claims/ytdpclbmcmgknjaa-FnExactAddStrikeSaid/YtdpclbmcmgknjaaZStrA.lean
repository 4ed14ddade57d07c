import Derived.Test.YtdpclbmcmgknjaaChecked
import Derived.WalkKit
import Derived.ProofKit
import Derived.OpenShut
import Derived.ShutString
import Derived.ChangeOld
import Derived.Below
import Derived.Lib.Hide
import Derived.Lib.SmallJoins
import Derived.ChangeArms
import Derived.Test.YtdpclbmcmgknjaaZEqT
import Derived.Test.YtdpclbmcmgknjaaZRoomA
namespace Go.Proofs.Ytdpclbmcmgknjaa
open Go.ChangeShapes Go.WideShapes Go.ChangeAt Go.RowKit
open Go.ChangeMaps (open_string shut_string)
set_option linter.unusedVariables false
open Go.Joins Go.Deep
set_option maxRecDepth 100000
theorem open_strikes {H : Type} {enc : TypeId × Value → H} {w : World} {base : Nat} {spare : Nat → Bool} {held : Bool} {r : Reach} {b0 : Nat} {v : Value} {d : DataW H} {p : List MemPlace} (hv : Value.okWide Try.prog w r b0 42 v) (h : DataW.Trod enc Try.prog w base spare held 42 v d p) :
    ∃ (A : Option Addr) (n c : Nat) (xs : List Iv), v = .slice A n c ∧ SRow 3 ivC w w.heap.size A n xs ∧ n ≤ maxLen := by
  obtain ⟨A0, n0, c0, rfl⟩ := okWide_slice Try.underlying42 hv
  obtain ⟨fuel, hf⟩ := h
  have hf' : DataW.trod enc Try.prog w base spare held fuel 42 [.slice A0 n0 c0] = some (d, p) := by simpa [Value.cells] using hf
  have b1 := slice_small Try.underlying42 hf'
  obtain ⟨A, n, c, xs, e, h1⟩ := open_ivs Try.underlying42 Try.underlying44 (by kernel_rfl) (by kernel_rfl) Try.underlying2 Try.underlying2 Try.underlying2 hf'
  exact ⟨A, n, c, xs, e, h1, b1 _ _ _ e⟩
theorem open_strike {H : Type} {enc : TypeId × Value → H} {w : World} {base : Nat} {spare : Nat → Bool} {held : Bool} {r : Reach} {b0 : Nat} {v : Value} {d : DataW H} {p : List MemPlace} (hv : Value.okWide Try.prog w r b0 44 v) (h : DataW.Trod enc Try.prog w base spare held 44 v d p) :
    ∃ (s : Iv), v = .agg #[.int .i64 s.id, .int .i64 s.byy, .int .i64 s.til] ∧ (Lit.int .i64 s.id).wf = true := by
  obtain ⟨v0, v1, v2, y0, y1, y2, n, rfl, _, _, t0, t1, t2⟩ := open_agg3 Try.underlying44 (by kernel_rfl) (by kernel_rfl) hv h
  obtain ⟨z0, q0, _, f0⟩ := DataW.trod_int Try.underlying2 t0
  obtain ⟨z1, q1, _, f1⟩ := DataW.trod_int Try.underlying2 t1
  obtain ⟨z2, q2, _, f2⟩ := DataW.trod_int Try.underlying2 t2
  cases q0; cases q1; cases q2
  exact ⟨⟨z0, z1, z2⟩, rfl, f0⟩
end Go.Proofs.Ytdpclbmcmgknjaa
