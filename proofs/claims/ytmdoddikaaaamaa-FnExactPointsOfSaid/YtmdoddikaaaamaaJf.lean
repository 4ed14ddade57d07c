import Derived.Test.YtmdoddikaaaamaaChecked
import Derived.WalkKit
import Derived.ProofKit
import Derived.OpenShut
import Derived.ShutString
import Derived.ChangeOld
import Derived.Below
import Derived.Lib.Hide
import Derived.MapKept
import Derived.Maps.OwnSet
import Derived.Maps.OwnOps
import Derived.Deep.RegionHeld3
import Derived.Test.YtmdoddikaaaamaaZListedC
import Derived.Test.YtmdoddikaaaamaaJq
namespace Go.Proofs.Ytmdoddikaaaamaa
open Go.ChangeShapes Go.WideShapes Go.ChangeAt Go.RowKit
open Go.ChangeMaps (open_string shut_string)
set_option linter.unusedVariables false
open Go.Maps
set_option maxRecDepth 100000
--M{
def mbV (m : Mb) : Value := .agg #[.int .i64 m.id, .int .i64 m.role, .int .i64 m.since, .int .i64 m.quiet]
def ivV (x : Iv) : Value := .agg #[.int .i64 x.id, .int .i64 x.byy, .int .i64 x.til]
def bnV (x : Bn) : Value := .agg #[.int .i64 x.id, .int .i64 x.til]
theorem kInt : Keyed Try.prog 2 := int_keyed Try.underlying2
theorem run_makeMap_hint {P : Program} {t key elem : TypeId} (hu : P.underlying t = some (.map key elem)) (k : IntKind) (n : Int) (w : World) : (Instr.makeMap t (some (.int k n))).run P w = .ok (.map (some w.heap.size)) (w.alloc (.map #[] 0)) := by
  simp [Instr.makeMap, run_underlying hu, asInt, asIntOf, Result.andThen]
theorem ownsMap_below {P : Program} {kt : TypeId} {R : Value → Option (DataW Value × List MemPlace)} {w w' : World} {b n B : Nat} {D : DataW Value} (h : w.ownsMap P kt R b n D) (hb : Below B w w') (hB : b < B) : w'.ownsMap P kt R b n D := by
  obtain ⟨es, clock, he, r⟩ := h
  exact ⟨es, clock, (hb.block b hB).trans he, r⟩
theorem Blk.turned {w w' : World} {g t b : Nat} {cs : Array Value} (h : Blk w g t cs) (ht : w.mapTurned w' b) : Blk w' g t cs := h.grown ht.grown (by
  intro e
  cases e
  obtain ⟨es, cl, _, _, h1, _⟩ := ht
  unfold Blk at h
  rw [h] at h1
  cases h1)
theorem wf_id {t : Int} (h : idB t = true) : (Lit.int .i64 t).wf = true := by
  simp only [idB, decide_eq_true_eq] at h
  exact WalkArith.wf_i64 (by omega)
theorem below_map {B : Nat} {w w1 w2 : World} {b : Nat} (h : Below B w w1) (ht : w1.mapTurned w2 b) (hB : B ≤ w1.heap.size) (hb : B ≤ b) : Below B w w2 := h.grown ht.grown hB (fun g hg => by cases hg; exact hb)
--M}
end Go.Proofs.Ytmdoddikaaaamaa
