import Derived.Test.YtmdoddikaaaamaaChecked
import Derived.WalkKit
import Derived.ProofKit
import Derived.OpenShut
import Derived.ShutString
import Derived.ChangeOld
import Derived.Below
import Derived.Lib.Hide
import Derived.MapKept
import Derived.Maps.OwnSet
import Derived.Maps.OwnOps
import Derived.Test.YtmdoddikaaaamaaJf
namespace Go.Proofs.Ytmdoddikaaaamaa
open Go.ChangeShapes Go.WideShapes Go.ChangeAt Go.RowKit
open Go.ChangeMaps (open_string shut_string)
set_option linter.unusedVariables false
open Go.Maps
set_option maxRecDepth 100000
/-- what a look-up in a table gives -/
theorem look_tabT {α : Type} {k : α → Int} {v : α → Value} {P : Program} {kt mt et : TypeId} (K : Keyed P kt) (ht : P.underlying mt = some (.map kt et)) (hi : P.underlying kt = some (.int .i64)) {z : Value} {w : World} (hz : (zeroValue et).run P w = .ok z w) {b N : Nat} {xs : List α}
    (h : w.ownsMap P kt heldR b N (tabD k v xs)) (t : Int) (hw : (Lit.int .i64 t).wf = true) :
    (∀ x, xs.find? (fun x => decide (k x = t)) = some x → (Instr.lookup mt (.map (some b)) (.int .i64 t) true).run P w = .ok (.tuple #[v x, .bool true]) w ∧ (Instr.lookup mt (.map (some b)) (.int .i64 t) false).run P w = .ok (v x) w) ∧
    (xs.find? (fun x => decide (k x = t)) = none → (Instr.lookup mt (.map (some b)) (.int .i64 t) true).run P w = .ok (.tuple #[z, .bool false]) w ∧ (Instr.lookup mt (.map (some b)) (.int .i64 t) false).run P w = .ok z w) := by
  obtain ⟨u, ps, hrun, hv⟩ := h.look_ok K ht hz (show heldR z = some (.held z, []) from rfl) (keyOf_int_mk hi hw)
  obtain ⟨u', ps', hrun', hv'⟩ := h.lookup K ht hz (show heldR z = some (.held z, []) from rfl) (keyOf_int_mk hi hw)
  rw [tab_has] at hrun
  rw [tab_at] at hv hv'
  constructor
  · intro x hx
    rw [hx] at hv hv'
    simp only [heldR, Option.some.injEq, Prod.mk.injEq, DataW.held.injEq] at hv hv'
    have hm : t ∈ xs.map k := by
      have h1 := List.mem_of_find?_eq_some hx
      have h2 : k x = t := by simpa using List.find?_some hx
      rw [← h2]; exact List.mem_map_of_mem h1
    rw [decide_eq_true hm] at hrun
    rw [hrun, hv.1, hrun', hv'.1]
    exact ⟨rfl, rfl⟩
  · intro hx
    rw [hx] at hv hv'
    simp only [heldR, Option.some.injEq, Prod.mk.injEq, DataW.held.injEq] at hv hv'
    have hm : ¬ t ∈ xs.map k := fun hm => by
      obtain ⟨z, hz, _⟩ := findK_mem hm
      rw [hx] at hz; cases hz
    rw [decide_eq_false hm] at hrun
    rw [hrun, hv.1, hrun', hv'.1]
    exact ⟨rfl, rfl⟩
end Go.Proofs.Ytmdoddikaaaamaa
