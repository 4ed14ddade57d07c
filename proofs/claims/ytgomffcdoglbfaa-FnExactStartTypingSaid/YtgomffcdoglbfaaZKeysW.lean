import Derived.Test.YtgomffcdoglbfaaChecked
import Derived.WalkKit
import Derived.ProofKit
import Derived.OpenShut
import Derived.ShutString
import Derived.ChangeOld
import Derived.Below
import Derived.Lib.Hide
import Derived.Maps.Ext
import Derived.Maps.OwnSet
import Derived.Maps.OwnOps
import Derived.Test.YtgomffcdoglbfaaShelf
import Derived.Test.YtgomffcdoglbfaaShelfK
import Derived.Test.YtgomffcdoglbfaaZWatC
namespace Go.Proofs.Ytgomffcdoglbfaa
open Go.ChangeShapes Go.WideShapes Go.ChangeAt Go.RowKit
open Go.ChangeMaps (open_string shut_string)
set_option linter.unusedVariables false
open Go.Maps Go.Shelf
set_option maxRecDepth 100000
/-- slices.Sort's two contracts, at the fence that asks nothing -/
theorem sortsZ (m : Nat) : AnyZI.SortsIn Try.prog Try.sortedZ_ren Fence.wide m :=
  ⟨fun blk off cap ss W hH hblk hsz => callsIn_wide.2 (Try.slices_Sort_int blk off cap ss W hH hblk hsz),
   fun p cap W => callsIn_wide.2 (Try.slices_Sort_int_none p cap W)⟩
theorem tab_keys {α : Type} {k : α → Int} {v : α → Value} (xs : List α) : intKeys (tabD k v xs) = xs.map k := by
  simp [tabD, intKeys]
  intro x _; rfl
theorem cells_new (w : World) (t : TypeId) (cs : Array Value) (j : Nat) (u : Value) (h : cs[j]? = some u) : (w.alloc (.cells cs t)).cell? ((⟨w.heap.size, 0, none⟩ : Addr).add j) = some u := by
  have := (Blk.new w t cs).cell j
  rw [h] at this
  cases j <;> simpa [Addr.add] using this
/-- the keys of a table, handed to the sort -/
theorem keysW_call (b : Nat) (w : World) : Calls Try.prog 136 #[.map (some b)] w fun e w' =>
    e = .returned (.func (.func 140) #[] #[.pointer (some ⟨w.heap.size, 0, none⟩)]) ∧ w' = w.alloc (.cells #[.map (some b)] 107) :=
  (callsIn_wide (n := 5)).1 (AnyZI.keys_in Try.keysW Fence.wide 5 trivial rfl (some b) w)
theorem sortedW_call (b N : Nat) (xs : List Wt) (w : World) (hown : w.ownsMap Try.prog 2 heldR b N (tabD Wt.id wtV xs)) (hr : Rise Wt.id xs) (hn : xs.length ≤ 1000) :
    Calls Try.prog 135 #[.func (.func 140) #[] #[.pointer (some ⟨w.heap.size, 0, none⟩)]] (w.alloc (.cells #[.map (some b)] 107)) fun e w' =>
      ∃ v, e = .returned v ∧ w'.ownsRow w.heap.size 2 1 v xs.length ((xs.map Wt.id).map i64v) ∧ Below w.heap.size w w' := by
  have hbl := hown.lt
  have hsz := tab_size (k := Wt.id) (v := wtV) xs
  have hseq : SeqGives Fence.wide 2 Try.prog 140 #[.pointer (some ⟨w.heap.size, 0, none⟩)] encZ (fun ss => ss.Perm (intKeys (tabD Wt.id wtV xs))) (Maps.size (tabD Wt.id wtV xs)) (w.alloc (.cells #[.map (some b)] 107)) :=
    AnyZI.keys_gives (ρ := Try.keysW_ren) { Try.keysW with } Fence.wide _ trivial rfl (by omega) w.heap.size b N (tabD Wt.id wtV xs) _ (by simp) (by simp) (by
      obtain ⟨es, clock, hb, Ft, hs, hD⟩ := hown
      exact ⟨es, clock, (Below.heap_alloc _ _ b hbl).trans hb, Ft, hs, hD⟩)
  have cS := AnyZI.sorted_in Try.sortedZ Fence.wide 5 trivial trivial trivial trivial rfl (by omega) (sortsZ _) (enters_of Try.func139 (by kernel_rfl) rfl) 140 #[.pointer (some ⟨w.heap.size, 0, none⟩)] trivial (enters_of Try.func140 (by kernel_rfl) rfl) _ _ (by rw [hsz]; unfold maxLen; omega) (by rw [hsz]; omega) _ hseq
  refine ((callsIn_wide (n := 5)).1 cS).mono ?_
  rintro e w' ⟨v, ss, rfl, hS, hrow, hnil, hb⟩
  rw [tab_keys] at hS
  have e1 : ss.mergeSort (fun x y => decide (x ≤ y)) = xs.map Wt.id := (mergeSort_of_perm_i hS).trans (Rise_sorted hr)
  have e2 : ss.length = xs.length := by rw [hS.length_eq]; simp
  rw [e1, e2] at hrow
  exact ⟨v, rfl, World.ownsRow.mono hrow (by simp), ((Below.refl _ w).alloc (Nat.le_refl _) _).trans (hb.mono (by simp))⟩
end Go.Proofs.Ytgomffcdoglbfaa
