import Derived.Test.YtmnmmjobplbflaaGreatDoorChecked
import Derived.WalkKit
import Derived.ProofKit
import Derived.OpenShut
import Derived.ShutString
import Derived.ChangeOld
import Derived.Below
import Derived.Lib.Hide
import Derived.Shelf.SlSortCmp.NoneTotal
import Derived.Sort.OwnSorted
import Derived.Test.YtmnmmjobplbflaaGreatDoorZRankA
import Derived.Test.YtmnmmjobplbflaaGreatDoorShelfR
namespace Go.Proofs.YtmnmmjobplbflaaGreatDoor
open Go.ChangeShapes Go.WideShapes Go.ChangeAt Go.RowKit
open Go.ChangeMaps (open_string shut_string)
set_option linter.unusedVariables false
open Go.Sort
set_option maxRecDepth 100000
section
variable {w : World} {g n : Nat} {os : Array Obj} {cur : Array Value} {e : TypeId}
theorem holds_of_blockV {ss : List Value} (hb : w.heap[g]? = some (.cells cur e (0, 0))) (ht : cur.toList.take ss.length = ss) : Holds id w g 0 ss.toArray := by
  intro j hj
  have hj' : j < ss.length := by simpa using hj
  refine ⟨?_, by simp [World.frozen?, hb]⟩
  have h1 : (cur.toList.take ss.length)[j]? = ss[j]? := by rw [ht]
  rw [List.getElem?_take_of_lt hj'] at h1
  simp only [World.cell?, hb, Nat.zero_add]
  rw [← Array.getElem?_toList, h1]
  simp [hj']
theorem heap_sortedV {fr : Nat × Nat} (d : Array Value) (hb : w.heap[g]? = some (.cells cur e fr)) :
    (grow (putRow id (Sort.ahead w n) g 0 d) os).heap[g]? = some (.cells (putCells id 0 d cur) e fr) := by
  have hg : g < w.heap.size := (Array.getElem?_eq_some_iff.1 hb).1
  rw [heap_grow_old _ _ (by simpa using hg)]
  simp [putRow, mapBlock, Sort.ahead, Array.getElem?_modify, hb, onCells]
theorem grownBy_sortedV (d : Array Value) : w.grownBy (grow (putRow id (Sort.ahead w n) g 0 d) os) (some g) := by
  refine ⟨rfl, rfl, rfl, by simp, fun k hk hne => ?_⟩
  rw [heap_grow_old _ _ (by simpa using hk)]
  have : g ≠ k := fun e => hne (by rw [e])
  simp [putRow, mapBlock, Sort.ahead, Array.getElem?_modify, this]
theorem take_putCellsV (cur : Array Value) (ts : List Value) (h : ts.length ≤ cur.size) : (putCells id 0 ts.toArray cur).toList.take ts.length = ts := by
  apply List.ext_getElem?
  intro j
  by_cases hj : j < ts.length
  · rw [List.getElem?_take_of_lt hj, Array.getElem?_toList]
    simp [putCells, hj, show j < cur.size by omega]
  · rw [List.getElem?_take_eq_none (by omega), List.getElem?_eq_none (by omega)]
end
theorem flat4 (ms : List Mb) : (ms.flatMap mbC).length = ms.length * 4 := by
  induction ms with
  | nil => rfl
  | cons x r ih => rw [List.flatMap_cons, List.length_append, ih, List.length_cons, show (mbC x).length = 4 from rfl]; omega
instance : Inhabited Mb := ⟨⟨0, 0, 0, 0⟩⟩
theorem flatK_mb (ms : List Mb) : flatK mbC 4 ms.toArray = (ms.flatMap mbC).toArray := by
  apply Array.ext
  · rw [size_flatK]; simp only [List.size_toArray]; exact (flat4 ms).symm
  · intro t h1 h2
    have h3 : t < ms.length * 4 := by simpa using h1
    have hj : t / 4 < ms.length := by omega
    have e := flat_get (sz := 4) (f := mbC) (fun _ => rfl) ms (t / 4) ms[t / 4] (List.getElem?_eq_getElem hj) (t % 4) (by omega)
    rw [show t / 4 * 4 + t % 4 = t by omega, List.getElem?_eq_getElem (by rw [flat4]; exact h3), List.getElem?_eq_getElem (show t % 4 < (mbC ms[t / 4]).length by show t % 4 < 4; omega)] at e
    have e2 := get_flatK mbC 4 ms.toArray t (by simpa using h3)
    rw [getElem!_pos _ t h1] at e2
    rw [e2]
    have e3 : ms.toArray[t / 4]! = ms[t / 4] := by simp [hj]
    rw [e3, getElem!_pos _ (t % 4) (show t % 4 < (mbC ms[t / 4]).length by show t % 4 < 4; omega)]
    injection e with e
    simpa using e.symm
theorem own_rank {w : World} {base g cap n : Nat} {os : Array Obj} {cur : Array Value} {ms ts : List Mb} (hl : ts.length = ms.length) (hbase : base ≤ g) (hb : w.heap[g]? = some (.cells cur 66 (0, 0)))
    (h1 : ms.length ≤ cap) (h2 : cap ≤ maxLen) (h3 : cur.size = cap * 4) :
    (sortWorldK mbC 4 w g 0 n ts.toArray os).ownsRow base 66 4 (.slice (some ⟨g, 0, none⟩) ms.length cap) ms.length (ts.flatMap mbC) := by
  unfold sortWorldK putRowK
  rw [flatK_mb]
  exact ⟨by rw [flat4, hl], .inr ⟨g, cap, _, rfl, hbase, heap_sortedV _ hb, h1, h2, by simp [putCells, h3], by rw [← hl, ← flat4]; exact take_putCellsV cur _ (by rw [flat4]; omega)⟩⟩
theorem sorted_list {d' : Array Mb} {s : Nat} (hs : d'.size = s) (h : SortedIn (ltOf cfM) 0 s d') : d'.toList.Pairwise fun a b => rankLt b a = false := by
  rw [List.pairwise_iff_getElem]
  intro i j hi hj hij
  have := h i j (Nat.zero_le _) hij (by rw [← hs]; simpa using hj)
  rw [getElem!_pos d' j (by simpa using hj), getElem!_pos d' i (by simpa using hi)] at this
  unfold ltOf at this
  rw [cf_lt] at this
  simpa using this
set_option maxHeartbeats 1000000 in
theorem sortFuncM_any (v : Value) (ms : List Mb) (base : Nat) (w : World) (h : w.ownsRow base 66 4 v ms.length (ms.flatMap mbC)) (hl : ms.length ≤ 1048576) (hb0 : base ≤ w.heap.size) :
    Calls Tryz.prog 121 #[v, .func (.func 95) #[] #[]] w fun e w' => e = .returned (.tuple #[]) ∧ ∃ ys : List Mb, ys.Perm ms ∧ (ys.Pairwise fun a b => rankLt b a = false) ∧ w'.ownsRow base 66 4 v ms.length (ys.flatMap mbC) ∧ Below base w w' := by
  rcases h.2 with ⟨rfl, hn0⟩ | ⟨g, cap, cur, rfl, hbg, hg, hcn, hcap, hcs, htake⟩
  · have he : ms = [] := List.length_eq_zero_iff.1 hn0
    subst he
    exact (AnyF.slices_SortFunc_none Tryz.sortMem none 0 _ w).mono fun e w' ⟨he, hw⟩ => ⟨he, [], List.Perm.refl _, List.Pairwise.nil, by rw [hw]; exact h, by rw [hw]; exact Below.refl _ _⟩
  · have hH : HoldsK mbC 4 w g 0 ms.toArray := by
      unfold HoldsK; rw [flatK_mb]
      exact holds_of_blockV hg (by rw [flat4]; exact htake)
    have hglt : g < w.heap.size := (h.lt g rfl).2
    have eg : ∀ args w, (callFunc 95 args).run Tryz.prog w = .ok (.enter 95 args) w := enters_of Tryz.func95 (by kernel_rfl) rfl
    have hcon := AnyQ.slices_SortFunc Tryz.sortMem 4 Tryz.isAgg66 Tryz.sizeOf66 mbC (fun _ => rfl) (fun x v hv => by simp [mbC] at hv; rcases hv with rfl | rfl | rfl | rfl <;> rfl) cfM cf_swo 95 #[] g 0 cap ms.toArray w eg (fun _ _ _ _ x y => rankCmp_any x y _) hH hglt (by simp; omega)
    rw [show ms.toArray.size = ms.length by simp] at hcon
    refine Calls.mono hcon ?_
    rintro e w' ⟨he, d', q, os, hp, hs, rfl⟩
    have hsz : d'.size = ms.length := by simpa using hp.1
    refine ⟨he, d'.toList, ?_, sorted_list hsz hs, ?_, ?_⟩
    · have h2 := hp.2.2
      rw [show d'.extract 0 ms.length = d' by rw [← hsz]; simp, show ms.toArray.extract 0 ms.length = ms.toArray by simp] at h2
      simpa using h2
    · exact own_rank (ts := d'.toList) (by simpa using hsz) hbg hg hcn hcap hcs
    · exact (Below.refl _ _).grown (grownBy_sortedV _) hb0 (fun k hk => by cases hk; exact hbg)
end Go.Proofs.YtmnmmjobplbflaaGreatDoor
