import Derived.Test.YtmnmmjobplbflaaGreatDoorJq
namespace Go.Proofs.YtmnmmjobplbflaaGreatDoor
set_option linter.unusedVariables false
theorem filt_yes {α : Type} {f : α → Bool} {xs : List α} {n : Nat} {z : α} (hz : xs[n]? = some z) (h : f z = true) : (xs.take (n + 1)).filter f = (xs.take n).filter f ++ [z] := by
  rw [List.take_add_one, hz]; simp [h]
theorem filt_no {α : Type} {f : α → Bool} {xs : List α} {n : Nat} {z : α} (hz : xs[n]? = some z) (h : f z = false) : (xs.take (n + 1)).filter f = (xs.take n).filter f := by
  rw [List.take_add_one, hz]; simp [h]
theorem filt_len {α : Type} {f : α → Bool} {xs : List α} {n : Nat} : ((xs.take n).filter f).length ≤ n := Nat.le_trans (List.length_filter_le _ _) (List.length_take_le _ _)
/-- the first k members hushed -/
def hushK (at_ : Int) (k : Nat) (ms : List Mb) : List Mb := (ms.take k).map (hush at_) ++ ms.drop k
theorem hushK_len {at_ : Int} {k : Nat} {ms : List Mb} : (hushK at_ k ms).length = ms.length := by simp [hushK]; omega
theorem hushK_zero {at_ : Int} {ms : List Mb} : hushK at_ 0 ms = ms := by simp [hushK]
theorem hushK_all {at_ : Int} {ms : List Mb} : hushK at_ ms.length ms = ms.map (hush at_) := by simp [hushK]
theorem hushK_at {at_ : Int} {k : Nat} {ms : List Mb} {z : Mb} (hz : ms[k]? = some z) : (hushK at_ k ms)[k]? = some z := by
  have hl := (List.getElem?_eq_some_iff.1 hz).1
  unfold hushK
  rw [List.getElem?_append_right (by simp; omega)]
  simp
  rw [show k + (k - min k ms.length) = k by omega]
  exact hz
theorem hushK_step {at_ : Int} {k : Nat} {ms : List Mb} {z : Mb} (hz : ms[k]? = some z) : (hushK at_ k ms).set k (hush at_ z) = hushK at_ (k + 1) ms := by
  obtain ⟨hl, he⟩ := List.getElem?_eq_some_iff.1 hz
  unfold hushK
  rw [List.set_append_right _ _ (by simp; omega)]
  have h1 : (List.map (hush at_) (List.take k ms)).length = k := by simp; omega
  rw [h1, Nat.sub_self, List.take_add_one, hz, List.drop_eq_getElem_cons hl, he]
  simp
theorem hushK_same {at_ : Int} {k : Nat} {ms : List Mb} {z : Mb} (hz : ms[k]? = some z) (h : ¬ z.quiet ≤ at_) : hushK at_ (k + 1) ms = hushK at_ k ms := by
  rw [← hushK_step hz, show hush at_ z = z by simp [hush, h]]
  apply List.ext_getElem?
  intro j
  rw [List.getElem?_set]
  by_cases hj : k = j
  · subst hj
    have h2 := hushK_at (at_ := at_) hz
    rw [if_pos rfl, h2, if_pos (List.getElem?_eq_some_iff.1 h2).1]
  · rw [if_neg hj]
theorem hushK_ids {at_ : Int} {k : Nat} {ms : List Mb} : (hushK at_ k ms).map Mb.id = ms.map Mb.id := by
  unfold hushK
  rw [List.map_append, List.map_map, show (Mb.id ∘ hush at_) = Mb.id from funext fun x => hush_id at_ x, ← List.map_append, List.take_append_drop]
theorem hushK_rise {at_ : Int} {k : Nat} {ms : List Mb} (h : Rise Mb.id ms) : Rise Mb.id (hushK at_ k ms) := by
  rw [← rise_map, hushK_ids]; exact rise_map.2 h
theorem set_alter0 {ms : List Mb} {K : Nat} {m : Mb} (f : Mb → Mb) (hr : Rise Mb.id ms) (hz : ms[K]? = some m) : ms.set K (f m) = alter m.id f ms := by
  apply List.ext_getElem?
  intro j
  rw [List.getElem?_set, alter, List.getElem?_map]
  have hK := (List.getElem?_eq_some_iff.1 hz).1
  by_cases hj : K = j
  · subst hj
    obtain ⟨hl, he⟩ := List.getElem?_eq_some_iff.1 hz
    simp [hl, he]
  · rw [if_neg hj]
    cases hx : ms[j]? with
    | none => rfl
    | some x =>
      have hne : x.id ≠ m.id := by
        obtain ⟨a1, e1⟩ := List.getElem?_eq_some_iff.1 hz
        obtain ⟨a2, e2⟩ := List.getElem?_eq_some_iff.1 hx
        rcases Nat.lt_or_gt_of_ne hj with hl | hl
        · have := List.pairwise_iff_getElem.1 hr K j a1 a2 hl
          rw [e1, e2] at this
          omega
        · have := List.pairwise_iff_getElem.1 hr j K a2 a1 hl
          rw [e1, e2] at this
          omega
      simp [hne]
theorem hushK_put {at_ : Int} {k : Nat} {ms : List Mb} {z : Mb} (hr : Rise Mb.id ms) (hz : ms[k]? = some z) : putK Mb.id (hush at_ z) (hushK at_ k ms) = hushK at_ (k + 1) ms := by
  have hzk := hushK_at (at_ := at_) hz
  have hrk := hushK_rise (at_ := at_) (k := k) hr
  rw [put_alter (hush at_) (hush_id at_) hrk (List.mem_of_getElem? hzk), ← set_alter0 (hush at_) hrk hzk, hushK_step hz]
end Go.Proofs.YtmnmmjobplbflaaGreatDoor
