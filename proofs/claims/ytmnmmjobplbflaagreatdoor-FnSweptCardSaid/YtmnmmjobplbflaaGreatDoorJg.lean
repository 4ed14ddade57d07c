import Derived.Test.YtmnmmjobplbflaaGreatDoorChecked
import Derived.WalkKit
import Derived.ProofKit
import Derived.OpenShut
import Derived.ShutString
import Derived.ChangeOld
import Derived.Below
import Derived.Lib.Hide
import Derived.Maps.Ext
import Derived.Test.YtmnmmjobplbflaaGreatDoorShelf
import Derived.Test.YtmnmmjobplbflaaGreatDoorShelfK
import Derived.Test.YtmnmmjobplbflaaGreatDoorZMemC
namespace Go.Proofs.YtmnmmjobplbflaaGreatDoor
open Go.ChangeShapes Go.WideShapes Go.ChangeAt Go.RowKit
open Go.ChangeMaps (open_string shut_string)
set_option linter.unusedVariables false
open Go.Maps Go.Shelf
set_option maxRecDepth 100000
--M{
/-- slices.Sort's two contracts, at the fence that asks nothing -/
theorem sortsZ (m : Nat) : AnyZI.SortsIn Tryz.prog Tryz.sortedZ_ren Fence.wide m :=
  ⟨fun blk off cap ss W hH hblk hsz => callsIn_wide.2 (Tryz.slices_Sort_int blk off cap ss W hH hblk hsz),
   fun p cap W => callsIn_wide.2 (Tryz.slices_Sort_int_none p cap W)⟩
theorem tab_keys {α : Type} {k : α → Int} {v : α → Value} (xs : List α) : intKeys (tabD k v xs) = xs.map k := by
  simp [tabD, intKeys]
  intro x _; rfl
--M}
theorem zeroVM (w : World) : (zeroValue 66).run Tryz.prog w = .ok (.agg #[.int .i64 0, .int .i64 0, .int .i64 0, .int .i64 0]) w := by kernel_rfl
/-- the keys of a table, handed to the sort -/
theorem keysM_call (b : Nat) (w : World) : Calls Tryz.prog 116 #[.map (some b)] w fun e w' =>
    e = .returned (.func (.func 129) #[] #[.pointer (some ⟨w.heap.size, 0, none⟩)]) ∧ w' = w.alloc (.cells #[.map (some b)] 112) :=
  (callsIn_wide (n := 5)).1 (AnyZI.keys_in Tryz.keysM Fence.wide 5 trivial rfl (some b) w)
theorem sortedM_call (b N : Nat) (xs : List Mb) (w : World) (hown : mM w b N xs) (hr : Rise Mb.id xs) (hn : xs.length ≤ 1000) :
    Calls Tryz.prog 115 #[.func (.func 129) #[] #[.pointer (some ⟨w.heap.size, 0, none⟩)]] (w.alloc (.cells #[.map (some b)] 112)) fun e w' =>
      ∃ v, e = .returned v ∧ w'.ownsRow w.heap.size 2 1 v xs.length ((mids xs).map i64v) ∧ Below w.heap.size w w' := by
  have hbl := hown.lt
  have hsz := tab_size (k := Mb.id) (v := mbV) xs
  have hseq : SeqGives Fence.wide 2 Tryz.prog 129 #[.pointer (some ⟨w.heap.size, 0, none⟩)] encZ (fun ss => ss.Perm (intKeys (tabD Mb.id mbV xs))) (Maps.size (tabD Mb.id mbV xs)) (w.alloc (.cells #[.map (some b)] 112)) :=
    AnyZI.keys_gives (ρ := Tryz.keysM_ren) { Tryz.keysM with } Fence.wide _ trivial rfl (by omega) w.heap.size b N (tabD Mb.id mbV xs) _ (by simp) (by simp) (by
      obtain ⟨es, clock, hb, Ft, hs, hD⟩ := hown
      exact ⟨es, clock, (Below.heap_alloc _ _ b hbl).trans hb, Ft, hs, hD⟩)
  have cS := AnyZI.sorted_in Tryz.sortedZ Fence.wide 5 trivial trivial trivial trivial rfl (by omega) (sortsZ _) (enters_of Tryz.func87 (by kernel_rfl) rfl) 129 #[.pointer (some ⟨w.heap.size, 0, none⟩)] trivial (enters_of Tryz.func129 (by kernel_rfl) rfl) _ _ (by rw [hsz]; unfold maxLen; omega) (by rw [hsz]; omega) _ hseq
  refine ((callsIn_wide (n := 5)).1 cS).mono ?_
  rintro e w' ⟨v, ss, rfl, hS, hrow, hnil, hb⟩
  rw [tab_keys] at hS
  have e1 : ss.mergeSort (fun x y => decide (x ≤ y)) = xs.map Mb.id := (mergeSort_of_perm_i hS).trans (Rise_sorted hr)
  have e2 : ss.length = xs.length := by rw [hS.length_eq]; simp
  rw [e1, e2] at hrow
  exact ⟨v, rfl, World.ownsRow.mono hrow (by simp), ((Below.refl _ w).alloc (Nat.le_refl _) _).trans (hb.mono (by simp))⟩
--M{
theorem cells_new (w : World) (t : TypeId) (cs : Array Value) (j : Nat) (u : Value) (h : cs[j]? = some u) : (w.alloc (.cells cs t)).cell? ((⟨w.heap.size, 0, none⟩ : Addr).add j) = some u := by
  have := (Blk.new w t cs).cell j
  rw [h] at this
  cases j <;> simpa [Addr.add] using this
--M}
theorem mM_find {xs : List Mb} {k : Nat} {z : Mb} (hr : Rise Mb.id xs) (hz : xs[k]? = some z) : xs.find? (fun x => decide (x.id = z.id)) = some z := Rise_find hr (List.mem_of_getElem? hz)
set_option maxHeartbeats 1600000 in
theorem inOrderM_any (b N : Nat) (xs : List Mb) (w : World) (hown : mM w b N xs) (hr : Rise Mb.id xs) (hn : xs.length ≤ 1000) (hw : ∀ x ∈ xs, (Lit.int .i64 x.id).wf = true) :
    Calls Tryz.prog 83 #[.map (some b)] w fun e w' => ∃ g c, e = .returned (.slice (some ⟨g, 0, none⟩) xs.length c) ∧ w'.ownsRow w.heap.size 66 4 (.slice (some ⟨g, 0, none⟩) xs.length c) xs.length (xs.flatMap mbC) ∧ Below w.heap.size w w' := by
  obtain ⟨i0, hi, hz0, hz1, hz2⟩ := info_parts Tryz.info_Member
  have HR := Lib.hid hr
  have HW := Lib.hid hw
  clear hr hw
  have hsz : Maps.size (tabD Mb.id mbV xs) = xs.length := tab_size _
  have hlt := hown.lt
  go_enter Tryz.func83, Tryz.ntmps83
  go_wp2_with (first
    | (at_len; refine wpList_len_own _ rfl _ 112 rfl 2 66 Tryz.underlying112 _ b N _ rfl hown ?_; rw [hsz])
    | (at_make; refine wpList_make_own _ rfl _ _ 24 rfl w.heap.size 66 i0 (.agg #[.int .i64 0, .int .i64 0, .int .i64 0, .int .i64 0]) 4 Tryz.underlying24 hi hz0 hz1 _ _ _ xs.length rfl rfl (by omega) (by rw [hz2]; omega) (by unfold maxLen; omega) (Nat.le_refl _) ?_; intro w0 hown0 hgrow0))
  have hbel0 : Below w.heap.size w w0 := (Below.refl _ _).grown hgrow0 (Nat.le_refl _) (by simp)
  have hm0 : mM w0 b N xs := ownsMap_below hown hbel0 hlt
  clear hgrow0
  go_at_call 116; refine (keysM_call b _).mono ?_; rintro e w1 ⟨rfl, rfl⟩
  go_wp2_with fail
  go_at_call 115; refine (sortedM_call b N xs _ hm0 HR.out hn).mono ?_; rintro e w2 ⟨v, rfl, hK, hb2⟩
  obtain ⟨Ak, ck, rfl⟩ : ∃ A c, v = .slice A xs.length c := by
    rcases hK.2 with ⟨hv, h0⟩ | ⟨g, cap, cur, hv, _⟩
    · exact ⟨none, 0, by rw [hv, h0]⟩
    · exact ⟨_, _, hv⟩
  have hown2 := own_below hown0 hb2 (Nat.le_refl _)
  have hbel2 := hbel0.trans (hb2.mono hbel0.size)
  have hKl := hbel0.size
  clear hm0 hown0 hbel0 hb2
  go_wp2
  go_loopw [3, 13] (fun v i wr => ∃ k g cc : Nat, k ≤ xs.length ∧ i = .int .i64 k ∧ v = .slice (some ⟨g, 0, none⟩) k cc ∧ wr.ownsRow w.heap.size 66 4 (.slice (some ⟨g, 0, none⟩) k cc) k ((xs.take k).flatMap mbC) ∧ Below w.heap.size w wr ∧ wr.ownsRow w0.heap.size 2 1 (.slice Ak xs.length ck) xs.length ((mids xs).map i64v)) (fun _ i _ => xs.length - (RowKit.intOf i).toNat)
  case atStart => exact ⟨0, _, _, by omega, rfl, rfl, hown2, hbel2, hK⟩
  case round =>
    obtain ⟨k, g, cc, hk, rfl, rfl, hownR, hbel, hKr⟩ := hrel
    clear hown2 hbel2 hK
    have hbs := hbel.size
    have hrow := Row.of_own_any hKr
    by_cases hlk : k < xs.length
    · have hz : xs[k]? = some xs[k] := List.getElem?_eq_getElem hlk
      generalize xs[k] = z at hz
      have hzi : (mids xs)[k]? = some z.id := by simp [mids, hz]
      obtain ⟨bb, off, y, rfl, hbb, hy, hc⟩ := hrow.ati hlk
      rw [hzi] at hy
      injection hy with hy
      subst hy
      have hwf := HW.out z (List.mem_of_getElem? hz)
      have hlook := ((look_tab kInt Tryz.underlying112 Tryz.underlying2 (zeroVM _) (ownsMap_below hown hbel hlt) z.id hwf).1 z (mM_find HR.out hz)).2
      simp only [mbV] at hlook
      have HT := Lib.hid (take_flat (f := mbC) hz)
      have HKR := Lib.hid hKr
      clear hz hzi hrow hKr
      go_wp2_with (at_builtin; refine wpList_append_own _ rfl _ _ 24 rfl w.heap.size 66 i0 (.agg #[.int .i64 0, .int .i64 0, .int .i64 0, .int .i64 0]) 4 32 Tryz.underlying24 hi hz0 hz1 hz2 rfl (by decide) _ _ _ rfl (hownR.alloc _) ⟨wr.heap.size, 0, none⟩ 1 1 [.int .i64 z.id, .int .i64 z.role, .int .i64 z.since, .int .i64 z.quiet] rfl rfl (fun j u hu => cells_new _ _ _ j u (by simpa using hu)) (by intro u hu; simp at hu; rcases hu with rfl | rfl | rfl | rfl <;> rfl) (by unfold maxLen; omega) (by omega) (by simp; omega) ?_; intro v' w5 hown' hgrow _)
      have hbel' : Below w.heap.size w w5 := (hbel.alloc hbs _).grown hgrow (by simp; omega) (fun g hg => (hownR.lt g hg).1)
      obtain ⟨g5, c5, rfl⟩ := Go.Joins.ownsRow_form hown' (by omega)
      have hK' := (HKR.out.alloc (Obj.cells #[.int .i64 z.id, .int .i64 z.role, .int .i64 z.since, .int .i64 z.quiet] 66)).kept hgrow (own_types2 HKR.out hownR (by decide))
      clear hgrow hownR hbel hlook hc
      go_roundw
      case rel => exact ⟨k + 1, g5, c5, by omega, by go_num, rfl, by rw [HT.out]; exact hown', hbel', hK'⟩
      case measure => simp [RowKit.intOf]; omega
    · have hkn : k = xs.length := by omega
      subst hkn
      rw [List.take_of_length_le (Nat.le_refl _)] at hownR
      go_wp2
      go_ret
      exact ⟨g, cc, rfl, hownR, hbel⟩
end Go.Proofs.YtmnmmjobplbflaaGreatDoor
namespace Go.Proofs.YtmnmmjobplbflaaGreatDoor
open Go.ChangeShapes Go.WideShapes Go.ChangeAt Go.RowKit
open Go.ChangeMaps (open_string shut_string)
set_option linter.unusedVariables false
open Go.Maps Go.Shelf
set_option maxRecDepth 100000
theorem zeroVI (w : World) : (zeroValue 36).run Tryz.prog w = .ok (.agg #[.int .i64 0, .int .i64 0, .int .i64 0]) w := by kernel_rfl
/-- the keys of a table, handed to the sort -/
theorem keysI_call (b : Nat) (w : World) : Calls Tryz.prog 126 #[.map (some b)] w fun e w' =>
    e = .returned (.func (.func 143) #[] #[.pointer (some ⟨w.heap.size, 0, none⟩)]) ∧ w' = w.alloc (.cells #[.map (some b)] 113) :=
  (callsIn_wide (n := 5)).1 (AnyZI.keys_in Tryz.keysI Fence.wide 5 trivial rfl (some b) w)
theorem sortedI_call (b N : Nat) (xs : List Iv) (w : World) (hown : mI w b N xs) (hr : Rise Iv.id xs) (hn : xs.length ≤ 1000) :
    Calls Tryz.prog 115 #[.func (.func 143) #[] #[.pointer (some ⟨w.heap.size, 0, none⟩)]] (w.alloc (.cells #[.map (some b)] 113)) fun e w' =>
      ∃ v, e = .returned v ∧ w'.ownsRow w.heap.size 2 1 v xs.length ((iids xs).map i64v) ∧ Below w.heap.size w w' := by
  have hbl := hown.lt
  have hsz := tab_size (k := Iv.id) (v := ivV) xs
  have hseq : SeqGives Fence.wide 2 Tryz.prog 143 #[.pointer (some ⟨w.heap.size, 0, none⟩)] encZ (fun ss => ss.Perm (intKeys (tabD Iv.id ivV xs))) (Maps.size (tabD Iv.id ivV xs)) (w.alloc (.cells #[.map (some b)] 113)) :=
    AnyZI.keys_gives (ρ := Tryz.keysI_ren) { Tryz.keysI with } Fence.wide _ trivial rfl (by omega) w.heap.size b N (tabD Iv.id ivV xs) _ (by simp) (by simp) (by
      obtain ⟨es, clock, hb, Ft, hs, hD⟩ := hown
      exact ⟨es, clock, (Below.heap_alloc _ _ b hbl).trans hb, Ft, hs, hD⟩)
  have cS := AnyZI.sorted_in Tryz.sortedZ Fence.wide 5 trivial trivial trivial trivial rfl (by omega) (sortsZ _) (enters_of Tryz.func87 (by kernel_rfl) rfl) 143 #[.pointer (some ⟨w.heap.size, 0, none⟩)] trivial (enters_of Tryz.func143 (by kernel_rfl) rfl) _ _ (by rw [hsz]; unfold maxLen; omega) (by rw [hsz]; omega) _ hseq
  refine ((callsIn_wide (n := 5)).1 cS).mono ?_
  rintro e w' ⟨v, ss, rfl, hS, hrow, hnil, hb⟩
  rw [tab_keys] at hS
  have e1 : ss.mergeSort (fun x y => decide (x ≤ y)) = xs.map Iv.id := (mergeSort_of_perm_i hS).trans (Rise_sorted hr)
  have e2 : ss.length = xs.length := by rw [hS.length_eq]; simp
  rw [e1, e2] at hrow
  exact ⟨v, rfl, World.ownsRow.mono hrow (by simp), ((Below.refl _ w).alloc (Nat.le_refl _) _).trans (hb.mono (by simp))⟩
theorem mI_find {xs : List Iv} {k : Nat} {z : Iv} (hr : Rise Iv.id xs) (hz : xs[k]? = some z) : xs.find? (fun x => decide (x.id = z.id)) = some z := Rise_find hr (List.mem_of_getElem? hz)
set_option maxHeartbeats 1600000 in
theorem inOrderI_any (b N : Nat) (xs : List Iv) (w : World) (hown : mI w b N xs) (hr : Rise Iv.id xs) (hn : xs.length ≤ 1000) (hw : ∀ x ∈ xs, (Lit.int .i64 x.id).wf = true) :
    Calls Tryz.prog 111 #[.map (some b)] w fun e w' => ∃ g c, e = .returned (.slice (some ⟨g, 0, none⟩) xs.length c) ∧ w'.ownsRow w.heap.size 36 3 (.slice (some ⟨g, 0, none⟩) xs.length c) xs.length (xs.flatMap ivC) ∧ Below w.heap.size w w' := by
  obtain ⟨i0, hi, hz0, hz1, hz2⟩ := info_parts Tryz.info_Invite
  have HR := Lib.hid hr
  have HW := Lib.hid hw
  clear hr hw
  have hsz : Maps.size (tabD Iv.id ivV xs) = xs.length := tab_size _
  have hlt := hown.lt
  go_enter Tryz.func111, Tryz.ntmps111
  go_wp2_with (first
    | (at_len; refine wpList_len_own _ rfl _ 113 rfl 2 36 Tryz.underlying113 _ b N _ rfl hown ?_; rw [hsz])
    | (at_make; refine wpList_make_own _ rfl _ _ 25 rfl w.heap.size 36 i0 (.agg #[.int .i64 0, .int .i64 0, .int .i64 0]) 3 Tryz.underlying25 hi hz0 hz1 _ _ _ xs.length rfl rfl (by omega) (by rw [hz2]; omega) (by unfold maxLen; omega) (Nat.le_refl _) ?_; intro w0 hown0 hgrow0))
  have hbel0 : Below w.heap.size w w0 := (Below.refl _ _).grown hgrow0 (Nat.le_refl _) (by simp)
  have hm0 : mI w0 b N xs := ownsMap_below hown hbel0 hlt
  clear hgrow0
  go_at_call 126; refine (keysI_call b _).mono ?_; rintro e w1 ⟨rfl, rfl⟩
  go_wp2_with fail
  go_at_call 115; refine (sortedI_call b N xs _ hm0 HR.out hn).mono ?_; rintro e w2 ⟨v, rfl, hK, hb2⟩
  obtain ⟨Ak, ck, rfl⟩ : ∃ A c, v = .slice A xs.length c := by
    rcases hK.2 with ⟨hv, h0⟩ | ⟨g, cap, cur, hv, _⟩
    · exact ⟨none, 0, by rw [hv, h0]⟩
    · exact ⟨_, _, hv⟩
  have hown2 := own_below hown0 hb2 (Nat.le_refl _)
  have hbel2 := hbel0.trans (hb2.mono hbel0.size)
  have hKl := hbel0.size
  clear hm0 hown0 hbel0 hb2
  go_wp2
  go_loopw [3, 13] (fun v i wr => ∃ k g cc : Nat, k ≤ xs.length ∧ i = .int .i64 k ∧ v = .slice (some ⟨g, 0, none⟩) k cc ∧ wr.ownsRow w.heap.size 36 3 (.slice (some ⟨g, 0, none⟩) k cc) k ((xs.take k).flatMap ivC) ∧ Below w.heap.size w wr ∧ wr.ownsRow w0.heap.size 2 1 (.slice Ak xs.length ck) xs.length ((iids xs).map i64v)) (fun _ i _ => xs.length - (RowKit.intOf i).toNat)
  case atStart => exact ⟨0, _, _, by omega, rfl, rfl, hown2, hbel2, hK⟩
  case round =>
    obtain ⟨k, g, cc, hk, rfl, rfl, hownR, hbel, hKr⟩ := hrel
    clear hown2 hbel2 hK
    have hbs := hbel.size
    have hrow := Row.of_own_any hKr
    by_cases hlk : k < xs.length
    · have hz : xs[k]? = some xs[k] := List.getElem?_eq_getElem hlk
      generalize xs[k] = z at hz
      have hzi : (iids xs)[k]? = some z.id := by simp [iids, hz]
      obtain ⟨bb, off, y, rfl, hbb, hy, hc⟩ := hrow.ati hlk
      rw [hzi] at hy
      injection hy with hy
      subst hy
      have hwf := HW.out z (List.mem_of_getElem? hz)
      have hlook := ((look_tab kInt Tryz.underlying113 Tryz.underlying2 (zeroVI _) (ownsMap_below hown hbel hlt) z.id hwf).1 z (mI_find HR.out hz)).2
      simp only [ivV] at hlook
      have HT := Lib.hid (take_flat (f := ivC) hz)
      have HKR := Lib.hid hKr
      clear hz hzi hrow hKr
      go_wp2_with (at_builtin; refine wpList_append_own _ rfl _ _ 25 rfl w.heap.size 36 i0 (.agg #[.int .i64 0, .int .i64 0, .int .i64 0]) 3 24 Tryz.underlying25 hi hz0 hz1 hz2 rfl (by decide) _ _ _ rfl (hownR.alloc _) ⟨wr.heap.size, 0, none⟩ 1 1 [.int .i64 z.id, .int .i64 z.byy, .int .i64 z.til] rfl rfl (fun j u hu => cells_new _ _ _ j u (by simpa using hu)) (by intro u hu; simp at hu; rcases hu with rfl | rfl | rfl <;> rfl) (by unfold maxLen; omega) (by omega) (by simp; omega) ?_; intro v' w5 hown' hgrow _)
      have hbel' : Below w.heap.size w w5 := (hbel.alloc hbs _).grown hgrow (by simp; omega) (fun g hg => (hownR.lt g hg).1)
      obtain ⟨g5, c5, rfl⟩ := Go.Joins.ownsRow_form hown' (by omega)
      have hK' := (HKR.out.alloc (Obj.cells #[.int .i64 z.id, .int .i64 z.byy, .int .i64 z.til] 36)).kept hgrow (own_types2 HKR.out hownR (by decide))
      clear hgrow hownR hbel hlook hc
      go_roundw
      case rel => exact ⟨k + 1, g5, c5, by omega, by go_num, rfl, by rw [HT.out]; exact hown', hbel', hK'⟩
      case measure => simp [RowKit.intOf]; omega
    · have hkn : k = xs.length := by omega
      subst hkn
      rw [List.take_of_length_le (Nat.le_refl _)] at hownR
      go_wp2
      go_ret
      exact ⟨g, cc, rfl, hownR, hbel⟩
end Go.Proofs.YtmnmmjobplbflaaGreatDoor
namespace Go.Proofs.YtmnmmjobplbflaaGreatDoor
open Go.ChangeShapes Go.WideShapes Go.ChangeAt Go.RowKit
open Go.ChangeMaps (open_string shut_string)
set_option linter.unusedVariables false
open Go.Maps Go.Shelf
set_option maxRecDepth 100000
theorem zeroVB (w : World) : (zeroValue 38).run Tryz.prog w = .ok (.agg #[.int .i64 0, .int .i64 0]) w := by kernel_rfl
/-- the keys of a table, handed to the sort -/
theorem keysB_call (b : Nat) (w : World) : Calls Tryz.prog 127 #[.map (some b)] w fun e w' =>
    e = .returned (.func (.func 144) #[] #[.pointer (some ⟨w.heap.size, 0, none⟩)]) ∧ w' = w.alloc (.cells #[.map (some b)] 114) :=
  (callsIn_wide (n := 5)).1 (AnyZI.keys_in Tryz.keysB Fence.wide 5 trivial rfl (some b) w)
theorem sortedB_call (b N : Nat) (xs : List Bn) (w : World) (hown : mB w b N xs) (hr : Rise Bn.id xs) (hn : xs.length ≤ 1000) :
    Calls Tryz.prog 115 #[.func (.func 144) #[] #[.pointer (some ⟨w.heap.size, 0, none⟩)]] (w.alloc (.cells #[.map (some b)] 114)) fun e w' =>
      ∃ v, e = .returned v ∧ w'.ownsRow w.heap.size 2 1 v xs.length ((bids xs).map i64v) ∧ Below w.heap.size w w' := by
  have hbl := hown.lt
  have hsz := tab_size (k := Bn.id) (v := bnV) xs
  have hseq : SeqGives Fence.wide 2 Tryz.prog 144 #[.pointer (some ⟨w.heap.size, 0, none⟩)] encZ (fun ss => ss.Perm (intKeys (tabD Bn.id bnV xs))) (Maps.size (tabD Bn.id bnV xs)) (w.alloc (.cells #[.map (some b)] 114)) :=
    AnyZI.keys_gives (ρ := Tryz.keysB_ren) { Tryz.keysB with } Fence.wide _ trivial rfl (by omega) w.heap.size b N (tabD Bn.id bnV xs) _ (by simp) (by simp) (by
      obtain ⟨es, clock, hb, Ft, hs, hD⟩ := hown
      exact ⟨es, clock, (Below.heap_alloc _ _ b hbl).trans hb, Ft, hs, hD⟩)
  have cS := AnyZI.sorted_in Tryz.sortedZ Fence.wide 5 trivial trivial trivial trivial rfl (by omega) (sortsZ _) (enters_of Tryz.func87 (by kernel_rfl) rfl) 144 #[.pointer (some ⟨w.heap.size, 0, none⟩)] trivial (enters_of Tryz.func144 (by kernel_rfl) rfl) _ _ (by rw [hsz]; unfold maxLen; omega) (by rw [hsz]; omega) _ hseq
  refine ((callsIn_wide (n := 5)).1 cS).mono ?_
  rintro e w' ⟨v, ss, rfl, hS, hrow, hnil, hb⟩
  rw [tab_keys] at hS
  have e1 : ss.mergeSort (fun x y => decide (x ≤ y)) = xs.map Bn.id := (mergeSort_of_perm_i hS).trans (Rise_sorted hr)
  have e2 : ss.length = xs.length := by rw [hS.length_eq]; simp
  rw [e1, e2] at hrow
  exact ⟨v, rfl, World.ownsRow.mono hrow (by simp), ((Below.refl _ w).alloc (Nat.le_refl _) _).trans (hb.mono (by simp))⟩
theorem mB_find {xs : List Bn} {k : Nat} {z : Bn} (hr : Rise Bn.id xs) (hz : xs[k]? = some z) : xs.find? (fun x => decide (x.id = z.id)) = some z := Rise_find hr (List.mem_of_getElem? hz)
set_option maxHeartbeats 1600000 in
theorem inOrderB_any (b N : Nat) (xs : List Bn) (w : World) (hown : mB w b N xs) (hr : Rise Bn.id xs) (hn : xs.length ≤ 1000) (hw : ∀ x ∈ xs, (Lit.int .i64 x.id).wf = true) :
    Calls Tryz.prog 112 #[.map (some b)] w fun e w' => ∃ g c, e = .returned (.slice (some ⟨g, 0, none⟩) xs.length c) ∧ w'.ownsRow w.heap.size 38 2 (.slice (some ⟨g, 0, none⟩) xs.length c) xs.length (xs.flatMap bnC) ∧ Below w.heap.size w w' := by
  obtain ⟨i0, hi, hz0, hz1, hz2⟩ := info_parts Tryz.info_Ban
  have HR := Lib.hid hr
  have HW := Lib.hid hw
  clear hr hw
  have hsz : Maps.size (tabD Bn.id bnV xs) = xs.length := tab_size _
  have hlt := hown.lt
  go_enter Tryz.func112, Tryz.ntmps112
  go_wp2_with (first
    | (at_len; refine wpList_len_own _ rfl _ 114 rfl 2 38 Tryz.underlying114 _ b N _ rfl hown ?_; rw [hsz])
    | (at_make; refine wpList_make_own _ rfl _ _ 26 rfl w.heap.size 38 i0 (.agg #[.int .i64 0, .int .i64 0]) 2 Tryz.underlying26 hi hz0 hz1 _ _ _ xs.length rfl rfl (by omega) (by rw [hz2]; omega) (by unfold maxLen; omega) (Nat.le_refl _) ?_; intro w0 hown0 hgrow0))
  have hbel0 : Below w.heap.size w w0 := (Below.refl _ _).grown hgrow0 (Nat.le_refl _) (by simp)
  have hm0 : mB w0 b N xs := ownsMap_below hown hbel0 hlt
  clear hgrow0
  go_at_call 127; refine (keysB_call b _).mono ?_; rintro e w1 ⟨rfl, rfl⟩
  go_wp2_with fail
  go_at_call 115; refine (sortedB_call b N xs _ hm0 HR.out hn).mono ?_; rintro e w2 ⟨v, rfl, hK, hb2⟩
  obtain ⟨Ak, ck, rfl⟩ : ∃ A c, v = .slice A xs.length c := by
    rcases hK.2 with ⟨hv, h0⟩ | ⟨g, cap, cur, hv, _⟩
    · exact ⟨none, 0, by rw [hv, h0]⟩
    · exact ⟨_, _, hv⟩
  have hown2 := own_below hown0 hb2 (Nat.le_refl _)
  have hbel2 := hbel0.trans (hb2.mono hbel0.size)
  have hKl := hbel0.size
  clear hm0 hown0 hbel0 hb2
  go_wp2
  go_loopw [3, 13] (fun v i wr => ∃ k g cc : Nat, k ≤ xs.length ∧ i = .int .i64 k ∧ v = .slice (some ⟨g, 0, none⟩) k cc ∧ wr.ownsRow w.heap.size 38 2 (.slice (some ⟨g, 0, none⟩) k cc) k ((xs.take k).flatMap bnC) ∧ Below w.heap.size w wr ∧ wr.ownsRow w0.heap.size 2 1 (.slice Ak xs.length ck) xs.length ((bids xs).map i64v)) (fun _ i _ => xs.length - (RowKit.intOf i).toNat)
  case atStart => exact ⟨0, _, _, by omega, rfl, rfl, hown2, hbel2, hK⟩
  case round =>
    obtain ⟨k, g, cc, hk, rfl, rfl, hownR, hbel, hKr⟩ := hrel
    clear hown2 hbel2 hK
    have hbs := hbel.size
    have hrow := Row.of_own_any hKr
    by_cases hlk : k < xs.length
    · have hz : xs[k]? = some xs[k] := List.getElem?_eq_getElem hlk
      generalize xs[k] = z at hz
      have hzi : (bids xs)[k]? = some z.id := by simp [bids, hz]
      obtain ⟨bb, off, y, rfl, hbb, hy, hc⟩ := hrow.ati hlk
      rw [hzi] at hy
      injection hy with hy
      subst hy
      have hwf := HW.out z (List.mem_of_getElem? hz)
      have hlook := ((look_tab kInt Tryz.underlying114 Tryz.underlying2 (zeroVB _) (ownsMap_below hown hbel hlt) z.id hwf).1 z (mB_find HR.out hz)).2
      simp only [bnV] at hlook
      have HT := Lib.hid (take_flat (f := bnC) hz)
      have HKR := Lib.hid hKr
      clear hz hzi hrow hKr
      go_wp2_with (at_builtin; refine wpList_append_own _ rfl _ _ 26 rfl w.heap.size 38 i0 (.agg #[.int .i64 0, .int .i64 0]) 2 16 Tryz.underlying26 hi hz0 hz1 hz2 rfl (by decide) _ _ _ rfl (hownR.alloc _) ⟨wr.heap.size, 0, none⟩ 1 1 [.int .i64 z.id, .int .i64 z.til] rfl rfl (fun j u hu => cells_new _ _ _ j u (by simpa using hu)) (by intro u hu; simp at hu; rcases hu with rfl | rfl <;> rfl) (by unfold maxLen; omega) (by omega) (by simp; omega) ?_; intro v' w5 hown' hgrow _)
      have hbel' : Below w.heap.size w w5 := (hbel.alloc hbs _).grown hgrow (by simp; omega) (fun g hg => (hownR.lt g hg).1)
      obtain ⟨g5, c5, rfl⟩ := Go.Joins.ownsRow_form hown' (by omega)
      have hK' := (HKR.out.alloc (Obj.cells #[.int .i64 z.id, .int .i64 z.til] 38)).kept hgrow (own_types2 HKR.out hownR (by decide))
      clear hgrow hownR hbel hlook hc
      go_roundw
      case rel => exact ⟨k + 1, g5, c5, by omega, by go_num, rfl, by rw [HT.out]; exact hown', hbel', hK'⟩
      case measure => simp [RowKit.intOf]; omega
    · have hkn : k = xs.length := by omega
      subst hkn
      rw [List.take_of_length_le (Nat.le_refl _)] at hownR
      go_wp2
      go_ret
      exact ⟨g, cc, rfl, hownR, hbel⟩
end Go.Proofs.YtmnmmjobplbflaaGreatDoor
