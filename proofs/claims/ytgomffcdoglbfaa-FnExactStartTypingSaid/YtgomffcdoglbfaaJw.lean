import Derived.Test.YtgomffcdoglbfaaChecked
import Derived.WalkKit
import Derived.ProofKit
import Derived.OpenShut
import Derived.ShutString
import Derived.ChangeOld
import Derived.Below
import Derived.Lib.Hide
import Derived.Maps.Ext
import Derived.Maps.OwnSet
import Derived.Maps.OwnOps
import Derived.Lib.SmallJoins
import Derived.Test.YtgomffcdoglbfaaZRollS
import Derived.Test.YtgomffcdoglbfaaZKeysW
import Derived.Test.YtgomffcdoglbfaaJu
namespace Go.Proofs.Ytgomffcdoglbfaa
open Go.ChangeShapes Go.WideShapes Go.ChangeAt Go.RowKit
open Go.ChangeMaps (open_string shut_string)
set_option linter.unusedVariables false
open Go.Maps Go.Shelf
set_option maxRecDepth 100000
theorem entryE_any (m u : Int) (w : World) : Calls Try.prog 128 #[.int .i64 m, .int .i64 u] w fun e w' => e = .returned (.agg #[.int .i64 m, .int .i64 u]) ∧ Below w.heap.size w w' := by
  go_enter Try.func128, Try.ntmps128
  go_wp2
  exact bodyPost_ret (v := .agg #[.int .i64 m, .int .i64 u]) (by simp [results, Try.results128, go_sem]) rfl ⟨rfl, by repeat (first | exact Below.refl _ _ | refine Below.setCell ?_ (by simp) _ | refine Below.alloc ?_ (by first | (simp; omega) | simp) _)⟩
set_option maxHeartbeats 3200000 in
theorem rollE_any (base g N : Nat) (xs : List Wt) (w : World) (h : WatchAt w base g N xs) (hn : xs.length ≤ 1000) (hw : ∀ x ∈ xs, (Lit.int .i64 x.id).wf = true) :
    Calls Try.prog 130 #[.map (some g), .func (.func 128) #[] #[]] w fun e w' => ∃ g' c, e = .returned (.slice (some ⟨g', 0, none⟩) xs.length c) ∧ w'.ownsRow w.heap.size 71 2 (.slice (some ⟨g', 0, none⟩) xs.length c) xs.length ((wbs xs).flatMap bnC) ∧ WatchAt w' base g N xs ∧ Stir w w' (wblk g xs) := by
  obtain ⟨i0, hi, hz0, hz1, hz2⟩ := info_parts Try.info_Lease
  have HW := Lib.hid hw
  have HR := Lib.hid h.rise
  have hown := h.own
  clear hw
  have hsz : Maps.size (tabD Wt.id wtV xs) = xs.length := tab_size _
  have hlt := hown.lt
  go_enter Try.func130, Try.ntmps130
  go_wp2_with (first
    | (at_len; refine wpList_len_own _ rfl _ 107 rfl 2 120 Try.underlying107 _ g N _ rfl hown ?_; rw [hsz])
    | (at_make; refine wpList_make_own _ rfl _ _ 28 rfl w.heap.size 71 i0 (.agg #[.int .i64 0, .int .i64 0]) 2 Try.underlying28 hi hz0 hz1 _ _ _ xs.length rfl rfl (by omega) (by rw [hz2]; omega) (by unfold maxLen; omega) (Nat.le_refl _) ?_; intro w0 hown0 hgrow0))
  have hbel0 : Below w.heap.size w w0 := (Below.refl _ _).grown hgrow0 (Nat.le_refl _) (by simp)
  have hW0 := h.below hbel0
  have hS0 : Stir w w0 (wblk g xs) := Stir.of_below hbel0
  have hs0 := hbel0.size
  clear hgrow0 h hown hlt hbel0
  go_at_call 136; refine (keysW_call g _).mono ?_; rintro e w1 ⟨rfl, rfl⟩
  go_wp2_with fail
  go_at_call 135; refine (sortedW_call g N xs _ hW0.own HR.out hn).mono ?_; rintro e w2 ⟨v, rfl, hK, hb2⟩
  obtain ⟨Ak, ck, rfl⟩ : ∃ A c, v = .slice A xs.length c := by
    rcases hK.2 with ⟨hv, h0⟩ | ⟨g, cap, cur, hv, _⟩
    · exact ⟨none, 0, by rw [hv, h0]⟩
    · exact ⟨_, _, hv⟩
  have hown2 := own_below hown0 hb2 (Nat.le_refl _)
  have hW2 := hW0.below hb2
  have hS2 := hS0.call hb2
  have hs2 := Nat.le_trans hs0 hb2.size
  clear hown0 hW0 hS0 hb2 hsz
  go_wp2
  go_loopw [5, 15] (fun v i wr => ∃ k g1 cc : Nat, k ≤ xs.length ∧ i = .int .i64 k ∧ v = .slice (some ⟨g1, 0, none⟩) k cc ∧ wr.ownsRow w.heap.size 71 2 (.slice (some ⟨g1, 0, none⟩) k cc) k ((wbs (xs.take k)).flatMap bnC) ∧ wr.ownsRow w0.heap.size 2 1 (.slice Ak xs.length ck) xs.length ((xs.map Wt.id).map i64v) ∧ WatchAt wr base g N xs ∧ Stir w wr (wblk g xs)) (fun _ i _ => xs.length - (RowKit.intOf i).toNat)
  case atStart => exact ⟨0, _, _, by omega, rfl, rfl, hown2, hK, hW2, hS2⟩
  case round =>
    obtain ⟨k, g1, cc, hk, rfl, rfl, hownR, hKr, hWr, hSr⟩ := hrel
    clear hown2 hK hW2 hS2
    have hrow := Row.of_own_any hKr
    by_cases hlk : k < xs.length
    · have hz : xs[k]? = some xs[k] := List.getElem?_eq_getElem hlk
      generalize xs[k] = z at hz
      have hzm := List.mem_of_getElem? hz
      have hzi : (xs.map Wt.id)[k]? = some z.id := by simp [hz]
      obtain ⟨bb, off, y, rfl, hbb, hy, hc⟩ := hrow.ati hlk
      rw [hzi] at hy
      injection hy with hy
      subst hy
      have hwf := HW.out z hzm
      have hlook := ((look_tabT kInt Try.underlying107 Try.underlying2 (zeroC wr) hWr.own z.id hwf).1 z (Rise_find HR.out hzm)).2
      simp only [wtV] at hlook
      have hch := (hWr.chan z hzm).2
      have HM := Lib.hid hzm
      have HT := Lib.hid (take_wbs hz)
      have HKR := Lib.hid hKr
      have HSR := Lib.hid hSr
      have HWR := Lib.hid hWr
      have HOR := Lib.hid hownR
      clear hz hzi hrow hKr hSr hWr hownR hzm
      go_wp2_with fail
      go_at_call 88; refine (last_some z.ch z.til _ hch).mono ?_; rintro e w3 ⟨rfl, hc3, hs3⟩
      have hcm : ∀ k' ∈ [z.ch], k' ∈ wblk g xs := fun k' hk' => by simp at hk'; subst hk'; exact List.mem_cons_of_mem _ (List.mem_map_of_mem HM.out)
      have HK3 := Lib.hid (own_stir HKR.out hs3 fun g' hg' hm => HWR.out.not_row HKR.out g' hg' (hcm _ hm))
      have HO3 := Lib.hid (own_stir HOR.out hs3 fun g' hg' hm => HWR.out.not_row HOR.out g' hg' (hcm _ hm))
      have HW3 := Lib.hid (watch_last HWR.out HM.out hs3 hc3)
      have HS3 := Lib.hid (HSR.out.trans (hs3.more fun k' hk' _ => hcm k' hk'))
      clear hs3 hc3 hcm hlook hc hch HKR HOR HWR HSR
      go_wp2_with fail
      go_at_call 128; refine (entryE_any z.id z.til _).mono ?_; rintro e w4 ⟨rfl, hb4⟩
      have hW4 := HW3.out.below hb4
      have hS4 := HS3.out.call hb4
      have hO4 := own_below HO3.out hb4 (Nat.le_refl _)
      have hK4 := own_below HK3.out hb4 (Nat.le_refl _)
      have hs4 := hS4.size
      clear hb4 HK3 HO3 HW3 HS3
      go_wp2_with (at_builtin; refine wpList_append_own _ rfl _ _ 28 rfl w.heap.size 71 i0 (.agg #[.int .i64 0, .int .i64 0]) 2 16 Try.underlying28 hi hz0 hz1 hz2 rfl (by decide) _ _ _ rfl (hO4.alloc _) ⟨w4.heap.size, 0, none⟩ 1 1 [.int .i64 z.id, .int .i64 z.til] rfl rfl (fun j u hu => cells_new _ _ _ j u (by simpa using hu)) (by intro u hu; simp at hu; rcases hu with rfl | rfl <;> rfl) (by unfold maxLen; omega) (by omega) (by simp; omega) ?_; intro v' w5 hown' hgrow _)
      obtain ⟨g5, c5, rfl⟩ := Go.Joins.ownsRow_form hown' (by omega)
      have hO4' := hO4.alloc (Obj.cells #[.int .i64 z.id, .int .i64 z.til] 71)
      have hba : Below w4.heap.size w4 (w4.alloc (Obj.cells #[.int .i64 z.id, .int .i64 z.til] 71)) := (Below.refl _ _).alloc (Nat.le_refl _) _
      have hW5 := (hW4.below hba).grown hO4' hgrow
      have hS5 := (hS4.call hba).grown hgrow (fun g hg => (hO4.lt g hg).1)
      have hK5 := (hK4.alloc (Obj.cells #[.int .i64 z.id, .int .i64 z.til] 71)).kept hgrow (own_types2 hK4 hO4 (by decide))
      clear hgrow hO4 hO4' hba hW4 hS4 hK4
      go_roundw
      case rel => exact ⟨k + 1, g5, c5, by omega, by go_num, rfl, by rw [HT.out]; exact hown', hK5, hW5, hS5⟩
      case measure => simp [RowKit.intOf]; omega
    · have hkn : k = xs.length := by omega
      subst hkn
      rw [List.take_of_length_le (Nat.le_refl _)] at hownR
      go_wp2
      go_ret
      exact ⟨g1, cc, rfl, hownR, hWr, hSr⟩
end Go.Proofs.Ytgomffcdoglbfaa
namespace Go.Proofs.Ytgomffcdoglbfaa
open Go.ChangeShapes Go.WideShapes Go.ChangeAt Go.RowKit
open Go.ChangeMaps (open_string shut_string)
set_option linter.unusedVariables false
open Go.Maps Go.Shelf
set_option maxRecDepth 100000
theorem entryK_any (m u : Int) (w : World) : Calls Try.prog 129 #[.int .i64 m, .int .i64 u] w fun e w' => e = .returned (.agg #[.int .i64 m, .int .i64 u]) ∧ Below w.heap.size w w' := by
  go_enter Try.func129, Try.ntmps129
  go_wp2
  exact bodyPost_ret (v := .agg #[.int .i64 m, .int .i64 u]) (by simp [results, Try.results129, go_sem]) rfl ⟨rfl, by repeat (first | exact Below.refl _ _ | refine Below.setCell ?_ (by simp) _ | refine Below.alloc ?_ (by first | (simp; omega) | simp) _)⟩
set_option maxHeartbeats 3200000 in
theorem rollK_any (base g N : Nat) (xs : List Wt) (w : World) (h : WatchAt w base g N xs) (hn : xs.length ≤ 1000) (hw : ∀ x ∈ xs, (Lit.int .i64 x.id).wf = true) :
    Calls Try.prog 131 #[.map (some g), .func (.func 129) #[] #[]] w fun e w' => ∃ g' c, e = .returned (.slice (some ⟨g', 0, none⟩) xs.length c) ∧ w'.ownsRow w.heap.size 74 2 (.slice (some ⟨g', 0, none⟩) xs.length c) xs.length ((wbs xs).flatMap bnC) ∧ WatchAt w' base g N xs ∧ Stir w w' (wblk g xs) := by
  obtain ⟨i0, hi, hz0, hz1, hz2⟩ := info_parts Try.info_Mark
  have HW := Lib.hid hw
  have HR := Lib.hid h.rise
  have hown := h.own
  clear hw
  have hsz : Maps.size (tabD Wt.id wtV xs) = xs.length := tab_size _
  have hlt := hown.lt
  go_enter Try.func131, Try.ntmps131
  go_wp2_with (first
    | (at_len; refine wpList_len_own _ rfl _ 107 rfl 2 120 Try.underlying107 _ g N _ rfl hown ?_; rw [hsz])
    | (at_make; refine wpList_make_own _ rfl _ _ 29 rfl w.heap.size 74 i0 (.agg #[.int .i64 0, .int .i64 0]) 2 Try.underlying29 hi hz0 hz1 _ _ _ xs.length rfl rfl (by omega) (by rw [hz2]; omega) (by unfold maxLen; omega) (Nat.le_refl _) ?_; intro w0 hown0 hgrow0))
  have hbel0 : Below w.heap.size w w0 := (Below.refl _ _).grown hgrow0 (Nat.le_refl _) (by simp)
  have hW0 := h.below hbel0
  have hS0 : Stir w w0 (wblk g xs) := Stir.of_below hbel0
  have hs0 := hbel0.size
  clear hgrow0 h hown hlt hbel0
  go_at_call 136; refine (keysW_call g _).mono ?_; rintro e w1 ⟨rfl, rfl⟩
  go_wp2_with fail
  go_at_call 135; refine (sortedW_call g N xs _ hW0.own HR.out hn).mono ?_; rintro e w2 ⟨v, rfl, hK, hb2⟩
  obtain ⟨Ak, ck, rfl⟩ : ∃ A c, v = .slice A xs.length c := by
    rcases hK.2 with ⟨hv, h0⟩ | ⟨g, cap, cur, hv, _⟩
    · exact ⟨none, 0, by rw [hv, h0]⟩
    · exact ⟨_, _, hv⟩
  have hown2 := own_below hown0 hb2 (Nat.le_refl _)
  have hW2 := hW0.below hb2
  have hS2 := hS0.call hb2
  have hs2 := Nat.le_trans hs0 hb2.size
  clear hown0 hW0 hS0 hb2 hsz
  go_wp2
  go_loopw [5, 15] (fun v i wr => ∃ k g1 cc : Nat, k ≤ xs.length ∧ i = .int .i64 k ∧ v = .slice (some ⟨g1, 0, none⟩) k cc ∧ wr.ownsRow w.heap.size 74 2 (.slice (some ⟨g1, 0, none⟩) k cc) k ((wbs (xs.take k)).flatMap bnC) ∧ wr.ownsRow w0.heap.size 2 1 (.slice Ak xs.length ck) xs.length ((xs.map Wt.id).map i64v) ∧ WatchAt wr base g N xs ∧ Stir w wr (wblk g xs)) (fun _ i _ => xs.length - (RowKit.intOf i).toNat)
  case atStart => exact ⟨0, _, _, by omega, rfl, rfl, hown2, hK, hW2, hS2⟩
  case round =>
    obtain ⟨k, g1, cc, hk, rfl, rfl, hownR, hKr, hWr, hSr⟩ := hrel
    clear hown2 hK hW2 hS2
    have hrow := Row.of_own_any hKr
    by_cases hlk : k < xs.length
    · have hz : xs[k]? = some xs[k] := List.getElem?_eq_getElem hlk
      generalize xs[k] = z at hz
      have hzm := List.mem_of_getElem? hz
      have hzi : (xs.map Wt.id)[k]? = some z.id := by simp [hz]
      obtain ⟨bb, off, y, rfl, hbb, hy, hc⟩ := hrow.ati hlk
      rw [hzi] at hy
      injection hy with hy
      subst hy
      have hwf := HW.out z hzm
      have hlook := ((look_tabT kInt Try.underlying107 Try.underlying2 (zeroC wr) hWr.own z.id hwf).1 z (Rise_find HR.out hzm)).2
      simp only [wtV] at hlook
      have hch := (hWr.chan z hzm).2
      have HM := Lib.hid hzm
      have HT := Lib.hid (take_wbs hz)
      have HKR := Lib.hid hKr
      have HSR := Lib.hid hSr
      have HWR := Lib.hid hWr
      have HOR := Lib.hid hownR
      clear hz hzi hrow hKr hSr hWr hownR hzm
      go_wp2_with fail
      go_at_call 88; refine (last_some z.ch z.til _ hch).mono ?_; rintro e w3 ⟨rfl, hc3, hs3⟩
      have hcm : ∀ k' ∈ [z.ch], k' ∈ wblk g xs := fun k' hk' => by simp at hk'; subst hk'; exact List.mem_cons_of_mem _ (List.mem_map_of_mem HM.out)
      have HK3 := Lib.hid (own_stir HKR.out hs3 fun g' hg' hm => HWR.out.not_row HKR.out g' hg' (hcm _ hm))
      have HO3 := Lib.hid (own_stir HOR.out hs3 fun g' hg' hm => HWR.out.not_row HOR.out g' hg' (hcm _ hm))
      have HW3 := Lib.hid (watch_last HWR.out HM.out hs3 hc3)
      have HS3 := Lib.hid (HSR.out.trans (hs3.more fun k' hk' _ => hcm k' hk'))
      clear hs3 hc3 hcm hlook hc hch HKR HOR HWR HSR
      go_wp2_with fail
      go_at_call 129; refine (entryK_any z.id z.til _).mono ?_; rintro e w4 ⟨rfl, hb4⟩
      have hW4 := HW3.out.below hb4
      have hS4 := HS3.out.call hb4
      have hO4 := own_below HO3.out hb4 (Nat.le_refl _)
      have hK4 := own_below HK3.out hb4 (Nat.le_refl _)
      have hs4 := hS4.size
      clear hb4 HK3 HO3 HW3 HS3
      go_wp2_with (at_builtin; refine wpList_append_own _ rfl _ _ 29 rfl w.heap.size 74 i0 (.agg #[.int .i64 0, .int .i64 0]) 2 16 Try.underlying29 hi hz0 hz1 hz2 rfl (by decide) _ _ _ rfl (hO4.alloc _) ⟨w4.heap.size, 0, none⟩ 1 1 [.int .i64 z.id, .int .i64 z.til] rfl rfl (fun j u hu => cells_new _ _ _ j u (by simpa using hu)) (by intro u hu; simp at hu; rcases hu with rfl | rfl <;> rfl) (by unfold maxLen; omega) (by omega) (by simp; omega) ?_; intro v' w5 hown' hgrow _)
      obtain ⟨g5, c5, rfl⟩ := Go.Joins.ownsRow_form hown' (by omega)
      have hO4' := hO4.alloc (Obj.cells #[.int .i64 z.id, .int .i64 z.til] 74)
      have hba : Below w4.heap.size w4 (w4.alloc (Obj.cells #[.int .i64 z.id, .int .i64 z.til] 74)) := (Below.refl _ _).alloc (Nat.le_refl _) _
      have hW5 := (hW4.below hba).grown hO4' hgrow
      have hS5 := (hS4.call hba).grown hgrow (fun g hg => (hO4.lt g hg).1)
      have hK5 := (hK4.alloc (Obj.cells #[.int .i64 z.id, .int .i64 z.til] 74)).kept hgrow (own_types2 hK4 hO4 (by decide))
      clear hgrow hO4 hO4' hba hW4 hS4 hK4
      go_roundw
      case rel => exact ⟨k + 1, g5, c5, by omega, by go_num, rfl, by rw [HT.out]; exact hown', hK5, hW5, hS5⟩
      case measure => simp [RowKit.intOf]; omega
    · have hkn : k = xs.length := by omega
      subst hkn
      rw [List.take_of_length_le (Nat.le_refl _)] at hownR
      go_wp2
      go_ret
      exact ⟨g1, cc, rfl, hownR, hWr, hSr⟩
end Go.Proofs.Ytgomffcdoglbfaa
