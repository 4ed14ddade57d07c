import Derived.Test.YtdpclbmcmgknjabDoorChecked
import Derived.WalkKit
import Derived.ProofKit
import Derived.OpenShut
import Derived.ShutString
import Derived.ChangeOld
import Derived.Below
import Derived.Lib.Hide
import Derived.Test.YtdpclbmcmgknjabDoorZListT2
namespace Go.Proofs.YtdpclbmcmgknjabDoor
open Go.ChangeShapes Go.WideShapes Go.ChangeAt Go.RowKit
open Go.ChangeMaps (open_string shut_string)
set_option linter.unusedVariables false
def ltS (xs : List Int) : ByteArray := match xs with
  | [] => ⟨#[110, 111, 110, 101]⟩
  | x :: r => ltTo (x :: r) r.length
def LtYes (w : World) (t : ByteArray) (e : Ending) (w' : World) : Prop := e = .returned (.tuple #[.string t, .bool true]) ∧ Below w.heap.size w w'
def LtNo (w : World) (e : Ending) (w' : World) : Prop := e = .returned (.tuple #[.string ⟨#[]⟩, .bool false]) ∧ Below w.heap.size w w'
theorem Tryd.info_strD : (Tryd.prog.info? 9).map (fun i => (i.zero, i.size, i.bytes)) = some (some (.string ByteArray.empty), 1, 16) := by kernel_rfl
set_option maxHeartbeats 1600000 in
set_option maxRecDepth 100000 in
theorem impl_ListText_go (A : Option Addr) (n c m : Nat) (x0 : Int) (r : List Int) (w : World) (h : Row i64v w w.heap.size A n (x0 :: r)) (hn : n ≤ 300) (hm : FewAt (x0 :: r) m) (hL : Pow10 w) :
    Calls Tryd.prog 15 #[.slice A n c] w fun e w' => (m = n → LtYes w (ltS (x0 :: r)) e w') ∧ (m ≠ n → LtNo w e w') := by
  obtain ⟨i0, hi, hz0, hz1, hz2⟩ := info_partsD Tryd.info_strD
  have hlen := h.1
  have hl2 : r.length + 1 = n := by simpa using hlen
  have hn0 : 0 < n := by omega
  obtain ⟨hmx, hgood, hbad⟩ := hm
  rw [hlen] at hmx
  have hsm : m = n → SmallL (x0 :: r) := fun e => few_small ⟨Nat.le_refl _, by rw [hlen, ← e]; exact hgood, by rw [hlen, ← e]; exact hbad⟩
  have HSM := Lib.hid hsm
  have HG := Lib.hid hgood
  have HBD := Lib.hid hbad
  have HLN := Lib.hid hlen
  clear hgood hbad hlen hsm
  generalize hxs : x0 :: r = xs at *
  have HX := Lib.hid hxs
  clear hxs
  go_enter Tryd.func15, Tryd.ntmps15
  go_wp2_with (at_make; refine wpList_make_own _ rfl _ _ 52 rfl w.heap.size 9 i0 (.string ByteArray.empty) 1 Tryd.underlying52 hi hz0 hz1 _ _ _ n rfl rfl (by omega) (by rw [hz2]; omega) (by unfold maxLen; omega) (Nat.le_refl _) ?_; intro w0 hown0 hgrow0)
  have hbel0 : Below w.heap.size w w0 := (Below.refl _ _).grown hgrow0 (Nat.le_refl _) (by simp)
  clear hgrow0
  go_loopw [4, 18] (fun v i wr => ∃ k : Nat, k ≤ m ∧ i = .int .i64 k ∧ wr.ownsRow w.heap.size 9 1 v k (((xs.take k).map ds).map strw) ∧ Below w.heap.size w wr) (fun _ i _ => n - (intOf i).toNat)
  case atStart => exact ⟨0, by omega, rfl, hown0, hbel0⟩
  case round =>
    obtain ⟨k, hk, rfl, hown, hbel⟩ := hrel
    clear hown0 hbel0
    have hbs := hbel.size
    by_cases hkn : k < n
    · obtain ⟨bb, off, x, rfl, hblt, hx, hcw⟩ := h.ati hkn
      have hc : wr.cell? ⟨bb, off + k, none⟩ = some (.int .i64 x) := (hbel.cell hblt).trans hcw
      clear hcw
      by_cases hkm : k < m
      · have hx2 := HG.out k x hkm hx
        have htk : xs.take (k + 1) = xs.take k ++ [x] := by
          have hk' : k < xs.length := (List.getElem?_eq_some_iff.1 hx).1
          have hp : xs[k] = x := (List.getElem?_eq_some_iff.1 hx).2
          rw [List.take_succ_eq_append_getElem hk', hp]
        have HT := Lib.hid htk
        clear hx htk
        go_wp2_with fail
        go_at_call 29; refine (isValue_yes _ _ hx2.1 hx2.2).mono ?_; rintro e w' ⟨rfl, rfl⟩
        go_wp2_with fail
        go_at_call 30; refine (impl_Decimal_any _ (by omega) (by omega) _ (hL.below hbel)).mono ?_; rintro e w3 ⟨rfl, hbn⟩
        have hown3 := own_below hown hbn (Nat.le_refl _)
        have hbel3 := hbel.trans (hbn.mono hbs)
        clear hown hbel hbn hc
        have hbs3 := hbel3.size
        go_wp2_with (at_builtin; refine wpList_append_own _ rfl (.tmp 25) (.tmp 28) 52 rfl w.heap.size 9 i0 (.string ByteArray.empty) 1 16 Tryd.underlying52 hi hz0 hz1 hz2 rfl (by decide) _ _ _ rfl (hown3.alloc _) ⟨w3.heap.size, 0, none⟩ 1 1 [.string (strOfNums (decL x))] rfl rfl ?_ ?_ ?_ ?_ ?_ ?_)
        all_goals try first | rfl | exact cell_one_new _ _ _ | (intro u hu; simp at hu; subst hu; rfl) | (unfold maxLen; omega) | omega | (simp; omega)
        intro v' w5 hown' hgrow _
        have hbel' : Below w.heap.size w w5 := (hbel3.alloc hbs3 _).grown hgrow (by simp; omega) (fun g hg => (hown3.lt g hg).1)
        clear hgrow hown3 hbel3
        go_wp2
        go_roundw
        case rel => exact ⟨k + 1, by omega, by go_num, by rw [HT.out]; simpa [ds, strw] using hown', hbel'⟩
        case measure => simp [intOf]; omega
      · have hke : k = m := by omega
        subst hke
        have hx2 := HBD.out x hx
        have hne : k ≠ n := by omega
        clear hx
        go_wp2_with (go_at_call 29; refine (isValue_no _ _ hx2).mono ?_; rintro e w' ⟨rfl, rfl⟩)
        go_ret2
        exact ⟨fun e => absurd e hne, fun _ => ⟨rfl, hbel⟩⟩
    · have hkm : m = n := by omega
      have hke : k = n := by omega
      subst hke
      have hs := HSM.out hkm
      rw [List.take_of_length_le (by rw [HLN.out]; exact Nat.le_refl _)] at hown
      rcases hown.2 with ⟨_, h0⟩ | ⟨g, cap, cur, rfl, hbg, hg, hcn, hcap, hcs, htake⟩
      · omega
      have hcells : ∀ (j : Nat) y, (xs.map ds)[j]? = some y → wr.cell? ⟨g, 0 + j, none⟩ = some (.string y) := by
        intro j y hy
        have hj : j < xs.length := by have := (List.getElem?_eq_some_iff.1 hy).1; simpa using this
        rw [Nat.zero_add, hown.cellAt j (by have := HLN.out; omega), List.getElem?_map, hy]
        rfl
      have hj : (⟨(Lib.join ((xs.map ds).map (·.data.toList)) [44]).toArray⟩ : ByteArray) = ltS xs := by
        rw [← HX.out]
        exact lt_join x0 r
      have hjl : (Lib.join ((xs.map ds).map (·.data.toList)) [44]).length ≤ 140737488355328 := by
        have e : (Lib.join ((xs.map ds).map (·.data.toList)) [44]).length = (ltS xs).size := by rw [← hj]; exact List.size_toArray.symm
        rw [e, ← HX.out]
        have := ltTo_size x0 r (by rw [HX.out]; exact hs) r.length (Nat.le_refl _)
        show (ltTo (x0 :: r) r.length).size ≤ _
        omega
      have hjn := Tryd.strings_Join g 0 cap (xs.map ds) ⟨#[44]⟩ wr hcells (hown.lt g rfl).2 (by rw [List.length_map, HLN.out]; omega) (by rw [List.length_map, HLN.out]; exact hcn) hjl
      rw [List.length_map, HLN.out] at hjn
      have hjn2 : Calls Tryd.prog 31 #[.slice (some ⟨g, 0, none⟩) k cap, .string ⟨#[44]⟩] wr fun e w' => e = .returned (.string (ltS xs)) ∧ Below wr.heap.size wr w' :=
        hjn.mono fun e w' ⟨he, hb⟩ => ⟨by rw [he, ← hj], hb⟩
      clear hjn hcells hj hjl hs htake
      go_wp2_with (go_at_call 31; refine hjn2.mono ?_; rintro e w2 ⟨rfl, hb2⟩)
      go_ret2
      exact ⟨fun _ => ⟨rfl, hbel.trans (hb2.mono hbs)⟩, fun e => absurd hkm e⟩
theorem impl_ListText_yes (A : Option Addr) (n c : Nat) (xs : List Int) (w : World) (h : Row i64v w w.heap.size A n xs) (hn : n ≤ 300) (hm : FewAt xs n) (hL : Pow10 w) :
    Calls Tryd.prog 15 #[.slice A n c] w fun e w' => LtYes w (ltS xs) e w' := by
  cases xs with
  | nil =>
    have h0 : n = 0 := by simpa using h.1.symm
    subst h0
    clear h hm hL hn
    go_enter Tryd.func15, Tryd.ntmps15
    go_wp2
    go_ret2
    exact ⟨rfl, Below.refl _ _⟩
  | cons x r => exact (impl_ListText_go A n c n x r w h hn hm hL).mono fun e w' ⟨hy, _⟩ => hy rfl
theorem impl_ListText_no (A : Option Addr) (n c m : Nat) (xs : List Int) (w : World) (h : Row i64v w w.heap.size A n xs) (hn : n ≤ 1048576) (hm : FewAt xs m) (hno : ¬ (m = n ∧ n ≤ 300)) (hL : Pow10 w) :
    Calls Tryd.prog 15 #[.slice A n c] w fun e w' => LtNo w e w' := by
  by_cases h3 : n ≤ 300
  · have hne : m ≠ n := fun e => hno ⟨e, h3⟩
    cases xs with
    | nil =>
      have h0 : n = 0 := by simpa using h.1.symm
      have h1 : m ≤ 0 := hm.1
      omega
    | cons x r => exact (impl_ListText_go A n c m x r w h h3 hm hL).mono fun e w' ⟨_, hy⟩ => hy hne
  · clear h hm hno hL
    go_enter Tryd.func15, Tryd.ntmps15
    go_wp2
    go_ret2
    exact ⟨rfl, Below.refl _ _⟩
end Go.Proofs.YtdpclbmcmgknjabDoor
