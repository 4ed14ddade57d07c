import Derived.Test.YtbamhnbmddopgaaDoorChecked
import Derived.WalkKit
import Derived.ProofKit
import Derived.OpenShut
import Derived.ShutString
import Derived.ChangeOld
import Derived.Below
import Derived.Lib.Hide
import Derived.Shelf.Strings.SlTrimAscii
import Derived.Shelf.Strings.SplitShaped
import Derived.Test.YtbamhnbmddopgaaDoorMentS
import Derived.Test.YtbamhnbmddopgaaDoorLaidD
import Derived.Test.YtbamhnbmddopgaaDoorSetI
import Derived.Test.YtbamhnbmddopgaaDoorIsMembersC
namespace Go.Proofs.YtbamhnbmddopgaaDoor
open Go.ChangeShapes Go.WideShapes Go.ChangeAt Go.RowKit
open Go.ChangeMaps (open_string shut_string)
set_option linter.unusedVariables false
set_option maxRecDepth 100000
def digs : ByteArray := ⟨#[48, 49, 50, 51, 52, 53, 54, 55, 56, 57]⟩
theorem digs_contains (b : UInt8) : ([48, 49, 50, 51, 52, 53, 54, 55, 56, 57] : List UInt8).contains b = digC b := by
  have key : ∀ n : Fin 256, (([48, 49, 50, 51, 52, 53, 54, 55, 56, 57] : List UInt8).contains (UInt8.ofNat n.val)) = digC (UInt8.ofNat n.val) := by decide +kernel
  have := key ⟨b.toNat, b.toNat_lt⟩
  simpa using this
theorem trim_digs (l : List UInt8) : Lib.trimLeftS l [48, 49, 50, 51, 52, 53, 54, 55, 56, 57] = l.dropWhile digC := by
  unfold Lib.trimLeftS
  congr 1
  funext b
  exact digs_contains b
theorem while_len (l : List UInt8) : (l.takeWhile digC).length + (l.dropWhile digC).length = l.length := by
  have := congrArg List.length (List.takeWhile_append_dropWhile (l := l) (p := digC))
  rw [List.length_append] at this
  exact this
theorem leading_any (s : ByteArray) (w : World) (hs : s.size ≤ 1048576) :
    Calls Tryd.prog 22 #[.string s] w fun e w' => e = .returned (.string ⟨((tl s).takeWhile digC).toArray⟩) ∧ Below w.heap.size w w' := by
  have hT := Any.strings_TrimLeft_ascii Tryd.lays161 (fun _ => by kernel_rfl) (by kernel_rfl) s digs w (by decide) (by
    intro j b hb
    have hm := List.mem_of_getElem? hb
    simp [digs] at hm
    rcases hm with rfl | rfl | rfl | rfl | rfl | rfl | rfl | rfl | rfl | rfl <;> decide)
  change Calls Tryd.prog 49 _ _ _ at hT
  rw [show digs.data.toList = [48, 49, 50, 51, 52, 53, 54, 55, 56, 57] from rfl, trim_digs] at hT
  have hlen := while_len (tl s)
  have hts : (tl s).length = s.size := by simp [tl]
  obtain ⟨R, hR⟩ : ∃ R : ByteArray, (⟨(List.dropWhile digC s.data.toList).toArray⟩ : ByteArray) = R := ⟨_, rfl⟩
  have hRs : R.size = ((tl s).dropWhile digC).length := by rw [← hR]; simp [tl, ByteArray.size]
  have HE := Lib.hid (show s.extract 0 (s.size - R.size) = ⟨((tl s).takeWhile digC).toArray⟩ from by
    apply tl_inj
    have : tl (s.extract 0 (s.size - R.size)) = (tl s).take (s.size - R.size) := by simp [tl]
    rw [this, show s.size - R.size = ((tl s).takeWhile digC).length by omega]
    simp only [tl]
    exact (List.prefix_iff_eq_take.1 (List.takeWhile_prefix digC)).symm)
  rw [hR] at hT
  have i1 : (0 : Int) ≤ (s.size : Int) - (R.size : Int) := by omega
  have i2 : (s.size : Int) - (R.size : Int) ≤ (s.size : Int) := by omega
  have i3 : ((s.size : Int) - (R.size : Int)).toNat = s.size - R.size := by omega
  clear hR hRs hlen hts
  unfold digs at hT
  go_enter Tryd.func22, Tryd.ntmps22
  go_wp2_with (go_at_call 49; refine hT.mono ?_; rintro e w1 ⟨rfl, hb⟩)
  go_ret
  exact ⟨by rw [← HE.out]; rfl, hb⟩
/-- what strings.Split asks of a variable of the library's own -/
def MaxS (w : World) : Prop := ∃ m, w.cell? ⟨Tryd.laysM146_ren.g 1, 0, none⟩ = some (.int .i64 m)
theorem MaxS.below {w w' : World} (h : MaxS w) (hb : Below w.heap.size w w') : MaxS w' := by
  obtain ⟨m, hm⟩ := h
  exact ⟨m, (hb.cell (World.block_lt_of_cell? w _ hm)).trans hm⟩
theorem split_at (s : ByteArray) (w : World) (hX : MaxS w) (hs : s.size ≤ 1048576) :
    Calls Tryd.prog 20 #[.string s, .string ⟨#[64]⟩] w fun e w' => e = .returned (.slice (some ⟨w.heap.size, 0, none⟩) (cutAB s).length (cutAB s).length) ∧ w' = w.alloc (.cells ((cutAB s).map Value.string).toArray 9) := by
  obtain ⟨m, hm⟩ := hX
  have h := Any.strings_Split { Tryd.laysM146 with } Tryd.laysM146.i9 s ⟨#[64]⟩ m w (by omega) hm (by decide)
  rw [split_at_signs, show Lib.countB s ⟨#[64]⟩ + 1 = (cutAB s).length by rw [cutAB_len, show Lib.countB s ⟨#[64]⟩ = (tl s).count 64 from Lib.count_one 64 _]] at h
  exact h
def mentP (p : ByteArray) : Option Int := mentOf ((tl p).takeWhile digC)
theorem ments_pieces (s : ByteArray) : (cutAB s).tail.filterMap mentP = mentsL (tl s) := by
  unfold mentsL
  rw [← (cutA_digits (tl s)).1, ← cutAB_tl, List.filterMap_map, ← List.map_tail, List.filterMap_map]
  rfl
theorem cutA_part (l : List UInt8) : ∀ p ∈ cutA l, p.length ≤ l.length := by
  induction l with
  | nil => intro p hp; simp [cutA] at hp; subst hp; simp
  | cons b r ih =>
    intro p hp
    have hne := cutA_ne r
    unfold cutA at hp
    split at hp
    · rcases List.mem_cons.1 hp with e | e
      · subst e; simp
      · have := ih p e; simp; omega
    · cases hc : cutA r with
      | nil => exact absurd hc hne
      | cons q qs =>
        rw [hc] at hp ih
        simp only [List.mem_cons] at hp
        rcases hp with e | e
        · subst e
          have := ih q (by simp)
          simp; omega
        · have := ih p (by simp [e]); simp; omega
theorem cutAB_size {s p : ByteArray} (h : p ∈ cutAB s) : p.size ≤ s.size := by
  unfold cutAB at h
  obtain ⟨l, hl, rfl⟩ := List.mem_map.1 h
  have h2 := cutA_part _ l hl
  have h3 : (tl s).length = s.size := by simp [tl]
  show l.toArray.size ≤ _
  rw [List.size_toArray]; omega
theorem filt_some {ps : List ByteArray} {k : Nat} {p : ByteArray} {n : Int} (hp : ps[k]? = some p) (h : mentP p = some n) : (ps.take (k + 1)).filterMap mentP = (ps.take k).filterMap mentP ++ [n] := by
  rw [List.take_add_one, hp]; simp [h]
theorem filt_none {ps : List ByteArray} {k : Nat} {p : ByteArray} (hp : ps[k]? = some p) (h : mentP p = none) : (ps.take (k + 1)).filterMap mentP = (ps.take k).filterMap mentP := by
  rw [List.take_add_one, hp]; simp [h]
def MYes (w : World) (ns : List Int) (e : Ending) (w' : World) : Prop := ∃ A m c, e = .returned (.tuple #[.slice A m c, .bool true]) ∧ w'.ownsRow w.heap.size 2 1 (.slice A m c) m (ns.map i64v) ∧ Below w.heap.size w w'
def MNo (w : World) (e : Ending) (w' : World) : Prop := e = .returned (.tuple #[.slice none 0 0, .bool false]) ∧ Below w.heap.size w w'
theorem spec_MentionsOf_no (s : ByteArray) (w : World) (hs : s.size ≤ 1048576) (hb : textB s = false) :
    Calls Tryd.prog 5 #[.string s] w (MNo w) := by
  have hc := l01IsText_any s w (by unfold maxLen; omega)
  rw [hb] at hc
  go_enter Tryd.func5, Tryd.ntmps5
  go_wp2_with (go_at_call 17; refine hc.mono ?_; rintro e w' ⟨rfl, rfl⟩)
  go_ret2
  exact ⟨rfl, Below.refl _ _⟩
theorem impl_MentionsOf_no (s : ByteArray) (w : World) (hs : s.size ≤ 1048576) (hb : textB s = false) :
    Calls Tryd.prog 6 #[.string s] w (MNo w) := by
  have hc := impl_IsText_any s w (by unfold maxLen; omega)
  rw [hb] at hc
  go_enter Tryd.func6, Tryd.ntmps6
  go_wp2_with (go_at_call 19; refine hc.mono ?_; rintro e w' ⟨rfl, rfl⟩)
  go_ret2
  exact ⟨rfl, Below.refl _ _⟩
theorem spec_MentionsOf_yes (s : ByteArray) (w : World) (hs : s.size ≤ 1048576) (hb : textB s = true) :
    Calls Tryd.prog 5 #[.string s] w (MYes w (setL (mentsL (tl s)))) := by
  have hc := l01IsText_any s w (by unfold maxLen; omega)
  rw [hb] at hc
  rw [setL_fold]
  go_enter Tryd.func5, Tryd.ntmps5
  go_wp2_with (first | (go_at_call 17; refine hc.mono ?_; rintro e w' ⟨rfl, rfl⟩) | (go_at_call 18; refine (l01Mentions_any s _ hs).mono ?_; rintro e w' ⟨A, m, c, rfl, ho, hbe⟩))
  go_ret2
  exact ⟨_, _, _, rfl, ho, hbe⟩
set_option maxHeartbeats 3200000 in
theorem impl_MentionsOf_yes (s : ByteArray) (w : World) (hs : s.size ≤ 1048576) (hb : textB s = true) (hL : Laid w) (hX : MaxS w) :
    Calls Tryd.prog 6 #[.string s] w (MYes w (setL (mentsL (tl s)))) := by
  obtain ⟨i0, hi, hz0, hz1, hz2⟩ := info_partsD Tryd.info_i64
  have hc := impl_IsText_any s w (by unfold maxLen; omega)
  rw [hb] at hc
  rw [← ments_pieces]
  have hsp := split_at s w hX hs
  have HP := Lib.hid (fun p (h : p ∈ cutAB s) => Nat.le_trans (cutAB_size h) hs)
  have hrow : Blk (w.alloc (.cells ((cutAB s).map Value.string).toArray 9)) w.heap.size 9 ((cutAB s).map Value.string).toArray := Blk.new w _ _
  have hbA : Below w.heap.size w (w.alloc (.cells ((cutAB s).map Value.string).toArray 9)) := (Below.refl _ _).alloc (Nat.le_refl _) _
  have hsA : w.heap.size + 1 ≤ (w.alloc (.cells ((cutAB s).map Value.string).toArray 9)).heap.size := by simp
  have hlen : (cutAB s).length = (cutAB s).tail.length + 1 := by
    have : (cutAB s).length ≠ 0 := by rw [cutAB_len]; omega
    rw [List.length_tail]; omega
  have hmx : (cutAB s).length ≤ 1048577 := by
    rw [cutAB_len]
    have := List.count_le_length (a := (64 : UInt8)) (l := tl s)
    have : (tl s).length = s.size := by simp [tl]
    omega
  clear hX hb
  generalize cutAB s = ps at *
  have HLEN := Lib.hid hlen
  obtain ⟨P, hP⟩ : ∃ P, ps.tail.length = P := ⟨_, rfl⟩
  rw [hP] at hlen
  have HPT := Lib.hid hP
  clear hP
  go_enter Tryd.func6, Tryd.ntmps6
  go_wp2_with (first | (go_at_call 19; refine hc.mono ?_; rintro e w' ⟨rfl, rfl⟩) | fail)
  go_at_call 20; refine hsp.mono ?_; rintro e wA ⟨rfl, hwA⟩
  rw [← hwA] at hrow hbA hsA
  clear hwA hsp hc
  have j1 : (1 : Int) ≤ (ps.length : Int) := by omega
  by_cases hP0 : P = 0
  · subst hP0
    have htl : ps.tail = [] := List.length_eq_zero_iff.1 HPT.out
    go_wp2
    refine wp_loop_rounds 1 ?_
    rw [rounds_succ]
    go_wp2_with (go_at_call 24; refine (setOf_any none 0 0 w.heap.size [] _ (World.ownsRow_nil _ _ _ _) (by omega)).mono ?_; rintro e w2 ⟨m, rfl, ho2, hg2⟩)
    go_ret2
    exact ⟨_, _, _, rfl, by rw [htl]; exact ho2, hbA.grown hg2 hbA.size (by simp [Value.ownBlock])⟩
  · have hP1 : ¬ P + 1 = 1 := by omega
    go_wp2
    go_loopw [4, 18] (fun v iv wr => ∃ k : Nat, k ≤ P ∧ iv = .int .i64 k ∧ wr.ownsRow (w.heap.size + 1) 2 1 v ((ps.tail.take k).filterMap mentP).length (((ps.tail.take k).filterMap mentP).map i64v) ∧ Below w.heap.size w wr ∧ Below (w.heap.size + 1) wA wr ∧ w.heap.size + 1 ≤ wr.heap.size) (fun _ iv _ => P - (intOf iv).toNat)
    case atStart => exact ⟨0, by omega, rfl, World.ownsRow_nil _ _ _ _, hbA, Below.refl _ _, hsA⟩
    case round =>
      obtain ⟨k, hk, rfl, hown, hbel, hbw, hsz⟩ := hrel
      have hbs := hbel.size
      by_cases hkn : k < P
      · have hkt : k < ps.tail.length := by rw [HPT.out]; exact hkn
        obtain ⟨p, hp⟩ : ∃ p, ps.tail[k]? = some p := ⟨_, List.getElem?_eq_getElem hkt⟩
        have hp1 : ps[k + 1]? = some p := by rw [← List.getElem?_tail]; exact hp
        have hpz := HP.out p (List.mem_of_getElem? hp1)
        have hc : wr.cell? ⟨w.heap.size, 1 + k, none⟩ = some (.string p) := by
          rw [hbw.cell (p := ⟨w.heap.size, 1 + k, none⟩) (Nat.lt_succ_self _), hrow.cell (1 + k), Nat.add_comm 1 k]
          simp [hp1]
        have hln : ((ps.tail.take k).filterMap mentP).length ≤ k := Nat.le_trans (List.length_filterMap_le _ _) (List.length_take_le _ _)
        have i0' : (0 : Int) ≤ (k : Int) := Int.natCast_nonneg _
        have i1' : (k : Int) < (P : Int) := by omega
        have hdz : (⟨((tl p).takeWhile digC).toArray⟩ : ByteArray).size ≤ 1048576 := by
          have h1 := (List.takeWhile_prefix digC (l := tl p)).length_le
          have h2 : (tl p).length = p.size := by simp [tl]
          show ((tl p).takeWhile digC).toArray.size ≤ _
          rw [List.size_toArray]; omega
        have HPI := Lib.hid hp
        clear hp hp1 hkt
        go_wp2_with fail
        go_at_call 22; refine (leading_any p _ hpz).mono ?_; rintro e w3 ⟨rfl, hbn⟩
        have hown3 := own_below hown hbn (Nat.le_refl _)
        have hbel3 := hbel.trans (hbn.mono hbs)
        have hbw3 := hbw.trans (hbn.mono hsz)
        have hsz3 := Nat.le_trans hsz hbn.size
        have hL3 := hL.below hbel3
        clear hown hbel hbn hc hbw hsz hbs
        cases hm : mentP p with
        | some n =>
          have HT := Lib.hid (filt_some HPI.out hm)
          obtain ⟨hn1, hn2, hn3⟩ := mentOf_some hm
          generalize (⟨((tl p).takeWhile digC).toArray⟩ : ByteArray) = D at *
          have cR := impl_ReadDecimal_yes n D (by omega) (by omega) hn3 w3 hL3
          clear hm
          go_wp2_with fail
          go_at_call 21; refine cR.mono ?_; rintro e w4 ⟨rfl, hbn⟩
          have hown4 := own_below hown3 hbn (Nat.le_refl _)
          have hbel4 := hbel3.trans (hbn.mono hbel3.size)
          have hbw4 := hbw3.trans (hbn.mono hsz3)
          have hsz4 := Nat.le_trans hsz3 hbn.size
          clear hown3 hbel3 hbn hbw3 hL3 cR hn3
          go_wp2_with (first | (go_at_call 23; refine (isMember_yes n _ ⟨hn1, hn2⟩).mono ?_; rintro e w' ⟨rfl, rfl⟩) | (at_builtin; refine wpList_append_own _ rfl (.tmp 33) (.tmp 35) 22 rfl (w.heap.size + 1) 2 i0 (.int .i64 0) 1 8 Tryd.underlying22 hi hz0 hz1 hz2 rfl (by decide) _ _ _ rfl (hown4.alloc _) ⟨w4.heap.size, 0, none⟩ 1 1 [.int .i64 n] rfl rfl (cell_one_new _ _ _) (by intro u hu; simp at hu; subst hu; rfl) (by unfold maxLen; omega) (by omega) (by simp; omega) ?_; intro v' w5 hown' hgrow _))
          have hbel' : Below w.heap.size w w5 := (hbel4.alloc hbel4.size _).grown hgrow (by simp; omega) (fun g hg => by have := (hown4.lt g hg).1; omega)
          have hbw' : Below (w.heap.size + 1) wA w5 := (hbw4.alloc hsz4 _).grown hgrow (by simp; omega) (fun g hg => (hown4.lt g hg).1)
          have hsz' : w.heap.size + 1 ≤ w5.heap.size := by have := hgrow.size; simp at this; omega
          clear hgrow hown4 hbel4 hbw4
          go_roundw
          case rel => exact ⟨k + 1, by omega, by go_num, by rw [HT.out, List.map_append, List.length_append]; exact hown', hbel', hbw', hsz'⟩
          case measure => simp [intOf]; omega
        | none =>
          have HT := Lib.hid (filt_none HPI.out hm)
          by_cases hI : ∃ n : Int, -1000000000 ≤ n ∧ n ≤ 1000000000 ∧ strOfNums (decL n) = (⟨((tl p).takeWhile digC).toArray⟩ : ByteArray)
          · obtain ⟨n, hn0, hn1, hn2⟩ := hI
            have hno : ¬ (1 ≤ n ∧ n ≤ 1000) := fun hc => by
              have := mentOf_of hc.1 hc.2 hn2
              unfold mentP at hm
              rw [this] at hm; cases hm
            generalize (⟨((tl p).takeWhile digC).toArray⟩ : ByteArray) = D at *
            have cR := impl_ReadDecimal_yes n D hn0 hn1 hn2 w3 hL3
            clear hm hn2
            go_wp2_with fail
            go_at_call 21; refine cR.mono ?_; rintro e w4 ⟨rfl, hbn⟩
            have hown4 := own_below hown3 hbn (Nat.le_refl _)
            have hbel4 := hbel3.trans (hbn.mono hbel3.size)
            have hbw4 := hbw3.trans (hbn.mono hsz3)
            have hsz4 := Nat.le_trans hsz3 hbn.size
            clear hown3 hbel3 hbn hbw3 hL3 cR
            go_wp2_with (go_at_call 23; refine (isMember_no n _ hno).mono ?_; rintro e w' ⟨rfl, rfl⟩)
            go_roundw
            case rel => exact ⟨k + 1, by omega, by go_num, by rw [HT.out]; exact hown4, hbel4, hbw4, hsz4⟩
            case measure => simp [intOf]; omega
          · generalize (⟨((tl p).takeWhile digC).toArray⟩ : ByteArray) = D at *
            have cR := impl_ReadDecimal_no D hdz (fun n h0 h1 h2 => hI ⟨n, h0, h1, h2⟩) w3 hL3
            clear hm hI
            go_wp2_with fail
            go_at_call 21; refine cR.mono ?_; rintro e w4 ⟨rfl, hbn⟩
            have hown4 := own_below hown3 hbn (Nat.le_refl _)
            have hbel4 := hbel3.trans (hbn.mono hbel3.size)
            have hbw4 := hbw3.trans (hbn.mono hsz3)
            have hsz4 := Nat.le_trans hsz3 hbn.size
            clear hown3 hbel3 hbn hbw3 hL3 cR
            go_wp2
            go_roundw
            case rel => exact ⟨k + 1, by omega, by go_num, by rw [HT.out]; exact hown4, hbel4, hbw4, hsz4⟩
            case measure => simp [intOf]; omega
      · have hke : k = P := by omega
        subst hke
        rw [show ps.tail.take k = ps.tail from List.take_of_length_le (by rw [HPT.out]; omega)] at hown
        have hlf : (ps.tail.filterMap mentP).length ≤ 1073741824 := by have := List.length_filterMap_le mentP ps.tail; have := HPT.out; omega
        obtain ⟨A2, m2, c2, rfl, hmm⟩ := own_shapeS hown
        subst hmm
        go_wp2_with (go_at_call 24; refine (setOf_any A2 _ c2 (w.heap.size + 1) _ _ hown hlf).mono ?_; rintro e w2 ⟨m, rfl, ho2, hg2⟩)
        go_ret2
        exact ⟨_, _, _, rfl, own_down ho2 (Nat.le_succ _), hbel.grown hg2 hbs (fun g hg => by have := (hown.lt g hg).1; omega)⟩
end Go.Proofs.YtbamhnbmddopgaaDoor
