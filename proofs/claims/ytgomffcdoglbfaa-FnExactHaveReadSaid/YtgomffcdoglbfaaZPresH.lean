import Derived.Test.YtgomffcdoglbfaaChecked
import Derived.WalkKit
import Derived.ProofKit
import Derived.OpenShut
import Derived.ShutString
import Derived.ChangeOld
import Derived.Below
import Derived.Lib.Hide
import Derived.Deep.Onto
import Derived.Lib.SmallJoins
import Derived.Test.YtgomffcdoglbfaaZPresS
import Derived.Test.YtgomffcdoglbfaaZPresQ
import Derived.Test.YtgomffcdoglbfaaZSeenS
namespace Go.Proofs.Ytgomffcdoglbfaa
open Go.ChangeShapes Go.WideShapes Go.ChangeAt Go.RowKit
open Go.ChangeMaps (open_string shut_string)
set_option linter.unusedVariables false
set_option maxRecDepth 100000
set_option maxHeartbeats 6400000 in
theorem spec_HaveRead_any (A1 A2 A3 : Option Addr) (n1 c1 n2 c2 n3 c3 : Nat) (hs ts ks : List Bn) (m : Int) (w : World) (h : PresAt w w.heap.size A1 n1 A2 n2 A3 n3 hs ts ks) (hn : n1 + n2 + n3 ≤ 1048576) :
    Calls Try.prog 21 #[.agg #[.slice A1 n1 c1, .slice A2 n2 c2, .slice A3 n3 c3], .int .i64 m] w fun e w' => NumsOut (presB hs ts ks && amtB m) (readL m ks) w e w' := by
  have HL := Lib.hid h.2.2.1
  obtain ⟨i0, hi, hz0, hz1, hz2⟩ := info_parts Try.info_i64
  go_enter Try.func21, Try.ntmps21
  go_wp2_with fail
  obtain ⟨k0, hb0⟩ := one_box w 31 #[.slice A1 n1 c1, .slice A2 n2 c2, .slice A3 n3 c3]
  generalize w.alloc (.cells #[.slice A1 n1 c1, .slice A2 n2 c2, .slice A3 n3 c3] 31) = W at *
  have h := h.to hb0
  cases tb : presB hs ts ks with
  | false =>
    go_at_call 44; refine (l05Is_b _ _ _ _ _ _ _ _ _ _ _ _ _ _ _ k0 h hn tb).mono ?_; rintro e w1 ⟨rfl, hb1⟩
    go_wp2
    all_goals exact bodyPost_ret (v := .tuple #[.slice none 0 0, .bool false]) (by simp [results, Try.results21, go_sem]) rfl (by rw [tb]; exact numsOut_no (hb0.trans (hb1.mono hb0.size)))
  | true =>
    go_at_call 44; refine (l05Is_b _ _ _ _ _ _ _ _ _ _ _ _ _ _ _ k0 h hn tb).mono ?_; rintro e w1 ⟨rfl, hb1⟩
    have h := h.to hb1
    have k0 := k0.below hb1 k0.lt
    have hb0 := hb0.trans (hb1.mono hb0.size)
    clear hb1
    have l2 := k0.cell 2
    have klt := k0.lt
    cases ta : amtB m with
    | false =>
      have ta' : decide (0 ≤ m ∧ m ≤ 1000000000) = false := ta
      go_wp2_with (go_at_call 58; refine (l00In_b _ _ _ _ _ ta').mono ?_; rintro e w' ⟨rfl, rfl⟩)
      all_goals exact bodyPost_ret (v := .tuple #[.slice none 0 0, .bool false]) (by simp [results, Try.results21, go_sem]) rfl (by rw [tb, ta]; exact numsOut_no (hb0))
    | true =>
      have ta' : decide (0 ≤ m ∧ m ≤ 1000000000) = true := ta
      have HWw := hb0.size
      go_wp2_with (go_at_call 58; refine (l00In_b _ _ _ _ _ ta').mono ?_; rintro e w' ⟨rfl, rfl⟩)
      have HB := Lib.hid (And.intro tb ta)
      clear ta' ta tb
      go_loopw [6, 19] (fun v i wr => ∃ (k : Nat) (u : Value), k ≤ n3 ∧ i = .int .i64 k ∧ v = u ∧ wr.ownsRow w1.heap.size 2 1 u (readL m (ks.take k)).length ((readL m (ks.take k)).map i64v) ∧ Below w1.heap.size w1 wr) (fun _ i _ => n3 - (intOf i).toNat)
      case atStart => exact ⟨0, _, by omega, rfl, rfl, by simp only [readL, bids, List.take_zero, List.filter_nil, List.map_nil, List.length_nil]; exact World.ownsRow_made w1 #[] 0 (Nat.le_refl _) (by decide) rfl, (Below.refl _ _).alloc (Nat.le_refl _) _⟩
      case round =>
        obtain ⟨k, u, hk, rfl, rfl, hown, hbel⟩ := hrel
        have hbs := hbel.size
        have k1 := k0.below hbel k0.lt
        have l2 := k1.cell 2
        have klt := k1.lt
        have hr := ((h.below hbel).more hbs).2.2
        by_cases hlt : k < n3
        · obtain ⟨b, off, z, rfl, _, hz, c0, c1⟩ := hr.atbn hlt
          have HZ := Lib.hid hz
          have hkl := readL_take m ks k
          clear hz hr
          by_cases hp : m ≤ z.til
          · have hp' : decide (m ≤ z.til) = true := decide_eq_true hp
            have HT := Lib.hid (readL_yes HZ.out hp)
            go_wp2_with (at_builtin; refine wpList_append_own _ rfl _ _ 39 rfl w1.heap.size 2 i0 (.int .i64 0) 1 8 Try.underlying39 hi hz0 hz1 hz2 rfl (by decide) _ _ _ rfl (hown.alloc _) ⟨wr.heap.size, 0, none⟩ 1 1 [.int .i64 z.id] rfl rfl (cell_newY _ _ _ _ rfl) (by intro u hu; simp at hu; subst hu; rfl) (by unfold maxLen; omega) (by omega) (by simp; omega) ?_; intro v' w6 hown' hgrow _)
            have hbel' : Below w1.heap.size w1 w6 := (hbel.alloc hbs _).grown hgrow (by simp; omega) (fun g hg => (hown.lt g hg).1)
            clear hgrow hown hbel
            go_roundw
            case rel => exact ⟨k + 1, v', by omega, by go_num, rfl, by rw [HT.out, List.length_append, List.map_append]; exact hown', hbel'⟩
            case measure => simp [intOf]; omega
          · have hp' : decide (m ≤ z.til) = false := decide_eq_false hp
            have HT := Lib.hid (readL_no HZ.out hp)
            go_wp2
            go_roundw
            case rel => exact ⟨k + 1, _, by omega, by go_num, rfl, by rw [HT.out]; exact hown, hbel⟩
            case measure => simp [intOf]; omega
        · rw [List.take_of_length_le (by have := HL.out; omega)] at hown
          have HO := Lib.hid hown
          have hbF := hb0.trans (hbel.mono HWw)
          clear hown
          rcases HO.out.2 with ⟨hv, hv0⟩ | ⟨g', cap', cur', hv, _⟩
          · subst hv
            go_wp2
            all_goals exact bodyPost_ret (v := .tuple #[.slice none 0 0, .bool true]) (by simp [results, Try.results21, go_sem]) rfl (by rw [HB.out.1, HB.out.2]; exact ⟨_, _, _, readL m ks, rfl, by simp, by have := HO.out; rw [hv0] at this; exact World.ownsRow.mono this HWw, hbF⟩)
          · subst hv
            go_wp2
            all_goals exact bodyPost_ret (v := .tuple #[.slice (some ⟨g', 0, none⟩) (readL m ks).length cap', .bool true]) (by simp [results, Try.results21, go_sem]) rfl (by rw [HB.out.1, HB.out.2]; exact ⟨_, _, _, readL m ks, rfl, by simp, World.ownsRow.mono HO.out HWw, hbF⟩)
set_option maxHeartbeats 6400000 in
theorem impl_HaveRead_any (A1 A2 A3 : Option Addr) (n1 c1 n2 c2 n3 c3 : Nat) (hs ts ks : List Bn) (m : Int) (w : World) (h : PresAt w w.heap.size A1 n1 A2 n2 A3 n3 hs ts ks) (hn : n1 + n2 + n3 ≤ 1048576) :
    Calls Try.prog 22 #[.agg #[.slice A1 n1 c1, .slice A2 n2 c2, .slice A3 n3 c3], .int .i64 m] w fun e w' => NumsOut (presB hs ts ks && amtB m) (readL m ks) w e w' := by
  have HL := Lib.hid h.2.2.1
  obtain ⟨i0, hi, hz0, hz1, hz2⟩ := info_parts Try.info_i64
  go_enter Try.func22, Try.ntmps22
  go_wp2_with fail
  obtain ⟨k0, hb0⟩ := one_box w 31 #[.slice A1 n1 c1, .slice A2 n2 c2, .slice A3 n3 c3]
  generalize w.alloc (.cells #[.slice A1 n1 c1, .slice A2 n2 c2, .slice A3 n3 c3] 31) = W at *
  have h := h.to hb0
  cases tb : presB hs ts ks with
  | false =>
    go_at_call 15; refine (impl_ValidPresence_any _ _ _ _ _ _ _ _ _ _ _ _ _ h hn).mono ?_; rw [tb]; rintro e w1 ⟨rfl, hb1⟩
    go_wp2
    all_goals exact bodyPost_ret (v := .tuple #[.slice none 0 0, .bool false]) (by simp [results, Try.results22, go_sem]) rfl (by rw [tb]; exact numsOut_no (hb0.trans (hb1.mono hb0.size)))
  | true =>
    go_at_call 15; refine (impl_ValidPresence_any _ _ _ _ _ _ _ _ _ _ _ _ _ h hn).mono ?_; rw [tb]; rintro e w1 ⟨rfl, hb1⟩
    have h := h.to hb1
    have k0 := k0.below hb1 k0.lt
    have hb0 := hb0.trans (hb1.mono hb0.size)
    clear hb1
    have l2 := k0.cell 2
    have klt := k0.lt
    cases ta : amtB m with
    | false =>
      have ta' : decide (0 ≤ m ∧ m ≤ 1000000000) = false := ta
      go_wp2_with (go_at_call 59; refine (isAmount_b _ _ _ ta).mono ?_; rintro e w' ⟨rfl, rfl⟩)
      all_goals exact bodyPost_ret (v := .tuple #[.slice none 0 0, .bool false]) (by simp [results, Try.results22, go_sem]) rfl (by rw [tb, ta]; exact numsOut_no (hb0))
    | true =>
      have ta' : decide (0 ≤ m ∧ m ≤ 1000000000) = true := ta
      have HWw := hb0.size
      go_wp2_with (go_at_call 59; refine (isAmount_b _ _ _ ta).mono ?_; rintro e w' ⟨rfl, rfl⟩)
      have HB := Lib.hid (And.intro tb ta)
      clear ta' ta tb
      go_loopw [6, 20] (fun v i wr => ∃ (k : Nat) (u : Value), k ≤ n3 ∧ i = .int .i64 k ∧ v = u ∧ wr.ownsRow w1.heap.size 2 1 u (readL m (ks.take k)).length ((readL m (ks.take k)).map i64v) ∧ Below w1.heap.size w1 wr) (fun _ i _ => n3 - (intOf i).toNat)
      case atStart => exact ⟨0, _, by omega, rfl, rfl, World.ownsRow_nil _ _ _ _, Below.refl _ _⟩
      case round =>
        obtain ⟨k, u, hk, rfl, rfl, hown, hbel⟩ := hrel
        have hbs := hbel.size
        have k1 := k0.below hbel k0.lt
        have l2 := k1.cell 2
        have klt := k1.lt
        have hr := ((h.below hbel).more hbs).2.2
        by_cases hlt : k < n3
        · obtain ⟨b, off, z, rfl, _, hz, c0, c1⟩ := hr.atbn hlt
          have HZ := Lib.hid hz
          have hkl := readL_take m ks k
          clear hz hr
          have hpp : (0 : Int) ≤ (k : Int) := by omega
          have hqq : (k : Int) < (n3 : Int) := by omega
          by_cases hp : m ≤ z.til
          · have hp' : decide (m ≤ z.til) = true := decide_eq_true hp
            have HT := Lib.hid (readL_yes HZ.out hp)
            go_wp2_with (at_builtin; refine wpList_append_own _ rfl _ _ 39 rfl w1.heap.size 2 i0 (.int .i64 0) 1 8 Try.underlying39 hi hz0 hz1 hz2 rfl (by decide) _ _ _ rfl ((hown.alloc _).alloc _) ⟨wr.heap.size + 1, 0, none⟩ 1 1 [.int .i64 z.id] rfl rfl (cell_newY (wr.alloc (.cells #[.int .i64 z.id, .int .i64 z.til] 74)) _ _ _ (by simp)) (by intro u hu; simp at hu; subst hu; rfl) (by unfold maxLen; omega) (by omega) (by simp; omega) ?_; intro v' w6 hown' hgrow _)
            have hbel' : Below w1.heap.size w1 w6 := ((hbel.alloc hbs _).alloc (by simp; omega) _).grown hgrow (by simp; omega) (fun g hg => (hown.lt g hg).1)
            clear hgrow hown hbel
            go_roundw
            case rel => exact ⟨k + 1, v', by omega, by go_num, rfl, by rw [HT.out, List.length_append, List.map_append]; exact hown', hbel'⟩
            case measure => simp [intOf]; omega
          · have hp' : decide (m ≤ z.til) = false := decide_eq_false hp
            have HT := Lib.hid (readL_no HZ.out hp)
            go_wp2
            go_roundw
            case rel => exact ⟨k + 1, _, by omega, by go_num, rfl, by rw [HT.out]; exact hown.alloc _, hbel.alloc hbs _⟩
            case measure => simp [intOf]; omega
        · rw [List.take_of_length_le (by have := HL.out; omega)] at hown
          have HO := Lib.hid hown
          have hbF := hb0.trans (hbel.mono HWw)
          clear hown
          rcases HO.out.2 with ⟨hv, hv0⟩ | ⟨g', cap', cur', hv, _⟩
          · subst hv
            go_wp2
            all_goals exact bodyPost_ret (v := .tuple #[.slice none 0 0, .bool true]) (by simp [results, Try.results22, go_sem]) rfl (by rw [HB.out.1, HB.out.2]; exact ⟨_, _, _, readL m ks, rfl, by simp, by have := HO.out; rw [hv0] at this; exact World.ownsRow.mono this HWw, hbF⟩)
          · subst hv
            go_wp2
            all_goals exact bodyPost_ret (v := .tuple #[.slice (some ⟨g', 0, none⟩) (readL m ks).length cap', .bool true]) (by simp [results, Try.results22, go_sem]) rfl (by rw [HB.out.1, HB.out.2]; exact ⟨_, _, _, readL m ks, rfl, by simp, World.ownsRow.mono HO.out HWw, hbF⟩)
end Go.Proofs.Ytgomffcdoglbfaa
