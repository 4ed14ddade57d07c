import Derived.Test.YtmnmmjobplbflaaChecked
import Derived.WalkKit
import Derived.ProofKit
import Derived.OpenShut
import Derived.ShutString
import Derived.ChangeOld
import Derived.Below
import Derived.Lib.Hide
import Derived.Deep.Onto
import Derived.Lib.SmallJoins
import Derived.Test.YtmnmmjobplbflaaZPostL
import Derived.Test.YtmnmmjobplbflaaZSetI
import Derived.Test.YtmnmmjobplbflaaZJoinS
import Derived.Test.YtmnmmjobplbflaaZMentQ
namespace Go.Proofs.Ytmnmmjobplbflaa
open Go.ChangeShapes Go.WideShapes Go.ChangeAt Go.RowKit
open Go.ChangeMaps (open_string shut_string)
set_option linter.unusedVariables false
set_option maxRecDepth 100000
def roomN (xs : List Bn) : List Int := xs.map Bn.id
def roomsL (xs : List Bn) : List Int := if parsB xs = true then setL (roomN xs) else []
theorem rooms_no {xs : List Bn} (h : parsB xs = false) : roomsL xs = [] := by unfold roomsL; rw [h]; rfl
theorem rooms_yes {xs : List Bn} (h : parsB xs = true) : roomsL xs = setL (roomN xs) := by unfold roomsL; rw [h]; rfl
theorem pars_len {xs : List Bn} (h : parsB xs = true) : xs.length ≤ 64 := by
  simp only [parsB, Bool.and_eq_true, decide_eq_true_eq] at h; exact h.1
theorem roomN_take {xs : List Bn} {k : Nat} {z : Bn} (h : xs[k]? = some z) : (roomN (xs.take (k + 1))).map i64v = (roomN (xs.take k)).map i64v ++ [.int .i64 z.id] := by
  simp [roomN, takeX h]
theorem roomN_step {xs : List Bn} {k : Nat} {z : Bn} (h : xs[k]? = some z) : foldP (roomN (xs.take (k + 1))) [] = putL z.id (foldP (roomN (xs.take k)) []) := by
  simp [roomN, takeX h, foldP]
theorem rooms_small (xs : List Bn) : (roomsL xs).length ≤ 1073741824 := by
  unfold roomsL
  split
  · rename_i h
    have h1 := pars_len h
    have h2 := (setL_facts (roomN xs)).2.2
    have h3 : (roomN xs).length = xs.length := by simp [roomN]
    omega
  · simp
theorem foldP_small {xs : List Bn} (h : xs.length ≤ 64) (k : Nat) : (foldP (roomN (xs.take k)) []).length ≤ 64 := by
  rw [← setL_fold]
  have h2 := (setL_facts (roomN (xs.take k))).2.2
  have h3 : (roomN (xs.take k)).length ≤ xs.length := by simp [roomN]; omega
  omega
set_option maxHeartbeats 3200000 in
theorem impl_RoomsIn_any (A : Option Addr) (n c : Nat) (xs : List Bn) (w : World) (h : SRow 2 bnC w w.heap.size A n xs) (hn : n ≤ 1048576) :
    Calls Try.prog 28 #[.slice A n c] w fun e w' => IntsOut (parsB xs) (roomsL xs) w e w' := by
  have HL := Lib.hid h.1
  obtain ⟨i0, hi, hz0, hz1, hz2⟩ := info_parts Try.info_i64
  go_enter Try.func28, Try.ntmps28
  go_wp2_with fail
  cases tb : parsB xs with
  | false =>
    go_at_call 54; refine (areParcels_b _ _ _ _ _ _ _ h (Nat.le_refl _) hn tb).mono ?_; rintro e w1 ⟨rfl, hb1⟩
    go_wp2
    all_goals exact bodyPost_ret (v := .tuple #[.slice none 0 0, .bool false]) (by simp [results, Try.results28, go_sem]) rfl (by rw [tb]; exact ⟨none, 0, 0, [], rfl, (rooms_no tb).symm, World.ownsRow_nil _ _ _ _, hb1⟩)
  | true =>
    have HB := Lib.hid tb
    go_at_call 54; refine (areParcels_b _ _ _ _ _ _ _ h (Nat.le_refl _) hn tb).mono ?_; rintro e w1 ⟨rfl, hb1⟩
    have hW := hb1.size
    have h := h.to hb1
    clear tb
    go_wp2_with (at_make; refine wpList_make_own _ rfl _ _ 46 rfl w1.heap.size 2 i0 (.int .i64 0) 1 Try.underlying46 hi hz0 hz1 _ _ _ n rfl rfl (by omega) (by rw [hz2]; omega) (by unfold maxLen; omega) (Nat.le_refl _) ?_; intro w0 hown0 hgrow0)
    have hbel0 : Below w1.heap.size w1 w0 := (Below.refl _ _).grown hgrow0 (Nat.le_refl _) (by simp)
    clear hgrow0
    go_loopw [4, 15] (fun v i wr => ∃ k g cc : Nat, k ≤ n ∧ i = .int .i64 k ∧ v = .slice (some ⟨g, 0, none⟩) k cc ∧ wr.ownsRow w1.heap.size 2 1 (.slice (some ⟨g, 0, none⟩) k cc) k ((roomN (xs.take k)).map i64v) ∧ Below w1.heap.size w1 wr) (fun _ i _ => n - (intOf i).toNat)
    case atStart => exact ⟨0, _, _, by omega, rfl, rfl, by simpa [roomN] using hown0, hbel0⟩
    case round =>
      obtain ⟨k, g, cc, hk, rfl, rfl, hown, hbel⟩ := hrel
      clear hown0 hbel0
      by_cases hlt : k < n
      · have hlt' : decide ((k : Int) < (n : Int)) = true := decide_eq_true (by omega)
        obtain ⟨b, off, z, rfl, hb, hz, c0, c1⟩ := (h.below hbel).atbn hlt
        have HT := Lib.hid (roomN_take hz)
        have hbs := hbel.size
        clear hz h
        have ha : Below wr.heap.size wr (wr.alloc (.cells #[.int .i64 z.id, .int .i64 z.til] 74)) := (Below.refl _ _).alloc (Nat.le_refl _) _
        have hsz : (wr.alloc (.cells #[.int .i64 z.id, .int .i64 z.til] 74)).heap.size = wr.heap.size + 1 := by simp
        have hownA := own_below hown ha (Nat.le_refl _)
        have hbelA := hbel.trans (ha.mono hbs)
        clear hown hbel ha
        go_wp2_with (at_builtin; refine wpList_append_own _ rfl _ _ 46 rfl w1.heap.size 2 i0 (.int .i64 0) 1 8 Try.underlying46 hi hz0 hz1 hz2 rfl (by decide) _ _ _ rfl (hownA.alloc _) ⟨wr.heap.size + 1, 0, none⟩ 1 1 [.int .i64 z.id] rfl rfl (cell_newX _ _ _ _ (by simp)) (by intro u hu; simp at hu; subst hu; rfl) (by unfold maxLen; omega) (by omega) (by simp; omega) ?_; intro v' w5 hown' hgrow _)
        have hbel' : Below w1.heap.size w1 w5 := (hbelA.alloc hbelA.size _).grown hgrow (by simp; omega) (fun g hg => (hownA.lt g hg).1)
        obtain ⟨g5, c5, rfl⟩ := Go.Joins.ownsRow_form hown' (by omega)
        clear hgrow hownA hbelA
        go_roundw
        case rel => exact ⟨k + 1, g5, c5, by omega, by go_num, rfl, by rw [HT.out]; exact hown', hbel'⟩
        case measure => simp [intOf]; omega
      · have hlt' : decide ((k : Int) < (n : Int)) = false := decide_eq_false (by omega)
        have hkn : k = n := by omega
        subst hkn
        rw [List.take_of_length_le (by have := HL.out; omega)] at hown
        go_wp2_with fail
        go_at_call 55; refine (setOf_any _ _ _ _ _ _ hown (by omega)).mono ?_; rintro e w6 ⟨m, rfl, ho6, hg6⟩
        have hb6 := below_own hbel hown hg6 (Nat.le_refl _) hbel.size
        go_wp2
        refine bodyPost_ret (v := .tuple #[.slice (some ⟨g, 0, none⟩) m cc, .bool true]) (by simp [results, Try.results28, go_sem]) rfl ?_
        exact ⟨_, _, _, _, by rw [HB.out], (rooms_yes HB.out).symm, World.ownsRow.mono ho6 hW, hb1.trans (hb6.mono hW)⟩
set_option maxHeartbeats 3200000 in
theorem l04Rooms_any (A : Option Addr) (n c : Nat) (xs : List Bn) (w : World) (h : SRow 2 bnC w w.heap.size A n xs) (hn : n ≤ 64) :
    Calls Try.prog 52 #[.slice A n c] w fun e w' => OneRow w (setL (roomN xs)) e w' := by
  have HL := Lib.hid h.1
  have HS := Lib.hid (foldP_small (xs := xs) (by have := HL.out; omega))
  go_enter Try.func52, Try.ntmps52
  go_wp2
  go_loopw [3, 4] (fun v i wr => ∃ (k : Nat) (A' : Option Addr) (m c' : Nat), k ≤ n ∧ i = .int .i64 k ∧ v = .slice A' m c' ∧ Hid ((foldP (roomN (xs.take k)) []).length = m) ∧ wr.ownsRow w.heap.size 2 1 (.slice A' m c') m ((foldP (roomN (xs.take k)) []).map i64v) ∧ Below w.heap.size w wr) (fun _ i _ => n - (intOf i).toNat)
  case atStart => exact ⟨0, _, _, _, by omega, rfl, rfl, Lib.hid rfl, World.ownsRow_made w #[] 0 (Nat.le_refl _) (by decide) rfl, (Below.refl _ _).alloc (Nat.le_refl _) _⟩
  case round =>
    obtain ⟨k, A', m, c', hk, rfl, rfl, HM, hown, hbel⟩ := hrel
    have hm : m ≤ 64 := by have := HM.out; have := HS.out k; omega
    by_cases hlt : k < n
    · have hlt' : decide ((k : Int) < (n : Int)) = true := decide_eq_true (by omega)
      obtain ⟨b, off, z, rfl, hb, hz, c0, c1⟩ := (h.below hbel).atbn hlt
      have HT := Lib.hid (roomN_step hz)
      have hbs := hbel.size
      have hr := Row.of_own_any hown
      clear hz h hown
      go_wp2_with fail
      go_at_call 65; refine (l00Put_any _ _ _ _ z.id _ hr (by omega)).mono ?_; rintro e w2 ⟨A2, m2, c2, rfl, ho2, hb2⟩
      have hbel2 := hbel.trans (hb2.mono hbs)
      have ho3 := World.ownsRow.mono ho2 hbs
      have HM2 := Lib.hid (show (foldP (roomN (xs.take (k + 1))) []).length = m2 by rw [HT.out]; simpa using ho2.1)
      clear hbel hb2 ho2 hr
      go_wp2
      go_roundw
      case rel => exact ⟨k + 1, A2, m2, c2, by omega, by go_num, rfl, HM2, by rw [HT.out]; exact ho3, hbel2⟩
      case measure => simp [intOf]; omega
    · have hlt' : decide ((k : Int) < (n : Int)) = false := decide_eq_false (by omega)
      have hkn : k = n := by omega
      subst hkn
      rw [List.take_of_length_le (by have := HL.out; omega), ← setL_fold] at hown
      have HO := Lib.hid hown
      clear hown
      go_wp2
      go_ret
      exact ⟨_, _, _, rfl, HO.out, hbel⟩
set_option maxHeartbeats 800000 in
theorem spec_RoomsIn_any (A : Option Addr) (n c : Nat) (xs : List Bn) (w : World) (h : SRow 2 bnC w w.heap.size A n xs) (hn : n ≤ 1048576) :
    Calls Try.prog 26 #[.slice A n c] w fun e w' => IntsOut (parsB xs) (roomsL xs) w e w' := by
  have HL := Lib.hid h.1
  go_enter Try.func26, Try.ntmps26
  go_wp2_with fail
  cases tb : parsB xs with
  | false =>
    go_at_call 51; refine (l04Parcels_b _ _ _ _ _ _ _ h (Nat.le_refl _) hn tb).mono ?_; rintro e w1 ⟨rfl, hb1⟩
    go_wp2
    all_goals exact bodyPost_ret (v := .tuple #[.slice none 0 0, .bool false]) (by simp [results, Try.results26, go_sem]) rfl (by rw [tb]; exact ⟨none, 0, 0, [], rfl, (rooms_no tb).symm, World.ownsRow_nil _ _ _ _, hb1⟩)
  | true =>
    have HB := Lib.hid tb
    have hl := pars_len tb
    go_at_call 51; refine (l04Parcels_b _ _ _ _ _ _ _ h (Nat.le_refl _) hn tb).mono ?_; rintro e w1 ⟨rfl, hb1⟩
    have h := h.to hb1
    have hW := hb1.size
    clear tb
    go_wp2_with fail
    go_at_call 52; refine (l04Rooms_any _ _ _ _ _ h (by have := HL.out; omega)).mono ?_; rintro e w2 ⟨A2, m2, c2, rfl, ho2, hb2⟩
    go_wp2
    refine bodyPost_ret (v := .tuple #[.slice A2 m2 c2, .bool true]) (by simp [results, Try.results26, go_sem]) rfl ?_
    exact ⟨_, _, _, _, by rw [HB.out], (rooms_yes HB.out).symm, World.ownsRow.mono ho2 hW, hb1.trans (hb2.mono hW)⟩
end Go.Proofs.Ytmnmmjobplbflaa
