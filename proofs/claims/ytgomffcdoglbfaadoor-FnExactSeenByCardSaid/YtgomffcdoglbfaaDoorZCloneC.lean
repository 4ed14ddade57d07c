import Derived.Test.YtgomffcdoglbfaaDoorChecked
import Derived.WalkKit
import Derived.ProofKit
import Derived.OpenShut
import Derived.ShutString
import Derived.ChangeOld
import Derived.Below
import Derived.Lib.Hide
import Derived.Laws.AppendOwn
import Derived.Test.YtgomffcdoglbfaaDoorZMsgT
namespace Go.Proofs.YtgomffcdoglbfaaDoor
open Go.ChangeShapes Go.WideShapes Go.ChangeAt Go.RowKit
open Go.ChangeMaps (open_string shut_string)
set_option linter.unusedVariables false
set_option maxRecDepth 100000
/-- the cells behind a slice's address, as append takes them -/
theorem row_cells {f : Int → Value} {w : World} {B n : Nat} {a : Addr} {xs : List Int} (h : Row f w B (some a) n xs) : ∀ (j : Nat) (u : Value), (xs.map f)[j]? = some u → w.cell? (a.add j) = some u := by
  intro j u hu
  rw [List.getElem?_map] at hu
  obtain ⟨x, hx, rfl⟩ := Option.map_eq_some_iff.1 hu
  have hj : j < xs.length := (List.getElem?_eq_some_iff.1 hx).1
  obtain ⟨b', off', e, _, hc⟩ := h.2 (by have := h.1; omega)
  injection e with e
  subst e
  have := hc j x hx
  cases j <;> simpa [Addr.add] using this
theorem rms_cells {w : World} {B n : Nat} {a : Addr} {xs : List Rm} (h : SRow 8 rmC w B (some a) n xs) : ∀ (j : Nat) (u : Value), (xs.flatMap rmC)[j]? = some u → w.cell? (a.add j) = some u := by
  intro j u hu
  have hf := rmC_len
  have hsz : 0 < 8 := by decide
  have hj : j < xs.length * 8 := by
    have := (List.getElem?_eq_some_iff.1 hu).1
    rw [flat_len hf] at this
    exact this
  have hd : j / 8 < xs.length := by omega
  have hz : xs[j / 8]? = some xs[j / 8] := List.getElem?_eq_getElem hd
  obtain ⟨b, off, e, hb, hc⟩ := h.2 (by rw [← h.1]; exact Nat.lt_of_le_of_lt (Nat.zero_le _) hd)
  injection e with e
  subst e
  have e2 : j / 8 * 8 + j % 8 = j := Nat.div_add_mod' j 8
  have hg := flat_get hf xs (j / 8) _ hz (j % 8) (Nat.mod_lt _ hsz)
  rw [e2, hu] at hg
  have := hc (j / 8) _ hz (j % 8) u hg.symm
  rw [Nat.add_assoc, e2] at this
  clear hg e2 hz hd hj hu
  cases j <;> simpa [Addr.add] using this
theorem rms_one (xs : List Rm) : ∀ u ∈ xs.flatMap rmC, u.oneCell' = true := by
  intro u hu
  obtain ⟨x, _, hx⟩ := List.mem_flatMap.1 hu
  simp only [rmC, List.mem_cons, List.not_mem_nil, or_false] at hx
  rcases hx with rfl | rfl | rfl | rfl | rfl | rfl | rfl | rfl <;> rfl
theorem i64s_one {xs : List Int} : ∀ u ∈ xs.map i64v, u.oneCell' = true := by
  intro u hu
  obtain ⟨x, _, rfl⟩ := List.mem_map.1 hu
  rfl
set_option maxHeartbeats 1600000 in
theorem cloneI_any (A : Option Addr) (n c : Nat) (xs : List Int) (w : World) (h : Row i64v w w.heap.size A n xs) (hn : n ≤ 1048576) :
    Calls Tryd.prog 41 #[.slice A n c] w fun e w' => ∃ A' c', e = .returned (.slice A' n c') ∧ w'.ownsRow w.heap.size 2 1 (.slice A' n c') n (xs.map i64v) ∧ Below w.heap.size w w' := by
  obtain ⟨i0, hi, hz0, hz1, hz2⟩ := info_parts Tryd.info_i64
  have HL := Lib.hid h.1
  go_enter Tryd.func41, Tryd.ntmps41
  cases A with
  | none =>
    have h0 : n = 0 := by
      rcases Nat.eq_zero_or_pos n with h0 | h0
      · exact h0
      · obtain ⟨b, off, e, _⟩ := h.2 h0
        cases e
    subst h0
    obtain rfl : xs = [] := List.eq_nil_of_length_eq_zero HL.out
    have he : ∀ w : World, (binOp .eql 26 (.slice none 0 c) (.slice none 0 0)).run Tryd.prog w = .ok (.bool true) w := fun _ => rfl
    go_wp2
    all_goals exact bodyPost_ret (v := .slice none 0 0) (by simp [results, Tryd.results41, go_sem]) rfl ⟨none, 0, rfl, World.ownsRow_nil _ _ _ _, Below.refl _ _⟩
  | some ad =>
    have hA := h.alloc (Nat.le_refl _) (.cells #[] 2)
    have HC := Lib.hid (row_cells hA)
    clear hA h
    have he : ∀ w : World, (binOp .eql 26 (.slice (some ad) n c) (.slice none 0 0)).run Tryd.prog w = .ok (.bool false) w := fun _ => rfl
    have ho0 : (w.alloc (.cells #[] 2)).ownsRow w.heap.size 2 1 (.slice (some ⟨w.heap.size, 0, none⟩) 0 0) 0 [] := World.ownsRow_made w #[] 0 (Nat.le_refl _) (by decide) rfl
    have hb0 : w.heap.size ≤ (w.alloc (.cells #[] 2)).heap.size := by simp
    go_wp2_with (at_builtin; refine wpList_append_own _ rfl _ _ 26 rfl w.heap.size 2 i0 (.int .i64 0) 1 8 Tryd.underlying26 hi hz0 hz1 hz2 rfl (by decide) _ _ _ rfl ho0 ad n c (xs.map i64v) rfl (by rw [List.length_map, HL.out, Nat.mul_one]) HC.out i64s_one (by unfold maxLen; omega) (by omega) hb0 ?_; intro v' w5 hown' hgrow _)
    have hb : Below w.heap.size w w5 := ((Below.refl _ _).alloc (Nat.le_refl _) _).grown hgrow (by simp) (fun g hg => by cases hg; exact Nat.le_refl _)
    have ho : w5.ownsRow w.heap.size 2 1 v' n (xs.map i64v) := by simpa using hown'
    clear hgrow hown'
    obtain ⟨A', c', rfl⟩ : ∃ A' c', v' = .slice A' n c' := by
      rcases ho.2 with ⟨hv, h0⟩ | ⟨g, cap, cur, hv, _⟩
      · exact ⟨none, 0, by rw [hv, h0]⟩
      · exact ⟨_, _, hv⟩
    go_wp2
    all_goals exact bodyPost_ret (v := .slice A' n c') (by simp [results, Tryd.results41, go_sem]) rfl ⟨_, _, rfl, ho, hb⟩
set_option maxHeartbeats 1600000 in
theorem cloneM_any (A : Option Addr) (n c : Nat) (xs : List Rm) (w : World) (h : SRow 8 rmC w w.heap.size A n xs) (hn : n ≤ 1048576) :
    Calls Tryd.prog 40 #[.slice A n c] w fun e w' => ∃ A' c', e = .returned (.slice A' n c') ∧ w'.ownsRow w.heap.size 44 8 (.slice A' n c') n (xs.flatMap rmC) ∧ Below w.heap.size w w' := by
  obtain ⟨i0, hi, hz0, hz1, hz2⟩ := info_parts Tryd.info_Message
  have HL := Lib.hid h.1
  go_enter Tryd.func40, Tryd.ntmps40
  cases A with
  | none =>
    have h0 : n = 0 := by
      rcases Nat.eq_zero_or_pos n with h0 | h0
      · exact h0
      · obtain ⟨b, off, e, _⟩ := h.2 h0
        cases e
    subst h0
    obtain rfl : xs = [] := List.eq_nil_of_length_eq_zero HL.out
    have he : ∀ w : World, (binOp .eql 29 (.slice none 0 c) (.slice none 0 0)).run Tryd.prog w = .ok (.bool true) w := fun _ => rfl
    go_wp2
    all_goals exact bodyPost_ret (v := .slice none 0 0) (by simp [results, Tryd.results40, go_sem]) rfl ⟨none, 0, rfl, World.ownsRow_nil _ _ _ _, Below.refl _ _⟩
  | some ad =>
    have hA := h.alloc (Nat.le_refl _) (.cells #[] 44)
    have HC := Lib.hid (rms_cells hA)
    have HFL := Lib.hid (flat_len rmC_len xs)
    clear hA h
    have he : ∀ w : World, (binOp .eql 29 (.slice (some ad) n c) (.slice none 0 0)).run Tryd.prog w = .ok (.bool false) w := fun _ => rfl
    have ho0 : (w.alloc (.cells #[] 44)).ownsRow w.heap.size 44 8 (.slice (some ⟨w.heap.size, 0, none⟩) 0 0) 0 [] := World.ownsRow_made w #[] 0 (Nat.le_refl _) (by decide) rfl
    have hb0 : w.heap.size ≤ (w.alloc (.cells #[] 44)).heap.size := by simp
    go_wp2_with (at_builtin; refine wpList_append_own _ rfl _ _ 29 rfl w.heap.size 44 i0 (.agg #[.int .i64 0, .int .i64 0, .int .i64 0, .string ⟨#[]⟩, .int .i64 0, .bool false, .int .i64 0, .slice none 0 0]) 8 88 Tryd.underlying29 hi hz0 hz1 hz2 rfl (by decide) _ _ _ rfl ho0 ad n c (xs.flatMap rmC) rfl (by rw [HFL.out, HL.out]) HC.out (rms_one xs) (by unfold maxLen; omega) (by omega) hb0 ?_; intro v' w5 hown' hgrow _)
    have hb : Below w.heap.size w w5 := ((Below.refl _ _).alloc (Nat.le_refl _) _).grown hgrow (by simp) (fun g hg => by cases hg; exact Nat.le_refl _)
    have ho : w5.ownsRow w.heap.size 44 8 v' n (xs.flatMap rmC) := by simpa using hown'
    clear hgrow hown'
    obtain ⟨A', c', rfl⟩ : ∃ A' c', v' = .slice A' n c' := by
      rcases ho.2 with ⟨hv, h0⟩ | ⟨g, cap, cur, hv, _⟩
      · exact ⟨none, 0, by rw [hv, h0]⟩
      · exact ⟨_, _, hv⟩
    go_wp2
    all_goals exact bodyPost_ret (v := .slice A' n c') (by simp [results, Tryd.results40, go_sem]) rfl ⟨_, _, rfl, ho, hb⟩
end Go.Proofs.YtgomffcdoglbfaaDoor
