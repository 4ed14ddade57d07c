import Derived.Test.YtmnmmjobplbflaaGreatDoorChecked
import Derived.WalkKit
import Derived.ProofKit
import Derived.OpenShut
import Derived.ShutString
import Derived.ChangeOld
import Derived.Below
import Derived.Lib.Hide
import Derived.Deep.Onto
import Derived.Lib.SmallJoins
import Derived.Test.YtmnmmjobplbflaaGreatDoorZSoundC
namespace Go.Proofs.YtmnmmjobplbflaaGreatDoor
open Go.ChangeShapes Go.WideShapes Go.ChangeAt Go.RowKit
open Go.ChangeMaps (open_string shut_string)
set_option linter.unusedVariables false
set_option maxRecDepth 100000
theorem all_at {α : Type} {f : α → Bool} {xs : List α} {k : Nat} (h : ∀ z ∈ xs.take k, f z = true) (hk : xs.length ≤ k) : xs.all f = true := by
  rw [List.take_of_length_le hk] at h
  exact List.all_eq_true.2 h
theorem all_bad {α : Type} {f : α → Bool} {xs : List α} {k : Nat} {z : α} (hz : xs[k]? = some z) (h : f z = false) : xs.all f = false := by
  rw [← Bool.not_eq_true]; intro H
  have := List.all_eq_true.1 H z (List.mem_of_getElem? hz)
  rw [h] at this; cases this
theorem all_succ {α : Type} {f : α → Bool} {xs : List α} {k : Nat} {z : α} (h : ∀ z ∈ xs.take k, f z = true) (hz : xs[k]? = some z) (hf : f z = true) : ∀ z ∈ xs.take (k + 1), f z = true := by
  intro u hu
  rw [take_some hz, List.mem_append] at hu
  rcases hu with hu | hu
  · exact h u hu
  · simp at hu; subst hu; exact hf
theorem cell_new1 (w : World) (t : TypeId) (v : Value) : ∀ (j : Nat) (u : Value), [v][j]? = some u → (w.alloc (.cells #[v] t)).cell? ((⟨w.heap.size, 0, none⟩ : Addr).add j) = some u := by
  intro j u hu
  have hj : j = 0 := by have := (List.getElem?_eq_some_iff.1 hu).1; simp at this; omega
  subst hj
  simp at hu; subst hu
  have := (Blk.new w t #[v]).cell 0
  first | exact this | simpa [Addr.add] using this
theorem MemberKey_any (z : Mb) (w : World) : Calls Tryz.prog 184 #[.agg #[.int .i64 z.id, .int .i64 z.role, .int .i64 z.since, .int .i64 z.quiet]] w fun e w' => e = .returned (.int .i64 z.id) ∧ Below w.heap.size w w' := by
  go_enter Tryz.func184, Tryz.ntmps184
  go_wp2
  go_ret
  exact ⟨rfl, (Below.refl _ _).alloc (Nat.le_refl _) _⟩
theorem mids_take {xs : List Mb} {k : Nat} {z : Mb} (hz : xs[k]? = some z) : (mids (xs.take (k + 1))).map i64v = (mids (xs.take k)).map i64v ++ [.int .i64 z.id] := by
  simp [mids, take_some hz]
set_option maxHeartbeats 800000 in
theorem idsOfM_any (A : Option Addr) (n c : Nat) (xs : List Mb) (w : World) (h : SRow 4 mbC w w.heap.size A n xs) (hn : n ≤ 1048576) :
    Calls Tryz.prog 38 #[.slice A n c] w fun e w' => ∃ g c', e = .returned (.slice (some ⟨g, 0, none⟩) n c') ∧ w'.ownsRow w.heap.size 2 1 (.slice (some ⟨g, 0, none⟩) n c') n ((mids xs).map i64v) ∧ Below w.heap.size w w' := by
  obtain ⟨i0, hi, hz0, hz1, hz2⟩ := info_parts Tryz.info_i64
  have HL := Lib.hid h.1
  go_enter Tryz.func38, Tryz.ntmps38
  go_wp2_with (at_make; refine wpList_make_own _ rfl _ _ 42 rfl w.heap.size 2 i0 (.int .i64 0) 1 Tryz.underlying42 hi hz0 hz1 _ _ _ n rfl rfl (by omega) (by rw [hz2]; omega) (by unfold maxLen; omega) (Nat.le_refl _) ?_; intro w0 hown0 hgrow0)
  have hbel0 : Below w.heap.size w w0 := (Below.refl _ _).grown hgrow0 (Nat.le_refl _) (by simp)
  clear hgrow0
  go_loopw [3, 11] (fun v i wr => ∃ k g cc : Nat, k ≤ n ∧ i = .int .i64 k ∧ v = .slice (some ⟨g, 0, none⟩) k cc ∧ wr.ownsRow w.heap.size 2 1 (.slice (some ⟨g, 0, none⟩) k cc) k ((mids (xs.take k)).map i64v) ∧ Below w.heap.size w wr) (fun _ i _ => n - (intOf i).toNat)
  case atStart => exact ⟨0, _, _, by omega, rfl, rfl, hown0, hbel0⟩
  case round =>
    obtain ⟨k, g, cc, hk, rfl, rfl, hown, hbel⟩ := hrel
    clear hown0 hbel0
    by_cases hlt : k < n
    · obtain ⟨b, off, z, rfl, hb, hz, c0, c1, c2, c3⟩ := h.atm hlt
      have HT := Lib.hid (mids_take hz)
      clear hz
      have d0 := (hbel.cell (p := ⟨b, off + k * 4, none⟩) hb).trans c0
      have d1 := (hbel.cell (p := ⟨b, off + k * 4 + 1, none⟩) hb).trans c1
      have d2 := (hbel.cell (p := ⟨b, off + k * 4 + 2, none⟩) hb).trans c2
      have d3 := (hbel.cell (p := ⟨b, off + k * 4 + 3, none⟩) hb).trans c3
      have hbs := hbel.size
      clear c0 c1 c2 c3 h
      have hm : ∀ w : World, (method 351 66 (.agg #[.int .i64 z.id, .int .i64 z.role, .int .i64 z.since, .int .i64 z.quiet]) "loop.example/g01202/impl.key").run Tryz.prog w = .ok (184, .agg #[.int .i64 z.id, .int .i64 z.role, .int .i64 z.since, .int .i64 z.quiet]) w := fun _ => by kernel_rfl
      go_wp2_with fail
      have ha := (Below.refl wr.heap.size wr).alloc (Nat.le_refl _) (.cells #[.int .i64 z.id, .int .i64 z.role, .int .i64 z.since, .int .i64 z.quiet] 66)
      have hs := ha.size
      generalize wr.alloc (.cells #[.int .i64 z.id, .int .i64 z.role, .int .i64 z.since, .int .i64 z.quiet] 66) = wa at *
      go_at_call 184; refine (MemberKey_any z _).mono ?_; rintro e w2 ⟨rfl, hb2⟩
      have hb2 := ha.trans (hb2.mono hs)
      have hown2 := own_below hown hb2 (Nat.le_refl _)
      have hbel2 := hbel.trans (hb2.mono hbs)
      have hbs2 := hbel2.size
      clear hb2 hown hbel ha
      go_wp2_with (at_builtin; refine wpList_append_own _ rfl _ _ 42 rfl w.heap.size 2 i0 (.int .i64 0) 1 8 Tryz.underlying42 hi hz0 hz1 hz2 rfl (by decide) _ _ _ rfl (hown2.alloc _) ⟨w2.heap.size, 0, none⟩ 1 1 [.int .i64 z.id] rfl rfl (cell_new1 _ _ _) (by intro u hu; simp at hu; subst hu; rfl) (by unfold maxLen; omega) (by omega) (by simp; omega) ?_; intro v' w5 hown' hgrow _)
      have hbel' : Below w.heap.size w w5 := (hbel2.alloc hbs2 _).grown hgrow (by simp; omega) (fun g hg => (hown2.lt g hg).1)
      obtain ⟨g5, c5, rfl⟩ := Go.Joins.ownsRow_form hown' (by omega)
      clear hgrow hown2 hbel2
      go_roundw
      case rel => exact ⟨k + 1, g5, c5, by omega, by go_num, rfl, by rw [HT.out]; exact hown', hbel'⟩
      case measure => simp [intOf]; omega
    · have hkn : k = n := by omega
      subst hkn
      rw [List.take_of_length_le (by have := HL.out; omega)] at hown
      go_wp2
      go_ret
      exact ⟨g, cc, rfl, hown, hbel⟩
set_option maxHeartbeats 800000 in
theorem areM_any (A : Option Addr) (n c : Nat) (xs : List Mb) (w : World) (h : SRow 4 mbC w w.heap.size A n xs) (hn : n ≤ 1048576) :
    Calls Tryz.prog 34 #[.slice A n c] w fun e w' => e = .returned (.bool (xs.all mbB && memB (mids xs))) ∧ Below w.heap.size w w' := by
  have HL := Lib.hid h.1
  go_enter Tryz.func34, Tryz.ntmps34
  go_wp2
  go_loopw [7] (fun i wr => ∃ k : Nat, k ≤ n ∧ i = .int .i64 k ∧ Hid (∀ z ∈ xs.take k, mbB z = true) ∧ Below w.heap.size w wr) (fun i _ => n - (intOf i).toNat)
  case atStart => exact ⟨0, by omega, rfl, Lib.hid (fun z hz => by simp at hz), Below.refl _ _⟩
  case round =>
    obtain ⟨k, hk, rfl, HA, hbel⟩ := hrel
    have hbs := hbel.size
    by_cases hlt : k < n
    · obtain ⟨b, off, z, rfl, hb, hz, c0, c1, c2, c3⟩ := h.atm hlt
      have HZ := Lib.hid hz
      clear hz
      have d0 := (hbel.cell (p := ⟨b, off + k * 4, none⟩) hb).trans c0
      have d1 := (hbel.cell (p := ⟨b, off + k * 4 + 1, none⟩) hb).trans c1
      have d2 := (hbel.cell (p := ⟨b, off + k * 4 + 2, none⟩) hb).trans c2
      have d3 := (hbel.cell (p := ⟨b, off + k * 4 + 3, none⟩) hb).trans c3
      clear c0 c1 c2 c3 h
      cases hok : mbB z with
      | false =>
        have HF := Lib.hid (all_bad HZ.out hok)
        have hm : ∀ w : World, (method 351 66 (.agg #[.int .i64 z.id, .int .i64 z.role, .int .i64 z.since, .int .i64 z.quiet]) "loop.example/g01202/impl.isSound").run Tryz.prog w = .ok (183, .agg #[.int .i64 z.id, .int .i64 z.role, .int .i64 z.since, .int .i64 z.quiet]) w := fun _ => by kernel_rfl
        go_wp2_with fail
        have ha := (Below.refl wr.heap.size wr).alloc (Nat.le_refl _) (.cells #[.int .i64 z.id, .int .i64 z.role, .int .i64 z.since, .int .i64 z.quiet] 66)
        have hs := ha.size
        generalize wr.alloc (.cells #[.int .i64 z.id, .int .i64 z.role, .int .i64 z.since, .int .i64 z.quiet] 66) = wa at *
        go_at_call 183; refine (MemberSound_b z false _ hok).mono ?_; rintro e w2 ⟨rfl, hb2⟩
        have hb2 := hbel.trans ((ha.trans (hb2.mono hs)).mono hbs)
        clear hbel ha
        go_wp2
        go_ret
        exact ⟨ret_bool (by rw [HF.out]; rfl), hb2⟩
      | true =>
        have HN := Lib.hid (all_succ HA.out HZ.out hok)
        have hm : ∀ w : World, (method 351 66 (.agg #[.int .i64 z.id, .int .i64 z.role, .int .i64 z.since, .int .i64 z.quiet]) "loop.example/g01202/impl.isSound").run Tryz.prog w = .ok (183, .agg #[.int .i64 z.id, .int .i64 z.role, .int .i64 z.since, .int .i64 z.quiet]) w := fun _ => by kernel_rfl
        go_wp2_with fail
        have ha := (Below.refl wr.heap.size wr).alloc (Nat.le_refl _) (.cells #[.int .i64 z.id, .int .i64 z.role, .int .i64 z.since, .int .i64 z.quiet] 66)
        have hs := ha.size
        generalize wr.alloc (.cells #[.int .i64 z.id, .int .i64 z.role, .int .i64 z.since, .int .i64 z.quiet] 66) = wa at *
        go_at_call 183; refine (MemberSound_b z true _ hok).mono ?_; rintro e w2 ⟨rfl, hb2⟩
        have hb2 := hbel.trans ((ha.trans (hb2.mono hs)).mono hbs)
        clear hbel ha
        go_wp2
        go_roundw
        case rel => exact ⟨k + 1, by omega, by go_num, HN, hb2⟩
        case measure => simp [intOf]; omega
    · have HE := Lib.hid (all_at HA.out (by have := HL.out; omega))
      have hr := (h.below hbel).more hbs
      clear h
      go_wp2_with fail
      go_at_call 38; refine (idsOfM_any _ _ _ _ _ hr hn).mono ?_; rintro e w3 ⟨g3, c3, rfl, ho3, hb3⟩
      have hb3 := hbel.trans (hb3.mono hbs)
      clear hbel hr
      go_wp2_with fail
      go_at_call 84; refine (impl_IsMembers_any _ _ _ _ _ _ (Row.of_own ho3) (by omega)).mono ?_; rintro e w4 ⟨rfl, rfl⟩
      go_wp2
      go_ret
      exact ⟨ret_bool (by rw [HE.out]; rfl), hb3⟩
theorem InviteKey_any (z : Iv) (w : World) : Calls Tryz.prog 180 #[.agg #[.int .i64 z.id, .int .i64 z.byy, .int .i64 z.til]] w fun e w' => e = .returned (.int .i64 z.id) ∧ Below w.heap.size w w' := by
  go_enter Tryz.func180, Tryz.ntmps180
  go_wp2
  go_ret
  exact ⟨rfl, (Below.refl _ _).alloc (Nat.le_refl _) _⟩
theorem iids_take {xs : List Iv} {k : Nat} {z : Iv} (hz : xs[k]? = some z) : (iids (xs.take (k + 1))).map i64v = (iids (xs.take k)).map i64v ++ [.int .i64 z.id] := by
  simp [iids, take_some hz]
set_option maxHeartbeats 800000 in
theorem idsOfI_any (A : Option Addr) (n c : Nat) (xs : List Iv) (w : World) (h : SRow 3 ivC w w.heap.size A n xs) (hn : n ≤ 1048576) :
    Calls Tryz.prog 39 #[.slice A n c] w fun e w' => ∃ g c', e = .returned (.slice (some ⟨g, 0, none⟩) n c') ∧ w'.ownsRow w.heap.size 2 1 (.slice (some ⟨g, 0, none⟩) n c') n ((iids xs).map i64v) ∧ Below w.heap.size w w' := by
  obtain ⟨i0, hi, hz0, hz1, hz2⟩ := info_parts Tryz.info_i64
  have HL := Lib.hid h.1
  go_enter Tryz.func39, Tryz.ntmps39
  go_wp2_with (at_make; refine wpList_make_own _ rfl _ _ 42 rfl w.heap.size 2 i0 (.int .i64 0) 1 Tryz.underlying42 hi hz0 hz1 _ _ _ n rfl rfl (by omega) (by rw [hz2]; omega) (by unfold maxLen; omega) (Nat.le_refl _) ?_; intro w0 hown0 hgrow0)
  have hbel0 : Below w.heap.size w w0 := (Below.refl _ _).grown hgrow0 (Nat.le_refl _) (by simp)
  clear hgrow0
  go_loopw [3, 11] (fun v i wr => ∃ k g cc : Nat, k ≤ n ∧ i = .int .i64 k ∧ v = .slice (some ⟨g, 0, none⟩) k cc ∧ wr.ownsRow w.heap.size 2 1 (.slice (some ⟨g, 0, none⟩) k cc) k ((iids (xs.take k)).map i64v) ∧ Below w.heap.size w wr) (fun _ i _ => n - (intOf i).toNat)
  case atStart => exact ⟨0, _, _, by omega, rfl, rfl, hown0, hbel0⟩
  case round =>
    obtain ⟨k, g, cc, hk, rfl, rfl, hown, hbel⟩ := hrel
    clear hown0 hbel0
    by_cases hlt : k < n
    · obtain ⟨b, off, z, rfl, hb, hz, c0, c1, c2⟩ := h.ativ hlt
      have HT := Lib.hid (iids_take hz)
      clear hz
      have d0 := (hbel.cell (p := ⟨b, off + k * 3, none⟩) hb).trans c0
      have d1 := (hbel.cell (p := ⟨b, off + k * 3 + 1, none⟩) hb).trans c1
      have d2 := (hbel.cell (p := ⟨b, off + k * 3 + 2, none⟩) hb).trans c2
      have hbs := hbel.size
      clear c0 c1 c2 h
      have hm : ∀ w : World, (method 351 36 (.agg #[.int .i64 z.id, .int .i64 z.byy, .int .i64 z.til]) "loop.example/g01202/impl.key").run Tryz.prog w = .ok (180, .agg #[.int .i64 z.id, .int .i64 z.byy, .int .i64 z.til]) w := fun _ => by kernel_rfl
      go_wp2_with fail
      have ha := (Below.refl wr.heap.size wr).alloc (Nat.le_refl _) (.cells #[.int .i64 z.id, .int .i64 z.byy, .int .i64 z.til] 36)
      have hs := ha.size
      generalize wr.alloc (.cells #[.int .i64 z.id, .int .i64 z.byy, .int .i64 z.til] 36) = wa at *
      go_at_call 180; refine (InviteKey_any z _).mono ?_; rintro e w2 ⟨rfl, hb2⟩
      have hb2 := ha.trans (hb2.mono hs)
      have hown2 := own_below hown hb2 (Nat.le_refl _)
      have hbel2 := hbel.trans (hb2.mono hbs)
      have hbs2 := hbel2.size
      clear hb2 hown hbel ha
      go_wp2_with (at_builtin; refine wpList_append_own _ rfl _ _ 42 rfl w.heap.size 2 i0 (.int .i64 0) 1 8 Tryz.underlying42 hi hz0 hz1 hz2 rfl (by decide) _ _ _ rfl (hown2.alloc _) ⟨w2.heap.size, 0, none⟩ 1 1 [.int .i64 z.id] rfl rfl (cell_new1 _ _ _) (by intro u hu; simp at hu; subst hu; rfl) (by unfold maxLen; omega) (by omega) (by simp; omega) ?_; intro v' w5 hown' hgrow _)
      have hbel' : Below w.heap.size w w5 := (hbel2.alloc hbs2 _).grown hgrow (by simp; omega) (fun g hg => (hown2.lt g hg).1)
      obtain ⟨g5, c5, rfl⟩ := Go.Joins.ownsRow_form hown' (by omega)
      clear hgrow hown2 hbel2
      go_roundw
      case rel => exact ⟨k + 1, g5, c5, by omega, by go_num, rfl, by rw [HT.out]; exact hown', hbel'⟩
      case measure => simp [intOf]; omega
    · have hkn : k = n := by omega
      subst hkn
      rw [List.take_of_length_le (by have := HL.out; omega)] at hown
      go_wp2
      go_ret
      exact ⟨g, cc, rfl, hown, hbel⟩
set_option maxHeartbeats 800000 in
theorem areI_any (A : Option Addr) (n c : Nat) (xs : List Iv) (w : World) (h : SRow 3 ivC w w.heap.size A n xs) (hn : n ≤ 1048576) :
    Calls Tryz.prog 35 #[.slice A n c] w fun e w' => e = .returned (.bool (xs.all ivB && memB (iids xs))) ∧ Below w.heap.size w w' := by
  have HL := Lib.hid h.1
  go_enter Tryz.func35, Tryz.ntmps35
  go_wp2
  go_loopw [7] (fun i wr => ∃ k : Nat, k ≤ n ∧ i = .int .i64 k ∧ Hid (∀ z ∈ xs.take k, ivB z = true) ∧ Below w.heap.size w wr) (fun i _ => n - (intOf i).toNat)
  case atStart => exact ⟨0, by omega, rfl, Lib.hid (fun z hz => by simp at hz), Below.refl _ _⟩
  case round =>
    obtain ⟨k, hk, rfl, HA, hbel⟩ := hrel
    have hbs := hbel.size
    by_cases hlt : k < n
    · obtain ⟨b, off, z, rfl, hb, hz, c0, c1, c2⟩ := h.ativ hlt
      have HZ := Lib.hid hz
      clear hz
      have d0 := (hbel.cell (p := ⟨b, off + k * 3, none⟩) hb).trans c0
      have d1 := (hbel.cell (p := ⟨b, off + k * 3 + 1, none⟩) hb).trans c1
      have d2 := (hbel.cell (p := ⟨b, off + k * 3 + 2, none⟩) hb).trans c2
      clear c0 c1 c2 h
      cases hok : ivB z with
      | false =>
        have HF := Lib.hid (all_bad HZ.out hok)
        have hm : ∀ w : World, (method 351 36 (.agg #[.int .i64 z.id, .int .i64 z.byy, .int .i64 z.til]) "loop.example/g01202/impl.isSound").run Tryz.prog w = .ok (179, .agg #[.int .i64 z.id, .int .i64 z.byy, .int .i64 z.til]) w := fun _ => by kernel_rfl
        go_wp2_with fail
        have ha := (Below.refl wr.heap.size wr).alloc (Nat.le_refl _) (.cells #[.int .i64 z.id, .int .i64 z.byy, .int .i64 z.til] 36)
        have hs := ha.size
        generalize wr.alloc (.cells #[.int .i64 z.id, .int .i64 z.byy, .int .i64 z.til] 36) = wa at *
        go_at_call 179; refine (InviteSound_b z false _ hok).mono ?_; rintro e w2 ⟨rfl, hb2⟩
        have hb2 := hbel.trans ((ha.trans (hb2.mono hs)).mono hbs)
        clear hbel ha
        go_wp2
        go_ret
        exact ⟨ret_bool (by rw [HF.out]; rfl), hb2⟩
      | true =>
        have HN := Lib.hid (all_succ HA.out HZ.out hok)
        have hm : ∀ w : World, (method 351 36 (.agg #[.int .i64 z.id, .int .i64 z.byy, .int .i64 z.til]) "loop.example/g01202/impl.isSound").run Tryz.prog w = .ok (179, .agg #[.int .i64 z.id, .int .i64 z.byy, .int .i64 z.til]) w := fun _ => by kernel_rfl
        go_wp2_with fail
        have ha := (Below.refl wr.heap.size wr).alloc (Nat.le_refl _) (.cells #[.int .i64 z.id, .int .i64 z.byy, .int .i64 z.til] 36)
        have hs := ha.size
        generalize wr.alloc (.cells #[.int .i64 z.id, .int .i64 z.byy, .int .i64 z.til] 36) = wa at *
        go_at_call 179; refine (InviteSound_b z true _ hok).mono ?_; rintro e w2 ⟨rfl, hb2⟩
        have hb2 := hbel.trans ((ha.trans (hb2.mono hs)).mono hbs)
        clear hbel ha
        go_wp2
        go_roundw
        case rel => exact ⟨k + 1, by omega, by go_num, HN, hb2⟩
        case measure => simp [intOf]; omega
    · have HE := Lib.hid (all_at HA.out (by have := HL.out; omega))
      have hr := (h.below hbel).more hbs
      clear h
      go_wp2_with fail
      go_at_call 39; refine (idsOfI_any _ _ _ _ _ hr hn).mono ?_; rintro e w3 ⟨g3, c3, rfl, ho3, hb3⟩
      have hb3 := hbel.trans (hb3.mono hbs)
      clear hbel hr
      go_wp2_with fail
      go_at_call 84; refine (impl_IsMembers_any _ _ _ _ _ _ (Row.of_own ho3) (by omega)).mono ?_; rintro e w4 ⟨rfl, rfl⟩
      go_wp2
      go_ret
      exact ⟨ret_bool (by rw [HE.out]; rfl), hb3⟩
theorem BanKey_any (z : Bn) (w : World) : Calls Tryz.prog 182 #[.agg #[.int .i64 z.id, .int .i64 z.til]] w fun e w' => e = .returned (.int .i64 z.id) ∧ Below w.heap.size w w' := by
  go_enter Tryz.func182, Tryz.ntmps182
  go_wp2
  go_ret
  exact ⟨rfl, (Below.refl _ _).alloc (Nat.le_refl _) _⟩
theorem bids_take {xs : List Bn} {k : Nat} {z : Bn} (hz : xs[k]? = some z) : (bids (xs.take (k + 1))).map i64v = (bids (xs.take k)).map i64v ++ [.int .i64 z.id] := by
  simp [bids, take_some hz]
set_option maxHeartbeats 800000 in
theorem idsOfB_any (A : Option Addr) (n c : Nat) (xs : List Bn) (w : World) (h : SRow 2 bnC w w.heap.size A n xs) (hn : n ≤ 1048576) :
    Calls Tryz.prog 40 #[.slice A n c] w fun e w' => ∃ g c', e = .returned (.slice (some ⟨g, 0, none⟩) n c') ∧ w'.ownsRow w.heap.size 2 1 (.slice (some ⟨g, 0, none⟩) n c') n ((bids xs).map i64v) ∧ Below w.heap.size w w' := by
  obtain ⟨i0, hi, hz0, hz1, hz2⟩ := info_parts Tryz.info_i64
  have HL := Lib.hid h.1
  go_enter Tryz.func40, Tryz.ntmps40
  go_wp2_with (at_make; refine wpList_make_own _ rfl _ _ 42 rfl w.heap.size 2 i0 (.int .i64 0) 1 Tryz.underlying42 hi hz0 hz1 _ _ _ n rfl rfl (by omega) (by rw [hz2]; omega) (by unfold maxLen; omega) (Nat.le_refl _) ?_; intro w0 hown0 hgrow0)
  have hbel0 : Below w.heap.size w w0 := (Below.refl _ _).grown hgrow0 (Nat.le_refl _) (by simp)
  clear hgrow0
  go_loopw [3, 11] (fun v i wr => ∃ k g cc : Nat, k ≤ n ∧ i = .int .i64 k ∧ v = .slice (some ⟨g, 0, none⟩) k cc ∧ wr.ownsRow w.heap.size 2 1 (.slice (some ⟨g, 0, none⟩) k cc) k ((bids (xs.take k)).map i64v) ∧ Below w.heap.size w wr) (fun _ i _ => n - (intOf i).toNat)
  case atStart => exact ⟨0, _, _, by omega, rfl, rfl, hown0, hbel0⟩
  case round =>
    obtain ⟨k, g, cc, hk, rfl, rfl, hown, hbel⟩ := hrel
    clear hown0 hbel0
    by_cases hlt : k < n
    · obtain ⟨b, off, z, rfl, hb, hz, c0, c1⟩ := h.atbn hlt
      have HT := Lib.hid (bids_take hz)
      clear hz
      have d0 := (hbel.cell (p := ⟨b, off + k * 2, none⟩) hb).trans c0
      have d1 := (hbel.cell (p := ⟨b, off + k * 2 + 1, none⟩) hb).trans c1
      have hbs := hbel.size
      clear c0 c1 h
      have hm : ∀ w : World, (method 351 38 (.agg #[.int .i64 z.id, .int .i64 z.til]) "loop.example/g01202/impl.key").run Tryz.prog w = .ok (182, .agg #[.int .i64 z.id, .int .i64 z.til]) w := fun _ => by kernel_rfl
      go_wp2_with fail
      have ha := (Below.refl wr.heap.size wr).alloc (Nat.le_refl _) (.cells #[.int .i64 z.id, .int .i64 z.til] 38)
      have hs := ha.size
      generalize wr.alloc (.cells #[.int .i64 z.id, .int .i64 z.til] 38) = wa at *
      go_at_call 182; refine (BanKey_any z _).mono ?_; rintro e w2 ⟨rfl, hb2⟩
      have hb2 := ha.trans (hb2.mono hs)
      have hown2 := own_below hown hb2 (Nat.le_refl _)
      have hbel2 := hbel.trans (hb2.mono hbs)
      have hbs2 := hbel2.size
      clear hb2 hown hbel ha
      go_wp2_with (at_builtin; refine wpList_append_own _ rfl _ _ 42 rfl w.heap.size 2 i0 (.int .i64 0) 1 8 Tryz.underlying42 hi hz0 hz1 hz2 rfl (by decide) _ _ _ rfl (hown2.alloc _) ⟨w2.heap.size, 0, none⟩ 1 1 [.int .i64 z.id] rfl rfl (cell_new1 _ _ _) (by intro u hu; simp at hu; subst hu; rfl) (by unfold maxLen; omega) (by omega) (by simp; omega) ?_; intro v' w5 hown' hgrow _)
      have hbel' : Below w.heap.size w w5 := (hbel2.alloc hbs2 _).grown hgrow (by simp; omega) (fun g hg => (hown2.lt g hg).1)
      obtain ⟨g5, c5, rfl⟩ := Go.Joins.ownsRow_form hown' (by omega)
      clear hgrow hown2 hbel2
      go_roundw
      case rel => exact ⟨k + 1, g5, c5, by omega, by go_num, rfl, by rw [HT.out]; exact hown', hbel'⟩
      case measure => simp [intOf]; omega
    · have hkn : k = n := by omega
      subst hkn
      rw [List.take_of_length_le (by have := HL.out; omega)] at hown
      go_wp2
      go_ret
      exact ⟨g, cc, rfl, hown, hbel⟩
set_option maxHeartbeats 800000 in
theorem areB_any (A : Option Addr) (n c : Nat) (xs : List Bn) (w : World) (h : SRow 2 bnC w w.heap.size A n xs) (hn : n ≤ 1048576) :
    Calls Tryz.prog 36 #[.slice A n c] w fun e w' => e = .returned (.bool (xs.all bnB && memB (bids xs))) ∧ Below w.heap.size w w' := by
  have HL := Lib.hid h.1
  go_enter Tryz.func36, Tryz.ntmps36
  go_wp2
  go_loopw [7] (fun i wr => ∃ k : Nat, k ≤ n ∧ i = .int .i64 k ∧ Hid (∀ z ∈ xs.take k, bnB z = true) ∧ Below w.heap.size w wr) (fun i _ => n - (intOf i).toNat)
  case atStart => exact ⟨0, by omega, rfl, Lib.hid (fun z hz => by simp at hz), Below.refl _ _⟩
  case round =>
    obtain ⟨k, hk, rfl, HA, hbel⟩ := hrel
    have hbs := hbel.size
    by_cases hlt : k < n
    · obtain ⟨b, off, z, rfl, hb, hz, c0, c1⟩ := h.atbn hlt
      have HZ := Lib.hid hz
      clear hz
      have d0 := (hbel.cell (p := ⟨b, off + k * 2, none⟩) hb).trans c0
      have d1 := (hbel.cell (p := ⟨b, off + k * 2 + 1, none⟩) hb).trans c1
      clear c0 c1 h
      cases hok : bnB z with
      | false =>
        have HF := Lib.hid (all_bad HZ.out hok)
        have hm : ∀ w : World, (method 351 38 (.agg #[.int .i64 z.id, .int .i64 z.til]) "loop.example/g01202/impl.isSound").run Tryz.prog w = .ok (181, .agg #[.int .i64 z.id, .int .i64 z.til]) w := fun _ => by kernel_rfl
        go_wp2_with fail
        have ha := (Below.refl wr.heap.size wr).alloc (Nat.le_refl _) (.cells #[.int .i64 z.id, .int .i64 z.til] 38)
        have hs := ha.size
        generalize wr.alloc (.cells #[.int .i64 z.id, .int .i64 z.til] 38) = wa at *
        go_at_call 181; refine (BanSound_b z false _ hok).mono ?_; rintro e w2 ⟨rfl, hb2⟩
        have hb2 := hbel.trans ((ha.trans (hb2.mono hs)).mono hbs)
        clear hbel ha
        go_wp2
        go_ret
        exact ⟨ret_bool (by rw [HF.out]; rfl), hb2⟩
      | true =>
        have HN := Lib.hid (all_succ HA.out HZ.out hok)
        have hm : ∀ w : World, (method 351 38 (.agg #[.int .i64 z.id, .int .i64 z.til]) "loop.example/g01202/impl.isSound").run Tryz.prog w = .ok (181, .agg #[.int .i64 z.id, .int .i64 z.til]) w := fun _ => by kernel_rfl
        go_wp2_with fail
        have ha := (Below.refl wr.heap.size wr).alloc (Nat.le_refl _) (.cells #[.int .i64 z.id, .int .i64 z.til] 38)
        have hs := ha.size
        generalize wr.alloc (.cells #[.int .i64 z.id, .int .i64 z.til] 38) = wa at *
        go_at_call 181; refine (BanSound_b z true _ hok).mono ?_; rintro e w2 ⟨rfl, hb2⟩
        have hb2 := hbel.trans ((ha.trans (hb2.mono hs)).mono hbs)
        clear hbel ha
        go_wp2
        go_roundw
        case rel => exact ⟨k + 1, by omega, by go_num, HN, hb2⟩
        case measure => simp [intOf]; omega
    · have HE := Lib.hid (all_at HA.out (by have := HL.out; omega))
      have hr := (h.below hbel).more hbs
      clear h
      go_wp2_with fail
      go_at_call 40; refine (idsOfB_any _ _ _ _ _ hr hn).mono ?_; rintro e w3 ⟨g3, c3, rfl, ho3, hb3⟩
      have hb3 := hbel.trans (hb3.mono hbs)
      clear hbel hr
      go_wp2_with fail
      go_at_call 84; refine (impl_IsMembers_any _ _ _ _ _ _ (Row.of_own ho3) (by omega)).mono ?_; rintro e w4 ⟨rfl, rfl⟩
      go_wp2
      go_ret
      exact ⟨ret_bool (by rw [HE.out]; rfl), hb3⟩
end Go.Proofs.YtmnmmjobplbflaaGreatDoor
