import Derived.Test.YtdpclbmcmgknjaaChecked
import Derived.WalkKit
import Derived.ProofKit
import Derived.OpenShut
import Derived.ShutString
import Derived.ChangeOld
import Derived.Below
import Derived.Lib.Hide
import Derived.Deep.Onto
import Derived.Lib.SmallJoins
import Derived.Test.YtdpclbmcmgknjaaZListedC
import Derived.Test.YtdpclbmcmgknjaaZMsgV
import Derived.Test.YtdpclbmcmgknjaaJp
namespace Go.Proofs.Ytdpclbmcmgknjaa
open Go.ChangeShapes Go.WideShapes Go.ChangeAt Go.RowKit
open Go.ChangeMaps (open_string shut_string)
set_option linter.unusedVariables false
set_option maxRecDepth 100000
theorem MarkSound_b (z : Bn) (b : Bool) (w : World) (h : mkOk z = b) :
    Calls Try.prog 229 #[.agg #[.int .i64 z.id, .int .i64 z.til]] w fun e w' => e = .returned (.bool b) ∧ Below w.heap.size w w' := by
  subst h
  go_enter Try.func229, Try.ntmps229
  go_wp2_with fail
  go_at_call 163; refine (isAmount_b _ _ _ rfl).mono ?_; rintro e w' ⟨rfl, rfl⟩
  go_wp2
  go_ret
  exact ⟨rfl, (Below.refl _ _).alloc (Nat.le_refl _) _⟩
theorem MarkKey_any (z : Bn) (w : World) : Calls Try.prog 230 #[.agg #[.int .i64 z.id, .int .i64 z.til]] w fun e w' => e = .returned (.int .i64 z.id) ∧ Below w.heap.size w w' := by
  go_enter Try.func230, Try.ntmps230
  go_wp2
  go_ret
  exact ⟨rfl, (Below.refl _ _).alloc (Nat.le_refl _) _⟩
set_option maxHeartbeats 800000 in
theorem idsOfK_any (A : Option Addr) (n c : Nat) (xs : List Bn) (w : World) (h : SRow 2 bnC w w.heap.size A n xs) (hn : n ≤ 1048576) :
    Calls Try.prog 191 #[.slice A n c] w fun e w' => ∃ g c', e = .returned (.slice (some ⟨g, 0, none⟩) n c') ∧ w'.ownsRow w.heap.size 2 1 (.slice (some ⟨g, 0, none⟩) n c') n ((bids xs).map i64v) ∧ Below w.heap.size w w' := by
  obtain ⟨i0, hi, hz0, hz1, hz2⟩ := info_parts Try.info_i64
  have HL := Lib.hid h.1
  go_enter Try.func191, Try.ntmps191
  go_wp2_with (at_make; refine wpList_make_own _ rfl _ _ 57 rfl w.heap.size 2 i0 (.int .i64 0) 1 Try.underlying57 hi hz0 hz1 _ _ _ n rfl rfl (by omega) (by rw [hz2]; omega) (by unfold maxLen; omega) (Nat.le_refl _) ?_; intro w0 hown0 hgrow0)
  have hbel0 : Below w.heap.size w w0 := (Below.refl _ _).grown hgrow0 (Nat.le_refl _) (by simp)
  clear hgrow0
  go_loopw [3, 11] (fun v i wr => ∃ k g cc : Nat, k ≤ n ∧ i = .int .i64 k ∧ v = .slice (some ⟨g, 0, none⟩) k cc ∧ wr.ownsRow w.heap.size 2 1 (.slice (some ⟨g, 0, none⟩) k cc) k ((bids (xs.take k)).map i64v) ∧ Below w.heap.size w wr) (fun _ i _ => n - (intOf i).toNat)
  case atStart => exact ⟨0, _, _, by omega, rfl, rfl, hown0, hbel0⟩
  case round =>
    obtain ⟨k, g, cc, hk, rfl, rfl, hown, hbel⟩ := hrel
    clear hown0 hbel0
    by_cases hlt : k < n
    · obtain ⟨b, off, z, rfl, hb, hz, c0, c1⟩ := h.atbn hlt
      have HT := Lib.hid (bids_take hz)
      clear hz
      have d0 := (hbel.cell (p := ⟨b, off + k * 2, none⟩) hb).trans c0
      have d1 := (hbel.cell (p := ⟨b, off + k * 2 + 1, none⟩) hb).trans c1
      have hbs := hbel.size
      clear c0 c1 h
      have hm : ∀ w : World, (method 373 139 (.agg #[.int .i64 z.id, .int .i64 z.til]) "loop.example/g01202/impl.key").run Try.prog w = .ok (230, .agg #[.int .i64 z.id, .int .i64 z.til]) w := fun _ => by kernel_rfl
      go_wp2_with fail
      have ha := (Below.refl wr.heap.size wr).alloc (Nat.le_refl _) (.cells #[.int .i64 z.id, .int .i64 z.til] 139)
      have hs := ha.size
      generalize wr.alloc (.cells #[.int .i64 z.id, .int .i64 z.til] 139) = wa at *
      go_at_call 230; refine (MarkKey_any z _).mono ?_; rintro e w2 ⟨rfl, hb2⟩
      have hb2 := ha.trans (hb2.mono hs)
      have hown2 := own_below hown hb2 (Nat.le_refl _)
      have hbel2 := hbel.trans (hb2.mono hbs)
      have hbs2 := hbel2.size
      clear hb2 hown hbel ha
      go_wp2_with (at_builtin; refine wpList_append_own _ rfl _ _ 57 rfl w.heap.size 2 i0 (.int .i64 0) 1 8 Try.underlying57 hi hz0 hz1 hz2 rfl (by decide) _ _ _ rfl (hown2.alloc _) ⟨w2.heap.size, 0, none⟩ 1 1 [.int .i64 z.id] rfl rfl (cell_new1 _ _ _) (by intro u hu; simp at hu; subst hu; rfl) (by unfold maxLen; omega) (by omega) (by simp; omega) ?_; intro v' w5 hown' hgrow _)
      have hbel' : Below w.heap.size w w5 := (hbel2.alloc hbs2 _).grown hgrow (by simp; omega) (fun g hg => (hown2.lt g hg).1)
      obtain ⟨g5, c5, rfl⟩ := Go.Joins.ownsRow_form hown' (by omega)
      clear hgrow hown2 hbel2
      go_roundw
      case rel => exact ⟨k + 1, g5, c5, by omega, by go_num, rfl, by rw [HT.out]; exact hown', hbel'⟩
      case measure => simp [intOf]; omega
    · have hkn : k = n := by omega
      subst hkn
      rw [List.take_of_length_le (by have := HL.out; omega)] at hown
      go_wp2
      go_ret
      exact ⟨g, cc, rfl, hown, hbel⟩
set_option maxHeartbeats 800000 in
theorem areK_any (A : Option Addr) (n c : Nat) (xs : List Bn) (w : World) (h : SRow 2 bnC w w.heap.size A n xs) (hn : n ≤ 1048576) :
    Calls Try.prog 175 #[.slice A n c] w fun e w' => e = .returned (.bool (xs.all mkOk && memB (bids xs))) ∧ Below w.heap.size w w' := by
  have HL := Lib.hid h.1
  go_enter Try.func175, Try.ntmps175
  go_wp2
  go_loopw [7] (fun i wr => ∃ k : Nat, k ≤ n ∧ i = .int .i64 k ∧ Hid (∀ z ∈ xs.take k, mkOk z = true) ∧ Below w.heap.size w wr) (fun i _ => n - (intOf i).toNat)
  case atStart => exact ⟨0, by omega, rfl, Lib.hid (fun z hz => by simp at hz), Below.refl _ _⟩
  case round =>
    obtain ⟨k, hk, rfl, HA, hbel⟩ := hrel
    have hbs := hbel.size
    by_cases hlt : k < n
    · obtain ⟨b, off, z, rfl, hb, hz, c0, c1⟩ := h.atbn hlt
      have HZ := Lib.hid hz
      clear hz
      have d0 := (hbel.cell (p := ⟨b, off + k * 2, none⟩) hb).trans c0
      have d1 := (hbel.cell (p := ⟨b, off + k * 2 + 1, none⟩) hb).trans c1
      clear c0 c1 h
      cases hok : mkOk z with
      | false =>
        have HF := Lib.hid (all_bad HZ.out hok)
        have hm : ∀ w : World, (method 373 139 (.agg #[.int .i64 z.id, .int .i64 z.til]) "loop.example/g01202/impl.isSound").run Try.prog w = .ok (229, .agg #[.int .i64 z.id, .int .i64 z.til]) w := fun _ => by kernel_rfl
        go_wp2_with fail
        have ha := (Below.refl wr.heap.size wr).alloc (Nat.le_refl _) (.cells #[.int .i64 z.id, .int .i64 z.til] 139)
        have hs := ha.size
        generalize wr.alloc (.cells #[.int .i64 z.id, .int .i64 z.til] 139) = wa at *
        go_at_call 229; refine (MarkSound_b z false _ hok).mono ?_; rintro e w2 ⟨rfl, hb2⟩
        have hb2 := hbel.trans ((ha.trans (hb2.mono hs)).mono hbs)
        clear hbel ha
        go_wp2
        go_ret
        exact ⟨ret_bool (by rw [HF.out]; rfl), hb2⟩
      | true =>
        have HN := Lib.hid (all_succ HA.out HZ.out hok)
        have hm : ∀ w : World, (method 373 139 (.agg #[.int .i64 z.id, .int .i64 z.til]) "loop.example/g01202/impl.isSound").run Try.prog w = .ok (229, .agg #[.int .i64 z.id, .int .i64 z.til]) w := fun _ => by kernel_rfl
        go_wp2_with fail
        have ha := (Below.refl wr.heap.size wr).alloc (Nat.le_refl _) (.cells #[.int .i64 z.id, .int .i64 z.til] 139)
        have hs := ha.size
        generalize wr.alloc (.cells #[.int .i64 z.id, .int .i64 z.til] 139) = wa at *
        go_at_call 229; refine (MarkSound_b z true _ hok).mono ?_; rintro e w2 ⟨rfl, hb2⟩
        have hb2 := hbel.trans ((ha.trans (hb2.mono hs)).mono hbs)
        clear hbel ha
        go_wp2
        go_roundw
        case rel => exact ⟨k + 1, by omega, by go_num, HN, hb2⟩
        case measure => simp [intOf]; omega
    · have HE := Lib.hid (all_at HA.out (by have := HL.out; omega))
      have hr := (h.below hbel).more hbs
      clear h
      go_wp2_with fail
      go_at_call 191; refine (idsOfK_any _ _ _ _ _ hr hn).mono ?_; rintro e w3 ⟨g3, c3, rfl, ho3, hb3⟩
      have hb3 := hbel.trans (hb3.mono hbs)
      clear hbel hr
      go_wp2_with fail
      go_at_call 164; refine (impl_IsMembers_any _ _ _ _ _ _ (Row.of_own ho3) (by omega)).mono ?_; rintro e w4 ⟨rfl, rfl⟩
      go_wp2
      go_ret
      exact ⟨ret_bool (by rw [HE.out]; rfl), hb3⟩
end Go.Proofs.Ytdpclbmcmgknjaa
