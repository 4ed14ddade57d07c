import Derived.Test.YtblkonfphaalhaaChecked
import Derived.WalkKit
import Derived.ProofKit
import Derived.OpenShut
import Derived.ShutString
import Derived.ChangeOld
import Derived.Below
import Derived.Lib.Hide
import Derived.Test.YtblkonfphaalhaaLessSetC
namespace Go.Proofs.Ytblkonfphaalhaa
open Go.ChangeShapes Go.WideShapes Go.ChangeAt Go.RowKit
open Go.ChangeMaps (open_string shut_string)
set_option linter.unusedVariables false
set_option maxHeartbeats 800000 in
theorem impl_LessSet_yes (A A' : Option Addr) (n c n' c' B B' : Nat) (xs ys : List Int) (w : World) (h : Row i64v w B A n xs) (h' : Row i64v w B' A' n' ys) (hB : B ≤ w.heap.size) (hB' : B' ≤ w.heap.size) (hn : n ≤ 1048576) (hn' : n' ≤ 1048576)
    (hs : memB xs = true ∧ memB ys = true) :
    Calls Try.prog 53 #[.slice A n c, .slice A' n' c'] w fun e w' => TwoYes w (lessL xs ys) e w' := by
  have HX := Lib.hid hs.1
  have HY := Lib.hid hs.2
  have HL := Lib.hid h.1
  clear hs
  obtain ⟨i0, hi, hz0, hz1, hz2⟩ := info_parts Try.info_i64
  have hr := h.more hB
  have hr' := h'.more hB'
  clear h h'
  go_enter Try.func53, Try.ntmps53
  go_wp2_with fail
  go_at_call 25; refine (impl_IsMembers_b _ _ _ _ _ true _ hr (by omega) HX.out).mono ?_; rintro e w1 ⟨rfl, rfl⟩
  go_wp2_with fail
  go_at_call 25; refine (impl_IsMembers_b _ _ _ _ _ true _ hr' (by omega) HY.out).mono ?_; rintro e w2 ⟨rfl, rfl⟩
  go_wp2
  go_loopw [6, 21] (fun v i wr => ∃ k m : Nat, k ≤ n ∧ m ≤ k ∧ i = .int .i64 k ∧ wr.ownsRow w.heap.size 2 1 v m ((lessTo xs ys k).map i64v) ∧ Below w.heap.size w wr) (fun _ i _ => n - (intOf i).toNat)
  case atStart => exact ⟨0, 0, by omega, by omega, rfl, World.ownsRow_nil _ _ _ _, Below.refl _ _⟩
  case round =>
    obtain ⟨k, m, hk, hm, rfl, hown, hbel⟩ := hrel
    have hbs := hbel.size
    by_cases hlt : k < n
    · obtain ⟨b, off, x, rfl, _, hx, hc⟩ := (hr.below hbel).ati hlt
      have HX' := Lib.hid hx
      clear hx
      have hrw := hr'.below hbel
      cases hin : decide (x ∈ ys) with
      | true =>
        have HT := Lib.hid (lessTo_in HX'.out hin)
        have HI := Lib.hid hin
        clear hin
        go_wp2_with (go_at_call 75; refine (search_any _ _ _ _ _ _ _ hrw (by omega) (mem_rise HY.out)).mono ?_; rintro e w' ⟨⟨p, he⟩, rfl⟩; rw [HI.out] at he; subst he)
        go_roundw
        case rel => exact ⟨k + 1, m, by omega, by omega, by go_num, by rw [HT.out]; exact hown, hbel⟩
        case measure => simp [intOf]; omega
      | false =>
        have HT := Lib.hid (lessTo_out HX'.out hin)
        have HI := Lib.hid hin
        clear hin
        go_wp2_with (first | (go_at_call 75; refine (search_any _ _ _ _ _ _ _ hrw (by omega) (mem_rise HY.out)).mono ?_; rintro e w' ⟨⟨p, he⟩, rfl⟩; rw [HI.out] at he; subst he) | (at_builtin; refine wpList_append_own _ rfl _ _ 26 rfl w.heap.size 2 i0 (.int .i64 0) 1 8 Try.underlying26 hi hz0 hz1 hz2 rfl (by decide) _ _ _ rfl (hown.alloc _) ⟨wr.heap.size, 0, none⟩ 1 1 [.int .i64 x] rfl rfl ?c1 ?c2 ?c3 ?c4 ?c5 ?_))
        case c1 => exact cell_one_new _ _ _
        case c2 => intro u hu; simp at hu; subst hu; rfl
        case c3 => unfold maxLen; omega
        case c4 => omega
        case c5 => simp; omega
        intro v' w5 hown' hgrow _
        have hbel' : Below w.heap.size w w5 := (hbel.alloc hbs _).grown hgrow (by simp; omega) (fun g hg => (hown.lt g hg).1)
        clear hgrow hown hbel hrw
        go_wp2
        go_roundw
        case rel => exact ⟨k + 1, m + 1, by omega, by omega, by go_num, by rw [HT.out, List.map_append]; exact hown', hbel'⟩
        case measure => simp [intOf]; omega
    · have HE := Lib.hid (lessTo_end xs ys k (by have := HL.out; omega))
      rw [HE.out] at hown
      go_wp2
      obtain ⟨A2, m2, c2, rfl, hmm⟩ := own_shape hown
      subst hmm
      go_ret2
      exact ⟨A2, _, c2, rfl, hown, hbel⟩
end Go.Proofs.Ytblkonfphaalhaa
