import Derived.Test.YteeodjbionjlmaaChecked
import Derived.WalkKit
import Derived.ProofKit
import Derived.OpenShut
import Derived.ShutString
import Derived.ChangeOld
import Derived.Below
import Derived.Lib.Hide
import Derived.Laws.RangeAny
import Derived.Lib.OthersKept
import Derived.Test.YteeodjbionjlmaaJb
import Derived.Test.YteeodjbionjlmaaJyc
namespace Go.Proofs.Yteeodjbionjlmaa
open Go.ChangeShapes Go.WideShapes Go.ChangeAt Go.RowKit
open Go.ChangeMaps (open_string shut_string)
set_option linter.unusedVariables false
set_option maxHeartbeats 400000 in
theorem spec_IsName_any (s : ByteArray) (w : World) (hs : s.size ≤ maxLen) :
    Calls Try.prog 121 #[.string s] w fun e w' => e = .returned (.bool (nameB s)) ∧ w = w' := by
  unfold maxLen at hs
  go_enter Try.func121, Try.ntmps121
  go_wp2
  go_loop [3] (fun i => ∃ k : Nat, k ≤ s.size ∧ i = .int .i64 k ∧ AllTo nameC s k) (fun i => s.size - (intOf i).toNat)
  case atStart => exact ⟨0, Nat.zero_le _, rfl, AllTo.zero _ _⟩
  case round =>
    obtain ⟨k, hk, rfl, hall⟩ := hrel
    by_cases hlt : k < s.size
    · by_cases h1 : (s[k].toNat : Int) < 97
      · go_wp2
        go_ret
        exact ⟨ret_bool (nameB_bad hlt (nameC_no (.inl h1))).symm, rfl⟩
      · by_cases h2 : 122 < (s[k].toNat : Int)
        · go_wp2
          go_ret
          exact ⟨ret_bool (nameB_bad hlt (nameC_no (.inr h2))).symm, rfl⟩
        · go_wp2
          go_round
          case rel => exact ⟨k + 1, by omega, by go_num, hall.succ hlt (nameC_yes (by omega) (by omega))⟩
          case measure => simp [intOf]; omega
    · have HE := Lib.hid (nameB_end hall (by omega))
      by_cases h3 : 1 ≤ s.size
      · by_cases h4 : s.size ≤ 8
        · go_wp2
          go_ret
          exact ⟨ret_bool (by rw [HE.out, Bool.eq_iff_iff]; simp; try omega), rfl⟩
        · go_wp2
          go_ret
          exact ⟨ret_bool (by rw [HE.out, Bool.eq_iff_iff]; simp; try omega), rfl⟩
      · go_wp2
        go_ret
        exact ⟨ret_bool (by rw [HE.out, Bool.eq_iff_iff]; simp; try omega), rfl⟩
theorem isSmall_yes (r : Int) (w : World) (h1 : 97 ≤ r) (h2 : r ≤ 122) :
    Calls Try.prog 119 #[.int .i32 r] w fun e w' => e = .returned (.bool true) ∧ w = w' := by
  go_enter Try.func119, Try.ntmps119
  go_wp2
  go_ret
  exact ⟨rfl, rfl⟩
theorem isSmall_no (r : Int) (w : World) (h : r < 97 ∨ 122 < r) :
    Calls Try.prog 119 #[.int .i32 r] w fun e w' => e = .returned (.bool false) ∧ w = w' := by
  by_cases h1 : r < 97
  · clear h
    go_enter Try.func119, Try.ntmps119
    go_wp2
    go_ret
    exact ⟨rfl, rfl⟩
  · have h2 : 122 < r := by omega
    clear h
    go_enter Try.func119, Try.ntmps119
    go_wp2
    go_ret
    exact ⟨ret_bool (by simp; omega), rfl⟩
theorem rune_not {s : ByteArray} {k : Nat} (hk : k < s.size) (h : nameC s[k] = false) : ((Utf8.decode s k).1 : Int) < 97 ∨ 122 < ((Utf8.decode s k).1 : Int) := by
  by_cases ha : s[k].toNat < 128
  · rw [decode_ascii s k hk ha]
    show ((s[k].toNat : Nat) : Int) < 97 ∨ _ < ((s[k].toNat : Nat) : Int)
    by_cases h1 : (s[k].toNat : Int) < 97
    · exact .inl h1
    · by_cases h2 : 122 < (s[k].toNat : Int)
      · exact .inr h2
      · rw [nameC_yes (by omega) (by omega)] at h; cases h
  · have := (decode_high s k hk (by omega)).1
    omega
theorem rune_yes {s : ByteArray} {k : Nat} (hk : k < s.size) (h : nameC s[k] = true) : Utf8.decode s k = (s[k].toNat, 1) ∧ 97 ≤ (s[k].toNat : Int) ∧ (s[k].toNat : Int) ≤ 122 := by
  have h1 : 97 ≤ (s[k].toNat : Int) ∧ (s[k].toNat : Int) ≤ 122 := by
    simp [nameC, UInt8.le_iff_toNat_le] at h; omega
  exact ⟨decode_ascii s k hk (by omega), h1⟩
set_option maxHeartbeats 400000 in
theorem impl_IsName_any (s : ByteArray) (w : World) (hs : s.size ≤ maxLen) :
    Calls Try.prog 123 #[.string s] w fun e w' => e = .returned (.bool (nameB s)) ∧ Below w.heap.size w w' := by
  unfold maxLen at hs
  by_cases h1 : 1 ≤ s.size
  · by_cases h2 : s.size ≤ 8
    · go_enter Try.func123, Try.ntmps123
      go_wp2
      go_loopw [] (fun w' => ∃ k : Nat, k ≤ s.size ∧ w' = w.iter s k ∧ AllTo nameC s k) (fun w' => s.size - w'.iterPos w.heap.size)
      case atStart => exact ⟨0, Nat.zero_le _, rfl, AllTo.zero _ _⟩
      case round =>
        obtain ⟨k, hk, rfl, hall⟩ := hrel
        by_cases hlt : k < s.size
        · have hnx : ∀ ty, (Instr.next (.pointer (some ⟨w.heap.size, 0, none⟩)) true ty).run Try.prog (w.iter s k) = _ := fun ty => run_next_any w s k ty hlt
          by_cases hc : nameC s[k] = true
          · obtain ⟨hd, hc1, hc2⟩ := rune_yes hlt hc
            rw [hd] at hnx
            have HS := Lib.hid (hall.succ hlt hc)
            clear hc hd
            go_wp2_with (go_at_call 119; refine (isSmall_yes _ _ hc1 hc2).mono ?_; rintro e w' ⟨rfl, rfl⟩)
            go_roundw
            case rel => exact ⟨k + 1, by omega, rfl, HS.out⟩
            case measure => simp; omega
          · have hc' : nameC s[k] = false := by simpa using hc
            have hr := rune_not hlt hc'
            have HB := Lib.hid (nameB_bad hlt hc')
            clear hc hc'
            go_wp2_with (go_at_call 119; refine (isSmall_no _ _ hr).mono ?_; rintro e w' ⟨rfl, rfl⟩)
            go_ret
            exact ⟨ret_bool HB.out.symm, (Below.refl _ _).alloc (Nat.le_refl _) _⟩
        · have hnx : ∀ ty, (Instr.next (.pointer (some ⟨w.heap.size, 0, none⟩)) true ty).run Try.prog (w.iter s k) = _ := fun ty => run_next_end w s k ty hlt
          have HE := Lib.hid (nameB_in hall (by omega) ⟨h1, h2⟩)
          go_wp2
          go_ret
          exact ⟨ret_bool HE.out.symm, (Below.refl _ _).alloc (Nat.le_refl _) _⟩
    · have HB := Lib.hid (nameB_out (s := s) (by omega))
      go_enter Try.func123, Try.ntmps123
      go_wp2
      go_ret
      exact ⟨ret_bool HB.out.symm, Below.refl _ _⟩
  · have HB := Lib.hid (nameB_out (s := s) (by omega))
    go_enter Try.func123, Try.ntmps123
    go_wp2
    go_ret
    exact ⟨ret_bool HB.out.symm, Below.refl _ _⟩
end Go.Proofs.Yteeodjbionjlmaa
