import Derived.Test.YteeodjbionjlmaaChecked
import Derived.WalkKit
import Derived.ProofKit
import Derived.OpenShut
import Derived.ShutString
import Derived.ChangeOld
import Derived.Below
import Derived.Lib.Hide
import Derived.WalkSpells
import Derived.WalkLawsBesides
import Derived.Maps.AppendAt
import Derived.Test.YteeodjbionjlmaaJya
import Derived.Test.YteeodjbionjlmaaZRnsC
namespace Go.Proofs.Yteeodjbionjlmaa
open Go.ChangeShapes Go.WideShapes Go.ChangeAt Go.RowKit
open Go.ChangeMaps (open_string shut_string)
set_option linter.unusedVariables false
set_option maxRecDepth 100000
theorem toList_ne {y z : ByteArray} (h : y ≠ z) : (y.toList == z.toList) = false := by
  rw [beq_eq_false_iff_ne]
  intro e
  rw [ByteArray.toList_eq, ByteArray.toList_eq] at e
  apply h
  cases y; cases z
  simp only at e
  rw [Array.toList_inj.1 e]
theorem toList_same (y : ByteArray) : (y.toList == y.toList) = true := by simp
theorem l06Low_any (b : Int) (w : World) (h0 : 0 ≤ b) (h1 : b < 256) :
    Calls Try.prog 125 #[.int .u8 b] w fun e w' => e = .returned (.int .u8 (lowC b)) ∧ w = w' := by
  by_cases c1 : 65 ≤ b
  · by_cases c2 : b ≤ 90
    · have E := Lib.hid (lowC_cap b c1 c2)
      go_enter Try.func125, Try.ntmps125
      go_wp2
      go_ret
      exact ⟨ret_int (by rw [E.out]; omega), rfl⟩
    · by_cases a : 97 ≤ b
      · by_cases a2 : b ≤ 122
        · have E := Lib.hid (lowC_small b a a2)
          go_enter Try.func125, Try.ntmps125
          go_wp2
          go_ret
          exact ⟨ret_int E.out.symm, rfl⟩
        · have E := Lib.hid (lowC_oth b (by omega) (by omega) (by omega))
          go_enter Try.func125, Try.ntmps125
          go_wp2
          go_ret
          exact ⟨ret_int E.out.symm, rfl⟩
      · have E := Lib.hid (lowC_oth b (by omega) (by omega) (by omega))
        go_enter Try.func125, Try.ntmps125
        go_wp2
        go_ret
        exact ⟨ret_int E.out.symm, rfl⟩
  · by_cases d1 : 48 ≤ b
    · by_cases d2 : b ≤ 57
      · have E := Lib.hid (lowC_dig b d1 d2)
        go_enter Try.func125, Try.ntmps125
        go_wp2
        go_ret
        exact ⟨ret_int E.out.symm, rfl⟩
      · have E := Lib.hid (lowC_oth b (by omega) (by omega) (by omega))
        go_enter Try.func125, Try.ntmps125
        go_wp2
        go_ret
        exact ⟨ret_int E.out.symm, rfl⟩
    · have E := Lib.hid (lowC_oth b (by omega) (by omega) (by omega))
      go_enter Try.func125, Try.ntmps125
      go_wp2
      go_ret
      exact ⟨ret_int E.out.symm, rfl⟩
set_option maxHeartbeats 800000 in
theorem l06End_any (s : ByteArray) (k0 : Nat) (w : World) (hs : s.size ≤ 1048576) (hk0 : k0 ≤ s.size) :
    Calls Try.prog 70 #[.string s, .int .i64 k0] w fun e w' => e = .returned (.int .i64 (endOf s k0)) ∧ w = w' := by
  go_enter Try.func70, Try.ntmps70
  go_wp2
  go_loopw [1] (fun i wr => ∃ k : Nat, k ≤ s.size ∧ i = .int .i64 k ∧ Hid (endOf s k = endOf s k0) ∧ wr = w) (fun i _ => s.size - (intOf i).toNat)
  case atStart => exact ⟨k0, hk0, rfl, Lib.hid rfl, rfl⟩
  case round =>
    obtain ⟨k, hk, rfl, HE, rfl⟩ := hrel
    by_cases hlt : k < s.size
    · have hc : s[k].toNat < 256 := s[k].toNat_lt
      have HBY := Lib.hid (byteAt_eq s k hlt)
      by_cases hlow : lowC (s[k].toNat : Int) = 0
      · have HL := Lib.hid hlow
        have HF := Lib.hid ((endOf_stay s k (fun h => h.2 (by rw [HBY.out]; exact HL.out))).symm.trans HE.out)
        clear hlow
        go_wp2_with (go_at_call 125; refine (l06Low_any _ _ (by omega) (by omega)).mono ?_; rintro e w' ⟨he, rfl⟩; rw [HL.out] at he; subst he)
        go_ret
        exact ⟨ret_int (by rw [← HF.out]), rfl⟩
      · have hlb := lowC_bd (s[k].toNat : Int) (by omega) (by omega)
        have HN := Lib.hid hlow
        have HF := Lib.hid ((endOf_go s k hlt (by rw [HBY.out]; exact HN.out)).symm.trans HE.out)
        have hne : (lowC (s[k].toNat : Int) != 0) = true := by simp [hlow]
        clear hlow
        go_wp2_with (go_at_call 125; refine (l06Low_any _ _ (by omega) (by omega)).mono ?_; rintro e w' ⟨rfl, rfl⟩)
        go_roundw
        case rel => exact ⟨k + 1, by omega, by go_num, HF, by first | rfl | trivial⟩
        case measure => simp [intOf]; omega
    · have hke : k = s.size := by omega
      have HF := Lib.hid ((endOf_stay s k (fun h => hlt h.1)).symm.trans HE.out)
      clear hke
      go_wp2
      go_ret
      exact ⟨ret_int (by rw [← HF.out]), rfl⟩
set_option maxHeartbeats 800000 in
theorem l06Word_any (s : ByteArray) (w : World) (hs : s.size ≤ 1048576) :
    Calls Try.prog 71 #[.string s] w fun e w' => e = .returned (.string (strOfNums (lows s 0 s.size))) ∧ Below w.heap.size w w' := by
  obtain ⟨i0, hi, hz0, hz1, hz2⟩ := info_parts Try.info_u8
  go_enter Try.func71, Try.ntmps71
  go_wp2
  go_loopw [3, 4] (fun v i wr => ∃ k : Nat, k ≤ s.size ∧ i = .int .i64 k ∧ wr.ownsRow w.heap.size 5 1 v k ((lows s 0 k).map (Value.int .u8)) ∧ Below w.heap.size w wr) (fun _ i _ => s.size - (intOf i).toNat)
  case atStart => exact ⟨0, by omega, rfl, World.ownsRow_made w #[] 0 (Nat.le_refl _) (by decide) rfl, (Below.refl _ _).alloc (Nat.le_refl _) _⟩
  case round =>
    obtain ⟨k, hk, rfl, hown, hbel⟩ := hrel
    have hbs := hbel.size
    by_cases hlt : k < s.size
    · have hc : s[k].toNat < 256 := s[k].toNat_lt
      have HS := Lib.hid (show lows s 0 (k + 1) = lows s 0 k ++ [lowC (s[k].toNat : Int)] by rw [lows_succ s 0 k (by omega), byteAt_eq s k hlt])
      have hlb := lowC_bd (s[k].toNat : Int) (by omega) (by omega)
      go_wp2_with (first | (go_at_call 125; refine (l06Low_any _ _ (by omega) (by omega)).mono ?_; rintro e w' ⟨rfl, rfl⟩) | (at_builtin; refine wpList_append_own _ rfl _ _ 82 rfl w.heap.size 5 i0 (.int .u8 0) 1 1 Try.underlying82 hi hz0 hz1 hz2 rfl (by decide) _ _ _ rfl (hown.alloc _) ⟨wr.heap.size, 0, none⟩ 1 1 [.int .u8 (lowC (s[k].toNat : Int))] rfl rfl ?p1 ?p2 ?p3 ?p4 ?p5 ?_))
      case p1 => exact cell_one_new _ _ _
      case p2 => intro u hu; simp at hu; subst hu; rfl
      case p3 => unfold maxLen; omega
      case p4 => omega
      case p5 => simp; omega
      intro v' w5 hown' hgrow _
      have hbel' : Below w.heap.size w w5 := (hbel.alloc hbs _).grown hgrow (by simp; omega) (fun g hg => (hown.lt g hg).1)
      clear hgrow hown hbel
      go_wp2
      go_roundw
      case rel => exact ⟨k + 1, by omega, by go_num, by rw [HS.out, List.map_append]; exact hown', hbel'⟩
      case measure => simp [intOf]; omega
    · have hke : k = s.size := by omega
      subst hke
      have hcv := own_string hown Try.underlying82 Try.underlying5 Try.underlying9
      go_wp2
      go_ret
      exact ⟨rfl, hbel⟩
set_option maxHeartbeats 800000 in
theorem l06Has_any (A : Option Addr) (n c : Nat) (xs : List ByteArray) (z : ByteArray) (w : World) (h : Row strv w w.heap.size A n xs) (hn : n ≤ 1048576) :
    Calls Try.prog 68 #[.slice A n c, .string z] w fun e w' => e = .returned (.bool (hasS xs z)) ∧ w = w' := by
  have HL := Lib.hid h.1
  go_enter Try.func68, Try.ntmps68
  go_wp2
  go_loopw [5] (fun i wr => ∃ k : Nat, k ≤ n ∧ i = .int .i64 k ∧ Hid (z ∉ xs.take k) ∧ wr = w) (fun i _ => n - (intOf i).toNat)
  case atStart => exact ⟨0, by omega, rfl, Lib.hid (by simp), rfl⟩
  case round =>
    obtain ⟨k, hk, rfl, HN, rfl⟩ := hrel
    by_cases hlt : k < n
    · obtain ⟨b, off, y, rfl, hb, hz, c0⟩ := h.at_ hlt
      have HZ := Lib.hid hz
      clear hz
      by_cases hy : y = z
      · subst hy
        have heq := toList_same y
        go_wp2
        go_ret
        exact ⟨ret_bool (hasS_yes (List.mem_of_getElem? HZ.out)).symm, rfl⟩
      · have HY := Lib.hid hy
        have hne := toList_ne hy
        clear hy
        go_wp2
        go_roundw
        case rel => exact ⟨k + 1, by omega, by go_num, Lib.hid (by rw [List.take_add_one, HZ.out]; intro hm; rcases List.mem_append.1 hm with hm | hm; exact HN.out hm; simp at hm; exact HY.out hm.symm), by first | rfl | trivial⟩
        case measure => simp [intOf]; omega
    · have hke : k = n := by omega
      have HF := Lib.hid (show hasS xs z = false from hasS_no (by have := HN.out; rwa [hke, ← HL.out, List.take_length] at this))
      clear hke
      go_wp2
      go_ret
      exact ⟨ret_bool HF.out.symm, rfl⟩
end Go.Proofs.Yteeodjbionjlmaa
