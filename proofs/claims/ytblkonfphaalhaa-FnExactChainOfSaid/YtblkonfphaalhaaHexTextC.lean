import Derived.Test.YtblkonfphaalhaaChecked
import Derived.WalkKit
import Derived.ProofKit
import Derived.OpenShut
import Derived.ShutString
import Derived.ChangeOld
import Derived.Below
import Derived.Lib.Hide
import Derived.RegionTactic
import Derived.ChangeAlike
import Derived.BigRegion
import Derived.Deep.RegionHeld3
import Derived.Deep.AppendLies
import Derived.IntWalk
import Derived.Deep.QuietTactic
import Derived.BigQuiet
import Derived.Test.YtblkonfphaalhaaRows1
import Derived.Test.YtblkonfphaalhaaPlain6
namespace Go.Proofs.Ytblkonfphaalhaa
open Go.ChangeShapes Go.WideShapes Go.ChangeAt Go.RowKit
open Go.ChangeMaps (open_string shut_string)
set_option linter.unusedVariables false
set_option maxHeartbeats 400000 in
theorem hexPair_any (c : Int) (w : World) (h0 : 0 ≤ c) (h1 : c < 256) :
    Calls Try.prog 61 #[.int .u8 c] w fun e w' => e = .returned (.agg #[.int .u8 (hexD (c / 16)), .int .u8 (hexD (c % 16))]) ∧ Below w.heap.size w w' := by
  have a0 : 0 ≤ c / 16 ∧ c / 16 < 16 := by omega
  have a1 : 0 ≤ c % 16 ∧ c % 16 < 16 := by omega
  go_enter Try.func61, Try.ntmps61
  go_wp2
  go_region
  go_wp2
  rw [hexS_get (c / 16) a0.1 a0.2, hexS_get (c % 16) a1.1 a1.2]
  refine bodyPost_ret (v := .agg #[.int .u8 (hexD (c / 16)), .int .u8 (hexD (c % 16))]) ?_ rfl ⟨rfl, ?_⟩
  · exact results_cell_row (P := Try.prog) Try.results61 _ _ w.heap.size 51 _ (0, 0) _ rfl (heap_alloc_new w _) Try.underlying51 rfl (by kernel_rfl)
  · exact ((Below.refl _ _).alloc (Nat.le_refl _) _).drew
set_option maxHeartbeats 400000 in
set_option maxRecDepth 100000 in
theorem l01Hex_any (s : ByteArray) (w : World) (hs : s.size ≤ 4000) :
    Calls Try.prog 60 #[.string s] w fun e w' => e = .returned (.string (strOfNums (hexL s.data.toList))) ∧ Below w.heap.size w w' := by
  obtain ⟨i0, hi, hz0, hz1, hz2⟩ := info_parts Try.info_u8
  go_enter Try.func60, Try.ntmps60
  go_wp2
  go_loopw [3, 5] (fun v i wr => ∃ k : Nat, k ≤ s.size ∧ i = .int .i64 k ∧ wr.ownsRow w.heap.size 5 1 v (2 * k) ((hexTo s k).map (Value.int .u8)) ∧ Below w.heap.size w wr) (fun _ i _ => s.size - (intOf i).toNat)
  case atStart => exact ⟨0, by omega, rfl, World.ownsRow_made w #[] 0 (Nat.le_refl _) (by decide) rfl, (Below.refl _ _).alloc (Nat.le_refl _) _⟩
  case round =>
    obtain ⟨k, hk, rfl, hown, hbel⟩ := hrel
    by_cases hlt : k < s.size
    · have hp : (0 : Int) ≤ (k : Int) := by omega
      have hq : (k : Int) < (s.size : Int) := by omega
      have hcb : s[k].toNat < 256 := s[k].toNat_lt
      have a0 : 0 ≤ (s[k].toNat : Int) / 16 ∧ (s[k].toNat : Int) / 16 < 16 := by omega
      have a1 : 0 ≤ (s[k].toNat : Int) % 16 ∧ (s[k].toNat : Int) % 16 < 16 := by omega
      go_wp2
      have hw1 : IntKind.u8.wrap ((s[k].toNat : Int) / 16) = (s[k].toNat : Int) / 16 := IntWalk.u8_in _ (by omega)
      have hw2 : IntKind.u8.wrap ((s[k].toNat : Int) % 16) = (s[k].toNat : Int) % 16 := IntWalk.u8_in _ (by omega)
      have hsz1 := hbel.size
      have ht : ((s[k].toNat : Int)).tmod 16 = (s[k].toNat : Int) % 16 := Int.tmod_eq_emod_of_nonneg (by omega)
      go_region_held3 (fun w' => True) (trivial) ((refine step_append_lies _ (by rfl) _ _ _ (by rfl) w.heap.size 5 i0 _ 1 1 Try.underlying50 hi hz0 hz1 hz2 rfl (by omega) u3 (2 * k) ((hexTo s k).map (Value.int .u8)) (by rfl) ((hown.alloc _).drew) ⟨wr.heap.size, 0, none⟩ 2 2 _ (by rfl) (by rfl) (World.news_of_block (t := 5) (fr := (0, 0)) (heap_alloc_new wr _)) (by simp [Value.oneCell']) (by omega) (by unfold maxLen; omega) (by omega) (by simp; omega) (wr.heap.size + 1) (by simp) ?_; intro gg cap w1 hown1 hgrow hat hlt1))
      all_goals
        have hb1 : Below w.heap.size w w1 := ((hbel.alloc hsz1 _).drew).grown hgrow (by simp; omega) (fun g hg => (hown.lt g hg).1)
        rw [hexS_get _ a0.1 a0.2, hexS_get _ a1.1 a1.2] at hown1
        have HS := Lib.hid (hexTo_succ s k hlt)
        clear hgrow hown hbel hw1 hw2 ht hat hlt1
        go_wp2
        go_roundw
        case rel => exact ⟨k + 1, by omega, by go_num, by rw [HS.out, List.map_append]; exact hown1, hb1⟩
        case measure => simp [intOf]; omega
    · have hkn : k = s.size := by omega
      have HE := Lib.hid (hexTo_end s k (by omega))
      rw [HE.out] at hown
      have hcv := own_string hown Try.underlying50 Try.underlying5 Try.underlying9
      clear hkn
      go_wp2
      go_ret
      exact ⟨rfl, hbel⟩
theorem spec_HexText_no (s : ByteArray) (w : World) (hs : 4000 < s.size) :
    Calls Try.prog 27 #[.string s] w fun e w' => e = .returned (.tuple #[.string ⟨#[]⟩, .bool false]) ∧ w = w' := by
  go_enter Try.func27, Try.ntmps27
  go_wp2
  go_ret2
  exact ⟨rfl, rfl⟩
theorem spec_HexText_yes (s : ByteArray) (w : World) (hs : s.size ≤ 4000) :
    Calls Try.prog 27 #[.string s] w fun e w' => e = .returned (.tuple #[.string (strOfNums (hexL s.data.toList)), .bool true]) ∧ Below w.heap.size w w' := by
  go_enter Try.func27, Try.ntmps27
  go_wp2_with (go_at_call 60; refine (l01Hex_any _ _ hs).mono ?_; rintro e w1 ⟨rfl, hb1⟩)
  go_ret2
  exact ⟨rfl, hb1⟩
theorem impl_HexText_no (s : ByteArray) (w : World) (hs : 4000 < s.size) :
    Calls Try.prog 28 #[.string s] w fun e w' => e = .returned (.tuple #[.string ⟨#[]⟩, .bool false]) ∧ w = w' := by
  go_enter Try.func28, Try.ntmps28
  go_wp2
  go_ret2
  exact ⟨rfl, rfl⟩
set_option maxHeartbeats 800000 in
theorem impl_HexText_yes (s : ByteArray) (w : World) (hs : s.size ≤ 4000) :
    Calls Try.prog 28 #[.string s] w fun e w' => e = .returned (.tuple #[.string (strOfNums (hexL s.data.toList)), .bool true]) ∧ Below w.heap.size w w' := by
  obtain ⟨i0, hi, hz0, hz1, hz2⟩ := info_parts Try.info_u8
  go_enter Try.func28, Try.ntmps28
  go_wp2_with (at_make; refine wpList_make_own _ rfl _ _ 50 rfl w.heap.size 5 i0 (.int .u8 0) 1 Try.underlying50 hi hz0 hz1 _ _ _ (2 * s.size) rfl rfl (by omega) (by rw [hz2]; omega) (by unfold maxLen; omega) (Nat.le_refl _) ?_; intro w0 hown0 hgrow0)
  have hbel0 : Below w.heap.size w w0 := (Below.refl _ _).grown hgrow0 (Nat.le_refl _) (by simp)
  clear hgrow0
  go_loopw [4, 16] (fun v i wr => ∃ k : Nat, k ≤ s.size ∧ i = .int .i64 k ∧ wr.ownsRow w.heap.size 5 1 v (2 * k) ((hexTo s k).map (Value.int .u8)) ∧ Below w.heap.size w wr) (fun _ i _ => s.size - (intOf i).toNat)
  case atStart => exact ⟨0, by omega, rfl, hown0, hbel0⟩
  case round =>
    obtain ⟨k, hk, rfl, hown, hbel⟩ := hrel
    clear hown0 hbel0
    by_cases hlt : k < s.size
    · have hcb : s[k].toNat < 256 := s[k].toNat_lt
      go_wp2_with fail
      go_at_call 61; refine (hexPair_any _ _ (by omega) (by omega)).mono ?_; rintro e w1 ⟨rfl, hb1⟩
      have hown1 := own_below hown hb1 (Nat.le_refl _)
      have hbel1 := hbel.trans (hb1.mono hbel.size)
      have hsz1 := hbel1.size
      clear hown hbel hb1
      go_wp2_with (at_builtin; refine wpList_append_own _ rfl _ _ 50 rfl w.heap.size 5 i0 (.int .u8 0) 1 1 Try.underlying50 hi hz0 hz1 hz2 rfl (by decide) _ _ _ rfl (hown1.alloc _) ⟨w1.heap.size, 0, none⟩ 2 2 [.int .u8 (hexD ((s[k].toNat : Int) / 16)), .int .u8 (hexD ((s[k].toNat : Int) % 16))] rfl rfl ?c1 ?c2 ?c3 ?c4 ?c5 ?_)
      case c1 => exact World.news_of_block (cs := #[_, _]) (t := 51) (fr := (0, 0)) (heap_alloc_new w1 _)
      case c2 => intro u hu; simp at hu; rcases hu with rfl | rfl <;> rfl
      case c3 => unfold maxLen; omega
      case c4 => omega
      case c5 => simp; omega
      intro v' w2 hown2 hgrow _
      have hb2 : Below w.heap.size w w2 := (hbel1.alloc hsz1 _).grown hgrow (by simp; omega) (fun g hg => (hown1.lt g hg).1)
      have HS := Lib.hid (hexTo_succ s k hlt)
      clear hgrow hown1 hbel1
      go_wp2
      go_roundw
      case rel => exact ⟨k + 1, by omega, by go_num, by rw [HS.out, List.map_append]; exact hown2, hb2⟩
      case measure => simp [intOf]; omega
    · have HE := Lib.hid (hexTo_end s k (by omega))
      rw [HE.out] at hown
      have hcv := own_string hown Try.underlying50 Try.underlying5 Try.underlying9
      go_wp2
      go_ret2
      exact ⟨rfl, hbel⟩
end Go.Proofs.Ytblkonfphaalhaa
