import Derived.Test.YtmnmmjobplbflaaGreatDoorChecked
import Derived.WalkKit
import Derived.ProofKit
import Derived.OpenShut
import Derived.ShutString
import Derived.ChangeOld
import Derived.Below
import Derived.Lib.Hide
import Derived.Test.YtmnmmjobplbflaaGreatDoorJc
namespace Go.Proofs.YtmnmmjobplbflaaGreatDoor
open Go.ChangeShapes Go.WideShapes Go.ChangeAt Go.RowKit
open Go.ChangeMaps (open_string shut_string)
set_option linter.unusedVariables false
set_option maxRecDepth 100000
def marksM (k0 n : Nat) : List Mb := (List.range n).map fun i => ⟨((k0 + i * 4 : Nat) : Int), ((k0 + i * 4 + 1 : Nat) : Int), ((k0 + i * 4 + 2 : Nat) : Int), ((k0 + i * 4 + 3 : Nat) : Int)⟩
theorem marksM_len (k0 n : Nat) : (marksM k0 n).length = n := by simp [marksM]
theorem marksM_at (k0 n k : Nat) (h : k < n) : (marksM k0 n)[k]? = some ⟨((k0 + k * 4 : Nat) : Int), ((k0 + k * 4 + 1 : Nat) : Int), ((k0 + k * 4 + 2 : Nat) : Int), ((k0 + k * 4 + 3 : Nat) : Int)⟩ := by simp [marksM, h]
theorem marksM_vals (k0 k : Nat) (z : Int) (hz : z = ((k0 + k * 4 : Nat) : Int)) : mbC ⟨((k0 + k * 4 : Nat) : Int), ((k0 + k * 4 + 1 : Nat) : Int), ((k0 + k * 4 + 2 : Nat) : Int), ((k0 + k * 4 + 3 : Nat) : Int)⟩ = [.int .i64 (z), .int .i64 (z + 1), .int .i64 (z + 1 + 1), .int .i64 (z + 1 + 1 + 1)] := by
  subst hz
  simp [mbC, Int.add_assoc]
set_option maxHeartbeats 800000 in
theorem markMemberS_some (g n c k0 base : Nat) (xs : List Mb) (w : World) (h : w.ownsRow base 66 4 (.slice (some ⟨g, 0, none⟩) n c) n (xs.flatMap mbC)) (hn : n ≤ 1048576) (hk0 : k0 ≤ 1099511627776) :
    Calls Tryz.prog 68 #[.slice (some ⟨g, 0, none⟩) n c, .int .i64 k0] w fun e w' => e = .returned (.int .i64 ((k0 + n * 4 : Nat) : Int)) ∧
      w'.ownsRow base 66 4 (.slice (some ⟨g, 0, none⟩) n c) n ((marksM k0 n).flatMap mbC) ∧ w.grownBy w' (some g) ∧ w'.heap.size = w.heap.size := by
  go_enter Tryz.func68, Tryz.ntmps68
  go_wp2
  go_loopw [1, 5] (fun q i wr => ∃ (k : Nat) (z : Int) (tail : List Value), k ≤ n ∧ i = .int .i64 k ∧ q = .int .i64 z ∧ Hid (z = ((k0 + k * 4 : Nat) : Int)) ∧ wr.ownsRow base 66 4 (.slice (some ⟨g, 0, none⟩) n c) n (((marksM k0 n).take k).flatMap mbC ++ tail) ∧ w.grownBy wr (some g) ∧ Hid (wr.heap.size = w.heap.size)) (fun _ i _ => n - (intOf i).toNat)
  case atStart => exact ⟨0, _, _, by omega, rfl, rfl, Lib.hid (by simp), h, World.grownBy.refl _ _, Lib.hid rfl⟩
  case round =>
    obtain ⟨k, z, tail, hk, rfl, rfl, HZ, hown, hgr, HS⟩ := hrel
    clear h
    have hz0 : 0 ≤ z := by have := HZ.out; omega
    have hz1 : z ≤ 2199023255552 := by have := HZ.out; omega
    by_cases hlt : k < n
    · have HN := Lib.hid (own_next' mbC_len [.int .i64 (z), .int .i64 (z + 1), .int .i64 (z + 1 + 1), .int .i64 (z + 1 + 1 + 1)] (marksM_at k0 n k hlt) (marksM_vals k0 k z HZ.out) hlt hown (by rw [marksM_len]; omega))
      have ht := own_there hown (k * 4) 4 (by omega)
      obtain ⟨u0, h0⟩ := Option.isSome_iff_exists.1 (ht 0 (by omega)).1
      have f0 := (ht 0 (by omega)).2
      obtain ⟨u1, h1⟩ := Option.isSome_iff_exists.1 (ht 1 (by omega)).1
      have f1 := (ht 1 (by omega)).2
      obtain ⟨u2, h2⟩ := Option.isSome_iff_exists.1 (ht 2 (by omega)).1
      have f2 := (ht 2 (by omega)).2
      obtain ⟨u3, h3⟩ := Option.isSome_iff_exists.1 (ht 3 (by omega)).1
      have f3 := (ht 3 (by omega)).2
      simp only [Nat.add_zero] at h0 f0
      clear ht hown
      go_wp2
      go_roundw
      case rel => exact ⟨k + 1, _, _, by omega, by go_num, rfl, Lib.hid (by have := HZ.out; omega), HN.out.1, grown_tr hgr HN.out.2, Lib.hid (by simpa using HS.out)⟩
      case measure => simp [intOf]; omega
    · have hkn : k = n := by omega
      subst hkn
      have HO := Lib.hid (own_full mbC_len (marksM_len k0 k) hown)
      clear hown
      go_wp2
      go_ret
      exact ⟨ret_int HZ.out, HO.out, hgr, HS.out⟩
theorem markMemberS_nil (k0 : Nat) (w : World) :
    Calls Tryz.prog 68 #[.slice none 0 0, .int .i64 k0] w fun e w' => e = .returned (.int .i64 k0) ∧ w = w' := by
  go_enter Tryz.func68, Tryz.ntmps68
  go_wp2
  refine wp_loop_rounds 1 ?_
  rw [rounds_succ]
  go_wp2
  go_ret
  exact ⟨rfl, rfl⟩
theorem markMemberS_any (A : Option Addr) (n c k0 base : Nat) (xs : List Mb) (w : World) (h : w.ownsRow base 66 4 (.slice A n c) n (xs.flatMap mbC)) (hn : n ≤ 1048576) (hk0 : k0 ≤ 1099511627776) :
    Calls Tryz.prog 68 #[.slice A n c, .int .i64 k0] w fun e w' => e = .returned (.int .i64 ((k0 + n * 4 : Nat) : Int)) ∧
      w'.ownsRow base 66 4 (.slice A n c) n ((marksM k0 n).flatMap mbC) ∧ w.grownBy w' (Value.slice A n c).ownBlock ∧ w'.heap.size = w.heap.size := by
  rcases h.2 with ⟨hv, hn0⟩ | ⟨g, cap, cur, hv, _⟩
  · injection hv with h1 h2 h3
    subst h1; subst hn0; subst h3
    exact (markMemberS_nil k0 w).mono fun e w' ⟨he, hw⟩ => by subst hw; exact ⟨by rw [he]; simp, World.ownsRow_nil _ _ _ _, World.grownBy.refl _ _, rfl⟩
  · injection hv with h1 h2 h3
    subst h1
    exact markMemberS_some g n c k0 base xs w h hn hk0
set_option maxHeartbeats 800000 in
theorem heldMemberS_any (A : Option Addr) (n c k0 B : Nat) (w : World) (h : SRow 4 mbC w B A n (marksM k0 n)) (hn : n ≤ 1048576) (hk0 : k0 ≤ 1099511627776) :
    Calls Tryz.prog 71 #[.slice A n c, .int .i64 k0] w fun e w' => e = .returned (.int .i64 ((k0 + n * 4 : Nat) : Int)) ∧ w = w' := by
  go_enter Tryz.func71, Tryz.ntmps71
  go_wp2
  go_loop [1, 5] (fun q i => ∃ (k : Nat) (z : Int), k ≤ n ∧ i = .int .i64 k ∧ q = .int .i64 z ∧ Hid (z = ((k0 + k * 4 : Nat) : Int))) (fun _ i => n - (intOf i).toNat)
  case atStart => exact ⟨0, _, by omega, rfl, rfl, Lib.hid (by simp)⟩
  case round =>
    obtain ⟨k, z, hk, rfl, rfl, HZ⟩ := hrel
    have hz0 : 0 ≤ z := by have := HZ.out; omega
    have hz1 : z ≤ 2199023255552 := by have := HZ.out; omega
    by_cases hlt : k < n
    · obtain ⟨b, off, y, rfl, _, hy, hc⟩ := h.at_ hlt
      rw [marksM_at k0 n k hlt] at hy
      injection hy with hy
      subst hy
      rw [marksM_vals k0 k z HZ.out] at hc
      have c0 : w.cell? ⟨b, off + k * 4, none⟩ = some (.int .i64 (z)) := hc 0 _ rfl
      have c1 : w.cell? ⟨b, off + k * 4 + 1, none⟩ = some (.int .i64 (z + 1)) := hc 1 _ rfl
      have c2 : w.cell? ⟨b, off + k * 4 + 2, none⟩ = some (.int .i64 (z + 1 + 1)) := hc 2 _ rfl
      have c3 : w.cell? ⟨b, off + k * 4 + 3, none⟩ = some (.int .i64 (z + 1 + 1 + 1)) := hc 3 _ rfl
      clear hc h
      go_wp2
      go_round
      case rel => exact ⟨k + 1, _, by omega, by go_num, rfl, Lib.hid (by have := HZ.out; omega)⟩
      case measure => simp [intOf]; omega
    · have hkn : k = n := by omega
      subst hkn
      go_wp2
      go_ret
      exact ⟨ret_int HZ.out, rfl⟩
end Go.Proofs.YtmnmmjobplbflaaGreatDoor
namespace Go.Proofs.YtmnmmjobplbflaaGreatDoor
open Go.ChangeShapes Go.WideShapes Go.ChangeAt Go.RowKit
open Go.ChangeMaps (open_string shut_string)
set_option linter.unusedVariables false
set_option maxRecDepth 100000
def marksI (k0 n : Nat) : List Iv := (List.range n).map fun i => ⟨((k0 + i * 3 : Nat) : Int), ((k0 + i * 3 + 1 : Nat) : Int), ((k0 + i * 3 + 2 : Nat) : Int)⟩
theorem marksI_len (k0 n : Nat) : (marksI k0 n).length = n := by simp [marksI]
theorem marksI_at (k0 n k : Nat) (h : k < n) : (marksI k0 n)[k]? = some ⟨((k0 + k * 3 : Nat) : Int), ((k0 + k * 3 + 1 : Nat) : Int), ((k0 + k * 3 + 2 : Nat) : Int)⟩ := by simp [marksI, h]
theorem marksI_vals (k0 k : Nat) (z : Int) (hz : z = ((k0 + k * 3 : Nat) : Int)) : ivC ⟨((k0 + k * 3 : Nat) : Int), ((k0 + k * 3 + 1 : Nat) : Int), ((k0 + k * 3 + 2 : Nat) : Int)⟩ = [.int .i64 (z), .int .i64 (z + 1), .int .i64 (z + 1 + 1)] := by
  subst hz
  simp [ivC, Int.add_assoc]
set_option maxHeartbeats 800000 in
theorem markInviteS_some (g n c k0 base : Nat) (xs : List Iv) (w : World) (h : w.ownsRow base 36 3 (.slice (some ⟨g, 0, none⟩) n c) n (xs.flatMap ivC)) (hn : n ≤ 1048576) (hk0 : k0 ≤ 1099511627776) :
    Calls Tryz.prog 69 #[.slice (some ⟨g, 0, none⟩) n c, .int .i64 k0] w fun e w' => e = .returned (.int .i64 ((k0 + n * 3 : Nat) : Int)) ∧
      w'.ownsRow base 36 3 (.slice (some ⟨g, 0, none⟩) n c) n ((marksI k0 n).flatMap ivC) ∧ w.grownBy w' (some g) ∧ w'.heap.size = w.heap.size := by
  go_enter Tryz.func69, Tryz.ntmps69
  go_wp2
  go_loopw [1, 5] (fun q i wr => ∃ (k : Nat) (z : Int) (tail : List Value), k ≤ n ∧ i = .int .i64 k ∧ q = .int .i64 z ∧ Hid (z = ((k0 + k * 3 : Nat) : Int)) ∧ wr.ownsRow base 36 3 (.slice (some ⟨g, 0, none⟩) n c) n (((marksI k0 n).take k).flatMap ivC ++ tail) ∧ w.grownBy wr (some g) ∧ Hid (wr.heap.size = w.heap.size)) (fun _ i _ => n - (intOf i).toNat)
  case atStart => exact ⟨0, _, _, by omega, rfl, rfl, Lib.hid (by simp), h, World.grownBy.refl _ _, Lib.hid rfl⟩
  case round =>
    obtain ⟨k, z, tail, hk, rfl, rfl, HZ, hown, hgr, HS⟩ := hrel
    clear h
    have hz0 : 0 ≤ z := by have := HZ.out; omega
    have hz1 : z ≤ 2199023255552 := by have := HZ.out; omega
    by_cases hlt : k < n
    · have HN := Lib.hid (own_next' ivC_len [.int .i64 (z), .int .i64 (z + 1), .int .i64 (z + 1 + 1)] (marksI_at k0 n k hlt) (marksI_vals k0 k z HZ.out) hlt hown (by rw [marksI_len]; omega))
      have ht := own_there hown (k * 3) 3 (by omega)
      obtain ⟨u0, h0⟩ := Option.isSome_iff_exists.1 (ht 0 (by omega)).1
      have f0 := (ht 0 (by omega)).2
      obtain ⟨u1, h1⟩ := Option.isSome_iff_exists.1 (ht 1 (by omega)).1
      have f1 := (ht 1 (by omega)).2
      obtain ⟨u2, h2⟩ := Option.isSome_iff_exists.1 (ht 2 (by omega)).1
      have f2 := (ht 2 (by omega)).2
      simp only [Nat.add_zero] at h0 f0
      clear ht hown
      go_wp2
      go_roundw
      case rel => exact ⟨k + 1, _, _, by omega, by go_num, rfl, Lib.hid (by have := HZ.out; omega), HN.out.1, grown_tr hgr HN.out.2, Lib.hid (by simpa using HS.out)⟩
      case measure => simp [intOf]; omega
    · have hkn : k = n := by omega
      subst hkn
      have HO := Lib.hid (own_full ivC_len (marksI_len k0 k) hown)
      clear hown
      go_wp2
      go_ret
      exact ⟨ret_int HZ.out, HO.out, hgr, HS.out⟩
theorem markInviteS_nil (k0 : Nat) (w : World) :
    Calls Tryz.prog 69 #[.slice none 0 0, .int .i64 k0] w fun e w' => e = .returned (.int .i64 k0) ∧ w = w' := by
  go_enter Tryz.func69, Tryz.ntmps69
  go_wp2
  refine wp_loop_rounds 1 ?_
  rw [rounds_succ]
  go_wp2
  go_ret
  exact ⟨rfl, rfl⟩
theorem markInviteS_any (A : Option Addr) (n c k0 base : Nat) (xs : List Iv) (w : World) (h : w.ownsRow base 36 3 (.slice A n c) n (xs.flatMap ivC)) (hn : n ≤ 1048576) (hk0 : k0 ≤ 1099511627776) :
    Calls Tryz.prog 69 #[.slice A n c, .int .i64 k0] w fun e w' => e = .returned (.int .i64 ((k0 + n * 3 : Nat) : Int)) ∧
      w'.ownsRow base 36 3 (.slice A n c) n ((marksI k0 n).flatMap ivC) ∧ w.grownBy w' (Value.slice A n c).ownBlock ∧ w'.heap.size = w.heap.size := by
  rcases h.2 with ⟨hv, hn0⟩ | ⟨g, cap, cur, hv, _⟩
  · injection hv with h1 h2 h3
    subst h1; subst hn0; subst h3
    exact (markInviteS_nil k0 w).mono fun e w' ⟨he, hw⟩ => by subst hw; exact ⟨by rw [he]; simp, World.ownsRow_nil _ _ _ _, World.grownBy.refl _ _, rfl⟩
  · injection hv with h1 h2 h3
    subst h1
    exact markInviteS_some g n c k0 base xs w h hn hk0
set_option maxHeartbeats 800000 in
theorem heldInviteS_any (A : Option Addr) (n c k0 B : Nat) (w : World) (h : SRow 3 ivC w B A n (marksI k0 n)) (hn : n ≤ 1048576) (hk0 : k0 ≤ 1099511627776) :
    Calls Tryz.prog 72 #[.slice A n c, .int .i64 k0] w fun e w' => e = .returned (.int .i64 ((k0 + n * 3 : Nat) : Int)) ∧ w = w' := by
  go_enter Tryz.func72, Tryz.ntmps72
  go_wp2
  go_loop [1, 5] (fun q i => ∃ (k : Nat) (z : Int), k ≤ n ∧ i = .int .i64 k ∧ q = .int .i64 z ∧ Hid (z = ((k0 + k * 3 : Nat) : Int))) (fun _ i => n - (intOf i).toNat)
  case atStart => exact ⟨0, _, by omega, rfl, rfl, Lib.hid (by simp)⟩
  case round =>
    obtain ⟨k, z, hk, rfl, rfl, HZ⟩ := hrel
    have hz0 : 0 ≤ z := by have := HZ.out; omega
    have hz1 : z ≤ 2199023255552 := by have := HZ.out; omega
    by_cases hlt : k < n
    · obtain ⟨b, off, y, rfl, _, hy, hc⟩ := h.at_ hlt
      rw [marksI_at k0 n k hlt] at hy
      injection hy with hy
      subst hy
      rw [marksI_vals k0 k z HZ.out] at hc
      have c0 : w.cell? ⟨b, off + k * 3, none⟩ = some (.int .i64 (z)) := hc 0 _ rfl
      have c1 : w.cell? ⟨b, off + k * 3 + 1, none⟩ = some (.int .i64 (z + 1)) := hc 1 _ rfl
      have c2 : w.cell? ⟨b, off + k * 3 + 2, none⟩ = some (.int .i64 (z + 1 + 1)) := hc 2 _ rfl
      clear hc h
      go_wp2
      go_round
      case rel => exact ⟨k + 1, _, by omega, by go_num, rfl, Lib.hid (by have := HZ.out; omega)⟩
      case measure => simp [intOf]; omega
    · have hkn : k = n := by omega
      subst hkn
      go_wp2
      go_ret
      exact ⟨ret_int HZ.out, rfl⟩
end Go.Proofs.YtmnmmjobplbflaaGreatDoor
namespace Go.Proofs.YtmnmmjobplbflaaGreatDoor
open Go.ChangeShapes Go.WideShapes Go.ChangeAt Go.RowKit
open Go.ChangeMaps (open_string shut_string)
set_option linter.unusedVariables false
set_option maxRecDepth 100000
def marksB (k0 n : Nat) : List Bn := (List.range n).map fun i => ⟨((k0 + i * 2 : Nat) : Int), ((k0 + i * 2 + 1 : Nat) : Int)⟩
theorem marksB_len (k0 n : Nat) : (marksB k0 n).length = n := by simp [marksB]
theorem marksB_at (k0 n k : Nat) (h : k < n) : (marksB k0 n)[k]? = some ⟨((k0 + k * 2 : Nat) : Int), ((k0 + k * 2 + 1 : Nat) : Int)⟩ := by simp [marksB, h]
theorem marksB_vals (k0 k : Nat) (z : Int) (hz : z = ((k0 + k * 2 : Nat) : Int)) : bnC ⟨((k0 + k * 2 : Nat) : Int), ((k0 + k * 2 + 1 : Nat) : Int)⟩ = [.int .i64 (z), .int .i64 (z + 1)] := by
  subst hz
  simp [bnC, Int.add_assoc]
set_option maxHeartbeats 800000 in
theorem markBanS_some (g n c k0 base : Nat) (xs : List Bn) (w : World) (h : w.ownsRow base 38 2 (.slice (some ⟨g, 0, none⟩) n c) n (xs.flatMap bnC)) (hn : n ≤ 1048576) (hk0 : k0 ≤ 1099511627776) :
    Calls Tryz.prog 70 #[.slice (some ⟨g, 0, none⟩) n c, .int .i64 k0] w fun e w' => e = .returned (.int .i64 ((k0 + n * 2 : Nat) : Int)) ∧
      w'.ownsRow base 38 2 (.slice (some ⟨g, 0, none⟩) n c) n ((marksB k0 n).flatMap bnC) ∧ w.grownBy w' (some g) ∧ w'.heap.size = w.heap.size := by
  go_enter Tryz.func70, Tryz.ntmps70
  go_wp2
  go_loopw [1, 5] (fun q i wr => ∃ (k : Nat) (z : Int) (tail : List Value), k ≤ n ∧ i = .int .i64 k ∧ q = .int .i64 z ∧ Hid (z = ((k0 + k * 2 : Nat) : Int)) ∧ wr.ownsRow base 38 2 (.slice (some ⟨g, 0, none⟩) n c) n (((marksB k0 n).take k).flatMap bnC ++ tail) ∧ w.grownBy wr (some g) ∧ Hid (wr.heap.size = w.heap.size)) (fun _ i _ => n - (intOf i).toNat)
  case atStart => exact ⟨0, _, _, by omega, rfl, rfl, Lib.hid (by simp), h, World.grownBy.refl _ _, Lib.hid rfl⟩
  case round =>
    obtain ⟨k, z, tail, hk, rfl, rfl, HZ, hown, hgr, HS⟩ := hrel
    clear h
    have hz0 : 0 ≤ z := by have := HZ.out; omega
    have hz1 : z ≤ 2199023255552 := by have := HZ.out; omega
    by_cases hlt : k < n
    · have HN := Lib.hid (own_next' bnC_len [.int .i64 (z), .int .i64 (z + 1)] (marksB_at k0 n k hlt) (marksB_vals k0 k z HZ.out) hlt hown (by rw [marksB_len]; omega))
      have ht := own_there hown (k * 2) 2 (by omega)
      obtain ⟨u0, h0⟩ := Option.isSome_iff_exists.1 (ht 0 (by omega)).1
      have f0 := (ht 0 (by omega)).2
      obtain ⟨u1, h1⟩ := Option.isSome_iff_exists.1 (ht 1 (by omega)).1
      have f1 := (ht 1 (by omega)).2
      simp only [Nat.add_zero] at h0 f0
      clear ht hown
      go_wp2
      go_roundw
      case rel => exact ⟨k + 1, _, _, by omega, by go_num, rfl, Lib.hid (by have := HZ.out; omega), HN.out.1, grown_tr hgr HN.out.2, Lib.hid (by simpa using HS.out)⟩
      case measure => simp [intOf]; omega
    · have hkn : k = n := by omega
      subst hkn
      have HO := Lib.hid (own_full bnC_len (marksB_len k0 k) hown)
      clear hown
      go_wp2
      go_ret
      exact ⟨ret_int HZ.out, HO.out, hgr, HS.out⟩
theorem markBanS_nil (k0 : Nat) (w : World) :
    Calls Tryz.prog 70 #[.slice none 0 0, .int .i64 k0] w fun e w' => e = .returned (.int .i64 k0) ∧ w = w' := by
  go_enter Tryz.func70, Tryz.ntmps70
  go_wp2
  refine wp_loop_rounds 1 ?_
  rw [rounds_succ]
  go_wp2
  go_ret
  exact ⟨rfl, rfl⟩
theorem markBanS_any (A : Option Addr) (n c k0 base : Nat) (xs : List Bn) (w : World) (h : w.ownsRow base 38 2 (.slice A n c) n (xs.flatMap bnC)) (hn : n ≤ 1048576) (hk0 : k0 ≤ 1099511627776) :
    Calls Tryz.prog 70 #[.slice A n c, .int .i64 k0] w fun e w' => e = .returned (.int .i64 ((k0 + n * 2 : Nat) : Int)) ∧
      w'.ownsRow base 38 2 (.slice A n c) n ((marksB k0 n).flatMap bnC) ∧ w.grownBy w' (Value.slice A n c).ownBlock ∧ w'.heap.size = w.heap.size := by
  rcases h.2 with ⟨hv, hn0⟩ | ⟨g, cap, cur, hv, _⟩
  · injection hv with h1 h2 h3
    subst h1; subst hn0; subst h3
    exact (markBanS_nil k0 w).mono fun e w' ⟨he, hw⟩ => by subst hw; exact ⟨by rw [he]; simp, World.ownsRow_nil _ _ _ _, World.grownBy.refl _ _, rfl⟩
  · injection hv with h1 h2 h3
    subst h1
    exact markBanS_some g n c k0 base xs w h hn hk0
set_option maxHeartbeats 800000 in
theorem heldBanS_any (A : Option Addr) (n c k0 B : Nat) (w : World) (h : SRow 2 bnC w B A n (marksB k0 n)) (hn : n ≤ 1048576) (hk0 : k0 ≤ 1099511627776) :
    Calls Tryz.prog 73 #[.slice A n c, .int .i64 k0] w fun e w' => e = .returned (.int .i64 ((k0 + n * 2 : Nat) : Int)) ∧ w = w' := by
  go_enter Tryz.func73, Tryz.ntmps73
  go_wp2
  go_loop [1, 5] (fun q i => ∃ (k : Nat) (z : Int), k ≤ n ∧ i = .int .i64 k ∧ q = .int .i64 z ∧ Hid (z = ((k0 + k * 2 : Nat) : Int))) (fun _ i => n - (intOf i).toNat)
  case atStart => exact ⟨0, _, by omega, rfl, rfl, Lib.hid (by simp)⟩
  case round =>
    obtain ⟨k, z, hk, rfl, rfl, HZ⟩ := hrel
    have hz0 : 0 ≤ z := by have := HZ.out; omega
    have hz1 : z ≤ 2199023255552 := by have := HZ.out; omega
    by_cases hlt : k < n
    · obtain ⟨b, off, y, rfl, _, hy, hc⟩ := h.at_ hlt
      rw [marksB_at k0 n k hlt] at hy
      injection hy with hy
      subst hy
      rw [marksB_vals k0 k z HZ.out] at hc
      have c0 : w.cell? ⟨b, off + k * 2, none⟩ = some (.int .i64 (z)) := hc 0 _ rfl
      have c1 : w.cell? ⟨b, off + k * 2 + 1, none⟩ = some (.int .i64 (z + 1)) := hc 1 _ rfl
      clear hc h
      go_wp2
      go_round
      case rel => exact ⟨k + 1, _, by omega, by go_num, rfl, Lib.hid (by have := HZ.out; omega)⟩
      case measure => simp [intOf]; omega
    · have hkn : k = n := by omega
      subst hkn
      go_wp2
      go_ret
      exact ⟨ret_int HZ.out, rfl⟩
end Go.Proofs.YtmnmmjobplbflaaGreatDoor
namespace Go.Proofs.YtmnmmjobplbflaaGreatDoor
open Go.ChangeShapes Go.WideShapes Go.ChangeAt Go.RowKit
open Go.ChangeMaps (open_string shut_string)
set_option linter.unusedVariables false
set_option maxRecDepth 100000
theorem one_box (w : World) (t : TypeId) (c : Array Value) : Blk (w.alloc (.cells c t)) w.heap.size t c ∧ Below w.heap.size w (w.alloc (.cells c t)) :=
  ⟨Blk.new _ _ _, (Below.refl _ _).alloc (Nat.le_refl _) _⟩
theorem two_boxes (w : World) (t t' : TypeId) (c c' : Array Value) : Blk ((w.alloc (.cells c t)).alloc (.cells c' t')) w.heap.size t c ∧ Blk ((w.alloc (.cells c t)).alloc (.cells c' t')) (w.heap.size + 1) t' c' ∧ Below w.heap.size w ((w.alloc (.cells c t)).alloc (.cells c' t')) := by
  refine ⟨(Blk.new _ _ _).alloc _, ?_, ((Below.refl _ _).alloc (Nat.le_refl _) _).alloc (by simp) _⟩
  have := Blk.new (w.alloc (.cells c t)) t' c'
  simpa using this
set_option maxHeartbeats 800000 in
theorem eqRoom_same (o : Bool) (A1 A2 A3 A1' A2' A3' : Option Addr) (n1 c1 n2 c2 n3 c3 n1' c1' n2' c2' n3' c3' : Nat) (ms : List Mb) (vs : List Iv) (bs : List Bn) (w : World)
    (h : RoomAt w w.heap.size A1 n1 A2 n2 A3 n3 ms vs bs) (h' : RoomAt w w.heap.size A1' n1' A2' n2' A3' n3' ms vs bs) (hn : n1 + n2 + n3 ≤ 1048576) :
    Calls Tryz.prog 22 #[.agg #[.bool o, .slice A1 n1 c1, .slice A2 n2 c2, .slice A3 n3 c3], .agg #[.bool o, .slice A1' n1' c1', .slice A2' n2' c2', .slice A3' n3' c3']] w fun e w' => e = .returned (.bool true) ∧ Below w.heap.size w w' := by
  go_enter Tryz.func22, Tryz.ntmps22
  go_wp2_with fail
  obtain ⟨k0, k1, hb0⟩ := two_boxes w 28 28 #[.bool o, .slice A1 n1 c1, .slice A2 n2 c2, .slice A3 n3 c3] #[.bool o, .slice A1' n1' c1', .slice A2' n2' c2', .slice A3' n3' c3']
  generalize ((w.alloc (.cells #[.bool o, .slice A1 n1 c1, .slice A2 n2 c2, .slice A3 n3 c3] 28)).alloc (.cells #[.bool o, .slice A1' n1' c1', .slice A2' n2' c2', .slice A3' n3' c3'] 28)) = W at *
  have h := (h.below hb0).more hb0.size
  have h' := (h'.below hb0).more hb0.size
  go_at_call 65; refine (eqMemberS_same _ _ _ _ _ _ _ _ h.1 h'.1 (by omega)).mono ?_; rintro e w1 ⟨rfl, hb1⟩
  have h := h.to hb1
  have h' := h'.to hb1
  have k0 := k0.below hb1 k0.lt
  have k1 := k1.below hb1 k1.lt
  have hb0 := hb0.trans (hb1.mono hb0.size)
  clear hb1
  have l0 := k0.cell 2
  have l1 := k1.cell 2
  go_wp2_with fail
  go_at_call 66; refine (eqInviteS_same _ _ _ _ _ _ _ _ h.2.1 h'.2.1 (by omega)).mono ?_; rintro e w2 ⟨rfl, hb1⟩
  have h := h.to hb1
  have h' := h'.to hb1
  have k0 := k0.below hb1 k0.lt
  have k1 := k1.below hb1 k1.lt
  have hb0 := hb0.trans (hb1.mono hb0.size)
  clear hb1 l0 l1
  have l0 := k0.cell 3
  have l1 := k1.cell 3
  go_wp2_with fail
  go_at_call 67; refine (eqBanS_same _ _ _ _ _ _ _ _ h.2.2 h'.2.2 (by omega)).mono ?_; rintro e w3 ⟨rfl, hb1⟩
  have hb0 := hb0.trans (hb1.mono hb0.size)
  clear hb1 l0 l1
  go_wp2
  go_ret
  exact ⟨rfl, hb0⟩
set_option maxHeartbeats 800000 in
theorem heldRoom_any (o : Bool) (A1 A2 A3 : Option Addr) (n1 c1 n2 c2 n3 c3 k0 : Nat) (w : World)
    (h : RoomAt w w.heap.size A1 n1 A2 n2 A3 n3 (marksM k0 n1) (marksI (k0 + n1 * 4) n2) (marksB (k0 + n1 * 4 + n2 * 3) n3)) (hn : n1 + n2 + n3 ≤ 1048576) (hk : k0 ≤ 1073741824) :
    Calls Tryz.prog 24 #[.agg #[.bool o, .slice A1 n1 c1, .slice A2 n2 c2, .slice A3 n3 c3], .int .i64 k0] w fun e w' => e = .returned (.int .i64 ((k0 + n1 * 4 + n2 * 3 + n3 * 2 : Nat) : Int)) ∧ Below w.heap.size w w' := by
  go_enter Tryz.func24, Tryz.ntmps24
  go_wp2_with fail
  obtain ⟨_, hb0⟩ := one_box w 28 #[.bool o, .slice A1 n1 c1, .slice A2 n2 c2, .slice A3 n3 c3]
  have h := h.to hb0
  have e0 : ¬ (((k0 + n1 * 4 : Nat) : Int) < 0) := by omega
  have e1 : ¬ (((k0 + n1 * 4 + n2 * 3 : Nat) : Int) < 0) := by omega
  have e2 : ¬ (((k0 + n1 * 4 + n2 * 3 + n3 * 2 : Nat) : Int) < 0) := by omega
  go_at_call 71; refine (heldMemberS_any _ _ _ _ _ _ h.1 (by omega) (by omega)).mono ?_; rintro e w1 ⟨rfl, rfl⟩
  go_wp2_with fail
  go_at_call 72; refine (heldInviteS_any _ _ _ (k0 + n1 * 4) _ _ h.2.1 (by omega) (by omega)).mono ?_; rintro e w1 ⟨rfl, rfl⟩
  go_wp2_with fail
  go_at_call 73; refine (heldBanS_any _ _ _ (k0 + n1 * 4 + n2 * 3) _ _ h.2.2 (by omega) (by omega)).mono ?_; rintro e w1 ⟨rfl, rfl⟩
  go_wp2
  go_ret
  exact ⟨rfl, hb0⟩
theorem own_types2 {w : World} {b1 b2 e1 e2 s1 s2 n1 n2 : Nat} {v1 v2 : Value} {xs ys : List Value} (h1 : w.ownsRow b1 e1 s1 v1 n1 xs) (h2 : w.ownsRow b2 e2 s2 v2 n2 ys) (he : e1 ≠ e2) : v1.ownBlock = none ∨ v1.ownBlock ≠ v2.ownBlock := by
  rcases h1.2 with ⟨rfl, _⟩ | ⟨g, cap, cur, rfl, _, hg, _⟩
  · exact .inl rfl
  · right
    rcases h2.2 with ⟨rfl, _⟩ | ⟨g', cap', cur', rfl, _, hg', _⟩
    · simp [Value.ownBlock]
    · intro e
      have e' : g = g' := by simpa [Value.ownBlock] using e
      subst e'
      rw [hg] at hg'
      injection hg' with hg'
      injection hg' with _ ht _
      exact he ht
theorem blk_apart {w : World} {g t base e s n : Nat} {cs : Array Value} {v : Value} {xs : List Value} (hb : Blk w g t cs) (h : w.ownsRow base e s v n xs) (hne : t ≠ e) : some g ≠ v.ownBlock := by
  rcases h.2 with ⟨rfl, _⟩ | ⟨g', cap, cur, rfl, _, hg, _⟩
  · simp [Value.ownBlock]
  · intro e
    have e' : g = g' := by simpa [Value.ownBlock] using e
    subst e'
    unfold Blk at hb
    rw [hg] at hb
    injection hb with hb
    injection hb with _ ht _
    exact hne ht.symm
def apartFrom (v : Value) (A1 A2 A3 : Value) : Prop := v.ownBlock = none ∨ (v.ownBlock ≠ A1.ownBlock ∧ v.ownBlock ≠ A2.ownBlock ∧ v.ownBlock ≠ A3.ownBlock)
theorem below_own {B base e size n : Nat} {w0 w w' : World} {v : Value} {xs : List Value} (hb : Below B w0 w) (h : w.ownsRow base e size v n xs) (hg : w.grownBy w' v.ownBlock) (hB : B ≤ base) (hBw : B ≤ w.heap.size) : Below B w0 w' :=
  hb.grown hg hBw fun k hk => Nat.le_trans hB (h.lt k hk).1
set_option maxHeartbeats 800000 in
theorem markRoom_any (o : Bool) (A1 A2 A3 : Option Addr) (n1 c1 n2 c2 n3 c3 k0 base : Nat) (ms : List Mb) (vs : List Iv) (bs : List Bn) (w : World)
    (h : RoomOwn w base A1 n1 c1 A2 n2 c2 A3 n3 c3 ms vs bs) (hn : n1 + n2 + n3 ≤ 1048576) (hk : k0 ≤ 1073741824) :
    Calls Tryz.prog 23 #[.agg #[.bool o, .slice A1 n1 c1, .slice A2 n2 c2, .slice A3 n3 c3], .int .i64 k0] w fun e w' => e = .returned (.int .i64 ((k0 + n1 * 4 + n2 * 3 + n3 * 2 : Nat) : Int)) ∧
      RoomOwn w' base A1 n1 c1 A2 n2 c2 A3 n3 c3 (marksM k0 n1) (marksI (k0 + n1 * 4) n2) (marksB (k0 + n1 * 4 + n2 * 3) n3) ∧
      (∀ b1 e1 s1 v m zs, w.ownsRow b1 e1 s1 v m zs → apartFrom v (.slice A1 n1 c1) (.slice A2 n2 c2) (.slice A3 n3 c3) → w'.ownsRow b1 e1 s1 v m zs) ∧
      (∀ B w0, Below B w0 w → B ≤ base → B ≤ w.heap.size → Below B w0 w') ∧ w.heap.size ≤ w'.heap.size ∧
      (∀ g t cs, Blk w g t cs → t ≠ 66 → t ≠ 36 → t ≠ 38 → Blk w' g t cs) := by
  go_enter Tryz.func23, Tryz.ntmps23
  go_wp2_with fail
  obtain ⟨b0, hb0⟩ := one_box w 28 #[.bool o, .slice A1 n1 c1, .slice A2 n2 c2, .slice A3 n3 c3]
  have hh := h.below hb0 (Nat.le_refl _)
  have hk0 : ∀ b1 e1 s1 v m zs, w.ownsRow b1 e1 s1 v m zs → (w.alloc (.cells #[.bool o, .slice A1 n1 c1, .slice A2 n2 c2, .slice A3 n3 c3] 28)).ownsRow b1 e1 s1 v m zs := fun _ _ _ _ _ _ ho => own_below ho hb0 (Nat.le_refl _)
  have hB0 : ∀ B w0, Below B w0 w → B ≤ w.heap.size → Below B w0 (w.alloc (.cells #[.bool o, .slice A1 n1 c1, .slice A2 n2 c2, .slice A3 n3 c3] 28)) := fun B w0 hb hB => hb.trans (hb0.mono hB)
  have hK0 : ∀ g t cs, Blk w g t cs → Blk (w.alloc (.cells #[.bool o, .slice A1 n1 c1, .slice A2 n2 c2, .slice A3 n3 c3] 28)) g t cs := fun _ _ _ hk => hk.alloc _
  have hs0 : w.heap.size ≤ (w.alloc (.cells #[.bool o, .slice A1 n1 c1, .slice A2 n2 c2, .slice A3 n3 c3] 28)).heap.size := hb0.size
  have b0l := b0.lt
  generalize (w.alloc (.cells #[.bool o, .slice A1 n1 c1, .slice A2 n2 c2, .slice A3 n3 c3] 28)) = W at *
  clear h hb0
  obtain ⟨h1, h2, h3⟩ := hh
  go_at_call 68; refine (markMemberS_any _ _ _ _ _ _ _ h1 (by omega) (by omega)).mono ?_; rintro e w1 ⟨rfl, ho1, hg1, hz1⟩
  have x2 := own_types2 h2 h1 (by decide)
  have x3 := own_types2 h3 h1 (by decide)
  have b1 := b0.grown hg1 (blk_apart b0 h1 (by decide))
  have h2 := h2.kept hg1 x2
  have h3 := h3.kept hg1 x3
  have hH2 := h2
  have l0 := b1.cell 2
  go_wp2_with fail
  go_at_call 69; refine (markInviteS_any _ _ _ (k0 + n1 * 4) _ _ _ h2 (by omega) (by omega)).mono ?_; rintro e w2 ⟨rfl, ho2, hg2, hz2⟩
  have y1 := own_types2 ho1 h2 (by decide)
  have y3 := own_types2 h3 h2 (by decide)
  have b2 := b1.grown hg2 (blk_apart b1 h2 (by decide))
  have ho1' := ho1.kept hg2 y1
  have h3 := h3.kept hg2 y3
  have hH3 := h3
  clear l0
  have l0 := b2.cell 3
  go_wp2_with fail
  go_at_call 70; refine (markBanS_any _ _ _ (k0 + n1 * 4 + n2 * 3) _ _ _ h3 (by omega) (by omega)).mono ?_; rintro e w3 ⟨rfl, ho3, hg3, hz3⟩
  have z1 := own_types2 ho1' h3 (by decide)
  have z2 := own_types2 ho2 h3 (by decide)
  have ho1' := ho1'.kept hg3 z1
  have ho2' := ho2.kept hg3 z2
  have HF : (∀ b1 e1 s1 v m zs, w.ownsRow b1 e1 s1 v m zs → apartFrom v (.slice A1 n1 c1) (.slice A2 n2 c2) (.slice A3 n3 c3) → w3.ownsRow b1 e1 s1 v m zs) := fun b1 e1 s1 v m zs hz ha => by
    rcases ha with ha | ⟨a1, a2, a3⟩
    · exact ((((hk0 _ _ _ _ _ _ hz).kept hg1 (.inl ha)).kept hg2 (.inl ha)).kept hg3 (.inl ha))
    · exact ((((hk0 _ _ _ _ _ _ hz).kept hg1 (.inr a1)).kept hg2 (.inr a2)).kept hg3 (.inr a3))
  have HB : (∀ B w0, Below B w0 w → B ≤ base → B ≤ w.heap.size → Below B w0 w3) := fun B w0 hb hB hBw =>
    below_own (below_own (below_own (hB0 B w0 hb hBw) h1 hg1 hB (by omega)) h2 hg2 hB (by omega)) h3 hg3 hB (by omega)
  have HS : w.heap.size ≤ w3.heap.size := by omega
  have HK : (∀ g t cs, Blk w g t cs → t ≠ 66 → t ≠ 36 → t ≠ 38 → Blk w3 g t cs) := fun g t cs hk t1 t2 t3 =>
    let k1 := (hK0 g t cs hk).grown hg1 (blk_apart (hK0 g t cs hk) h1 t1)
    let k2 := k1.grown hg2 (blk_apart k1 hH2 t2)
    k2.grown hg3 (blk_apart k2 hH3 t3)
  have HF := Lib.hid HF
  have HB := Lib.hid HB
  have HK := Lib.hid HK
  clear hk0 hB0 hK0
  go_wp2
  go_ret
  exact ⟨rfl, ⟨ho1', ho2', ho3⟩, HF.out, HB.out, HS, HK.out⟩
end Go.Proofs.YtmnmmjobplbflaaGreatDoor
