import Derived.Test.YtdpclbmcmgknjaaChecked
import Derived.WalkKit
import Derived.ProofKit
import Derived.OpenShut
import Derived.ShutString
import Derived.ChangeOld
import Derived.Below
import Derived.Lib.Hide
import Derived.Test.YtdpclbmcmgknjaaJd
import Derived.Test.YtdpclbmcmgknjaaJu
namespace Go.Proofs.Ytdpclbmcmgknjaa
open Go.ChangeShapes Go.WideShapes Go.ChangeAt Go.RowKit
open Go.ChangeMaps (open_string shut_string)
set_option linter.unusedVariables false
set_option maxRecDepth 100000
set_option maxHeartbeats 800000 in
theorem markLeaseS_some (g n c k0 base : Nat) (xs : List Bn) (w : World) (h : w.ownsRow base 136 2 (.slice (some ⟨g, 0, none⟩) n c) n (xs.flatMap bnC)) (hn : n ≤ 1048576) (hk0 : k0 ≤ 1099511627776) :
    Calls Try.prog 107 #[.slice (some ⟨g, 0, none⟩) n c, .int .i64 k0] w fun e w' => e = .returned (.int .i64 ((k0 + n * 2 : Nat) : Int)) ∧
      w'.ownsRow base 136 2 (.slice (some ⟨g, 0, none⟩) n c) n ((marksB k0 n).flatMap bnC) ∧ w.grownBy w' (some g) ∧ w'.heap.size = w.heap.size := by
  go_enter Try.func107, Try.ntmps107
  go_wp2
  go_loopw [1, 5] (fun q i wr => ∃ (k : Nat) (z : Int) (tail : List Value), k ≤ n ∧ i = .int .i64 k ∧ q = .int .i64 z ∧ Hid (z = ((k0 + k * 2 : Nat) : Int)) ∧ wr.ownsRow base 136 2 (.slice (some ⟨g, 0, none⟩) n c) n (((marksB k0 n).take k).flatMap bnC ++ tail) ∧ w.grownBy wr (some g) ∧ Hid (wr.heap.size = w.heap.size)) (fun _ i _ => n - (intOf i).toNat)
  case atStart => exact ⟨0, _, _, by omega, rfl, rfl, Lib.hid (by simp), h, World.grownBy.refl _ _, Lib.hid rfl⟩
  case round =>
    obtain ⟨k, z, tail, hk, rfl, rfl, HZ, hown, hgr, HS⟩ := hrel
    clear h
    have hz0 : 0 ≤ z := by have := HZ.out; omega
    have hz1 : z ≤ 2199023255552 := by have := HZ.out; omega
    by_cases hlt : k < n
    · have HN := Lib.hid (own_next' bnC_len [.int .i64 (z), .int .i64 (z + 1)] (marksB_at k0 n k hlt) (marksB_vals k0 k z HZ.out) hlt hown (by rw [marksB_len]; omega))
      have ht := own_there hown (k * 2) 2 (by omega)
      obtain ⟨u0, h0⟩ := Option.isSome_iff_exists.1 (ht 0 (by omega)).1
      have f0 := (ht 0 (by omega)).2
      obtain ⟨u1, h1⟩ := Option.isSome_iff_exists.1 (ht 1 (by omega)).1
      have f1 := (ht 1 (by omega)).2
      simp only [Nat.add_zero] at h0 f0
      clear ht hown
      go_wp2
      go_roundw
      case rel => exact ⟨k + 1, _, _, by omega, by go_num, rfl, Lib.hid (by have := HZ.out; omega), HN.out.1, grown_tr hgr HN.out.2, Lib.hid (by simpa using HS.out)⟩
      case measure => simp [intOf]; omega
    · have hkn : k = n := by omega
      subst hkn
      have HO := Lib.hid (own_full bnC_len (marksB_len k0 k) hown)
      clear hown
      go_wp2
      go_ret
      exact ⟨ret_int HZ.out, HO.out, hgr, HS.out⟩
theorem markLeaseS_nil (k0 : Nat) (w : World) :
    Calls Try.prog 107 #[.slice none 0 0, .int .i64 k0] w fun e w' => e = .returned (.int .i64 k0) ∧ w = w' := by
  go_enter Try.func107, Try.ntmps107
  go_wp2
  refine wp_loop_rounds 1 ?_
  rw [rounds_succ]
  go_wp2
  go_ret
  exact ⟨rfl, rfl⟩
theorem markLeaseS_any (A : Option Addr) (n c k0 base : Nat) (xs : List Bn) (w : World) (h : w.ownsRow base 136 2 (.slice A n c) n (xs.flatMap bnC)) (hn : n ≤ 1048576) (hk0 : k0 ≤ 1099511627776) :
    Calls Try.prog 107 #[.slice A n c, .int .i64 k0] w fun e w' => e = .returned (.int .i64 ((k0 + n * 2 : Nat) : Int)) ∧
      w'.ownsRow base 136 2 (.slice A n c) n ((marksB k0 n).flatMap bnC) ∧ w.grownBy w' (Value.slice A n c).ownBlock ∧ w'.heap.size = w.heap.size := by
  rcases h.2 with ⟨hv, hn0⟩ | ⟨g, cap, cur, hv, _⟩
  · injection hv with h1 h2 h3
    subst h1; subst hn0; subst h3
    exact (markLeaseS_nil k0 w).mono fun e w' ⟨he, hw⟩ => by subst hw; exact ⟨by rw [he]; simp, World.ownsRow_nil _ _ _ _, World.grownBy.refl _ _, rfl⟩
  · injection hv with h1 h2 h3
    subst h1
    exact markLeaseS_some g n c k0 base xs w h hn hk0
set_option maxHeartbeats 800000 in
theorem heldLeaseS_any (A : Option Addr) (n c k0 B : Nat) (w : World) (h : SRow 2 bnC w B A n (marksB k0 n)) (hn : n ≤ 1048576) (hk0 : k0 ≤ 1099511627776) :
    Calls Try.prog 109 #[.slice A n c, .int .i64 k0] w fun e w' => e = .returned (.int .i64 ((k0 + n * 2 : Nat) : Int)) ∧ w = w' := by
  go_enter Try.func109, Try.ntmps109
  go_wp2
  go_loop [1, 5] (fun q i => ∃ (k : Nat) (z : Int), k ≤ n ∧ i = .int .i64 k ∧ q = .int .i64 z ∧ Hid (z = ((k0 + k * 2 : Nat) : Int))) (fun _ i => n - (intOf i).toNat)
  case atStart => exact ⟨0, _, by omega, rfl, rfl, Lib.hid (by simp)⟩
  case round =>
    obtain ⟨k, z, hk, rfl, rfl, HZ⟩ := hrel
    have hz0 : 0 ≤ z := by have := HZ.out; omega
    have hz1 : z ≤ 2199023255552 := by have := HZ.out; omega
    by_cases hlt : k < n
    · obtain ⟨b, off, y, rfl, _, hy, hc⟩ := h.at_ hlt
      rw [marksB_at k0 n k hlt] at hy
      injection hy with hy
      subst hy
      rw [marksB_vals k0 k z HZ.out] at hc
      have c0 : w.cell? ⟨b, off + k * 2, none⟩ = some (.int .i64 (z)) := hc 0 _ rfl
      have c1 : w.cell? ⟨b, off + k * 2 + 1, none⟩ = some (.int .i64 (z + 1)) := hc 1 _ rfl
      clear hc h
      go_wp2
      go_round
      case rel => exact ⟨k + 1, _, by omega, by go_num, rfl, Lib.hid (by have := HZ.out; omega)⟩
      case measure => simp [intOf]; omega
    · have hkn : k = n := by omega
      subst hkn
      go_wp2
      go_ret
      exact ⟨ret_int HZ.out, rfl⟩
end Go.Proofs.Ytdpclbmcmgknjaa
namespace Go.Proofs.Ytdpclbmcmgknjaa
open Go.ChangeShapes Go.WideShapes Go.ChangeAt Go.RowKit
open Go.ChangeMaps (open_string shut_string)
set_option linter.unusedVariables false
set_option maxRecDepth 100000
set_option maxHeartbeats 800000 in
theorem markMarkS_some (g n c k0 base : Nat) (xs : List Bn) (w : World) (h : w.ownsRow base 139 2 (.slice (some ⟨g, 0, none⟩) n c) n (xs.flatMap bnC)) (hn : n ≤ 1048576) (hk0 : k0 ≤ 1099511627776) :
    Calls Try.prog 108 #[.slice (some ⟨g, 0, none⟩) n c, .int .i64 k0] w fun e w' => e = .returned (.int .i64 ((k0 + n * 2 : Nat) : Int)) ∧
      w'.ownsRow base 139 2 (.slice (some ⟨g, 0, none⟩) n c) n ((marksB k0 n).flatMap bnC) ∧ w.grownBy w' (some g) ∧ w'.heap.size = w.heap.size := by
  go_enter Try.func108, Try.ntmps108
  go_wp2
  go_loopw [1, 5] (fun q i wr => ∃ (k : Nat) (z : Int) (tail : List Value), k ≤ n ∧ i = .int .i64 k ∧ q = .int .i64 z ∧ Hid (z = ((k0 + k * 2 : Nat) : Int)) ∧ wr.ownsRow base 139 2 (.slice (some ⟨g, 0, none⟩) n c) n (((marksB k0 n).take k).flatMap bnC ++ tail) ∧ w.grownBy wr (some g) ∧ Hid (wr.heap.size = w.heap.size)) (fun _ i _ => n - (intOf i).toNat)
  case atStart => exact ⟨0, _, _, by omega, rfl, rfl, Lib.hid (by simp), h, World.grownBy.refl _ _, Lib.hid rfl⟩
  case round =>
    obtain ⟨k, z, tail, hk, rfl, rfl, HZ, hown, hgr, HS⟩ := hrel
    clear h
    have hz0 : 0 ≤ z := by have := HZ.out; omega
    have hz1 : z ≤ 2199023255552 := by have := HZ.out; omega
    by_cases hlt : k < n
    · have HN := Lib.hid (own_next' bnC_len [.int .i64 (z), .int .i64 (z + 1)] (marksB_at k0 n k hlt) (marksB_vals k0 k z HZ.out) hlt hown (by rw [marksB_len]; omega))
      have ht := own_there hown (k * 2) 2 (by omega)
      obtain ⟨u0, h0⟩ := Option.isSome_iff_exists.1 (ht 0 (by omega)).1
      have f0 := (ht 0 (by omega)).2
      obtain ⟨u1, h1⟩ := Option.isSome_iff_exists.1 (ht 1 (by omega)).1
      have f1 := (ht 1 (by omega)).2
      simp only [Nat.add_zero] at h0 f0
      clear ht hown
      go_wp2
      go_roundw
      case rel => exact ⟨k + 1, _, _, by omega, by go_num, rfl, Lib.hid (by have := HZ.out; omega), HN.out.1, grown_tr hgr HN.out.2, Lib.hid (by simpa using HS.out)⟩
      case measure => simp [intOf]; omega
    · have hkn : k = n := by omega
      subst hkn
      have HO := Lib.hid (own_full bnC_len (marksB_len k0 k) hown)
      clear hown
      go_wp2
      go_ret
      exact ⟨ret_int HZ.out, HO.out, hgr, HS.out⟩
theorem markMarkS_nil (k0 : Nat) (w : World) :
    Calls Try.prog 108 #[.slice none 0 0, .int .i64 k0] w fun e w' => e = .returned (.int .i64 k0) ∧ w = w' := by
  go_enter Try.func108, Try.ntmps108
  go_wp2
  refine wp_loop_rounds 1 ?_
  rw [rounds_succ]
  go_wp2
  go_ret
  exact ⟨rfl, rfl⟩
theorem markMarkS_any (A : Option Addr) (n c k0 base : Nat) (xs : List Bn) (w : World) (h : w.ownsRow base 139 2 (.slice A n c) n (xs.flatMap bnC)) (hn : n ≤ 1048576) (hk0 : k0 ≤ 1099511627776) :
    Calls Try.prog 108 #[.slice A n c, .int .i64 k0] w fun e w' => e = .returned (.int .i64 ((k0 + n * 2 : Nat) : Int)) ∧
      w'.ownsRow base 139 2 (.slice A n c) n ((marksB k0 n).flatMap bnC) ∧ w.grownBy w' (Value.slice A n c).ownBlock ∧ w'.heap.size = w.heap.size := by
  rcases h.2 with ⟨hv, hn0⟩ | ⟨g, cap, cur, hv, _⟩
  · injection hv with h1 h2 h3
    subst h1; subst hn0; subst h3
    exact (markMarkS_nil k0 w).mono fun e w' ⟨he, hw⟩ => by subst hw; exact ⟨by rw [he]; simp, World.ownsRow_nil _ _ _ _, World.grownBy.refl _ _, rfl⟩
  · injection hv with h1 h2 h3
    subst h1
    exact markMarkS_some g n c k0 base xs w h hn hk0
set_option maxHeartbeats 800000 in
theorem heldMarkS_any (A : Option Addr) (n c k0 B : Nat) (w : World) (h : SRow 2 bnC w B A n (marksB k0 n)) (hn : n ≤ 1048576) (hk0 : k0 ≤ 1099511627776) :
    Calls Try.prog 110 #[.slice A n c, .int .i64 k0] w fun e w' => e = .returned (.int .i64 ((k0 + n * 2 : Nat) : Int)) ∧ w = w' := by
  go_enter Try.func110, Try.ntmps110
  go_wp2
  go_loop [1, 5] (fun q i => ∃ (k : Nat) (z : Int), k ≤ n ∧ i = .int .i64 k ∧ q = .int .i64 z ∧ Hid (z = ((k0 + k * 2 : Nat) : Int))) (fun _ i => n - (intOf i).toNat)
  case atStart => exact ⟨0, _, by omega, rfl, rfl, Lib.hid (by simp)⟩
  case round =>
    obtain ⟨k, z, hk, rfl, rfl, HZ⟩ := hrel
    have hz0 : 0 ≤ z := by have := HZ.out; omega
    have hz1 : z ≤ 2199023255552 := by have := HZ.out; omega
    by_cases hlt : k < n
    · obtain ⟨b, off, y, rfl, _, hy, hc⟩ := h.at_ hlt
      rw [marksB_at k0 n k hlt] at hy
      injection hy with hy
      subst hy
      rw [marksB_vals k0 k z HZ.out] at hc
      have c0 : w.cell? ⟨b, off + k * 2, none⟩ = some (.int .i64 (z)) := hc 0 _ rfl
      have c1 : w.cell? ⟨b, off + k * 2 + 1, none⟩ = some (.int .i64 (z + 1)) := hc 1 _ rfl
      clear hc h
      go_wp2
      go_round
      case rel => exact ⟨k + 1, _, by omega, by go_num, rfl, Lib.hid (by have := HZ.out; omega)⟩
      case measure => simp [intOf]; omega
    · have hkn : k = n := by omega
      subst hkn
      go_wp2
      go_ret
      exact ⟨ret_int HZ.out, rfl⟩
end Go.Proofs.Ytdpclbmcmgknjaa
