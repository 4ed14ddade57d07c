import Derived.Test.YtdpclbmcmgknjaaChecked
import Derived.WalkKit
import Derived.ProofKit
import Derived.OpenShut
import Derived.ShutString
import Derived.ChangeOld
import Derived.Below
import Derived.Lib.Hide
import Derived.StillTailTactics
import Derived.Test.YtdpclbmcmgknjaaZToT
namespace Go.Proofs.Ytdpclbmcmgknjaa
open Go.ChangeShapes Go.WideShapes Go.ChangeAt Go.RowKit
open Go.ChangeMaps (open_string shut_string)
set_option linter.unusedVariables false
set_option maxRecDepth 100000
theorem eqStrike_same (z : Iv) (w : World) :
    Calls Try.prog 75 #[.agg #[.int .i64 z.id, .int .i64 z.byy, .int .i64 z.til], .agg #[.int .i64 z.id, .int .i64 z.byy, .int .i64 z.til]] w fun e w' => e = .returned (.bool true) ∧ Below w.heap.size w w' := by
  go_enter Try.func75, Try.ntmps75
  go_wp2
  go_ret
  exact ⟨rfl, by repeat (first | exact Below.refl _ _ | refine Below.setCell ?_ (by simp) _ | refine Below.alloc ?_ (by first | (simp; omega) | simp) _)⟩
theorem szStrikeS_ok (A : Option Addr) (n c : Nat) (l : Int) (w : World) (h : (n : Int) ≤ l) (hl : l ≤ 1048576) :
    Calls Try.prog 24 #[.slice A n c, .int .i64 l] w fun e w' => e = .returned (.int .i64 (l - n)) ∧ w = w' := by
  have h1 : ¬ (l - (n : Int) < 0) := by omega
  go_enter Try.func24, Try.ntmps24
  go_wp2
  go_ret
  exact ⟨rfl, rfl⟩
theorem szStrikeS_no (A : Option Addr) (n c : Nat) (l : Int) (w : World) (h : l < (n : Int)) (hl : 0 ≤ l) (hn : (n : Int) ≤ 9223372036854775807) :
    Calls Try.prog 24 #[.slice A n c, .int .i64 l] w fun e w' => e = .returned (.int .i64 (-1)) ∧ w = w' := by
  go_enter Try.func24, Try.ntmps24
  go_wp2
  go_ret
  exact ⟨rfl, rfl⟩
set_option maxHeartbeats 800000 in
theorem eqStrikeS_same (A A' : Option Addr) (n c n' c' : Nat) (xs : List Iv) (w : World) (h : SRow 3 ivC w w.heap.size A n xs) (h' : SRow 3 ivC w w.heap.size A' n' xs) (hn : n ≤ 1048576) :
    Calls Try.prog 29 #[.slice A n c, .slice A' n' c'] w fun e w' => e = .returned (.bool true) ∧ Below w.heap.size w w' := by
  obtain rfl : n' = n := by rw [← h.1, ← h'.1]
  go_enter Try.func29, Try.ntmps29
  go_wp2
  go_loopw [5] (fun i wr => ∃ k : Nat, k ≤ n' ∧ i = .int .i64 k ∧ Below w.heap.size w wr) (fun i _ => n' - (intOf i).toNat)
  case atStart => exact ⟨0, by omega, rfl, Below.refl _ _⟩
  case round =>
    obtain ⟨k, hk, rfl, hbel⟩ := hrel
    by_cases hlt : k < n'
    · obtain ⟨b, off, z, rfl, hb, hz, c0, c1, c2⟩ := h.ativ hlt
      obtain ⟨b', off', z', rfl, hb', hz', e0, e1, e2⟩ := h'.ativ hlt
      rw [hz] at hz'
      injection hz' with hz'
      subst hz'
      clear hz
      have d0 := (hbel.cell (p := ⟨b, off + k * 3, none⟩) hb).trans c0
      have f0 := (hbel.cell (p := ⟨b', off' + k * 3, none⟩) hb').trans e0
      have d1 := (hbel.cell (p := ⟨b, off + k * 3 + 1, none⟩) hb).trans c1
      have f1 := (hbel.cell (p := ⟨b', off' + k * 3 + 1, none⟩) hb').trans e1
      have d2 := (hbel.cell (p := ⟨b, off + k * 3 + 2, none⟩) hb).trans c2
      have f2 := (hbel.cell (p := ⟨b', off' + k * 3 + 2, none⟩) hb').trans e2
      have hbs := hbel.size
      have hp : (0 : Int) ≤ (k : Int) := by omega
      have hq : (k : Int) < (n' : Int) := by omega
      clear c0 c1 c2 e0 e1 e2 h h'
      go_wp2_with fail
      go_still_tail 8, (by kernel_rfl)
      go_wp2_with (go_at_call 75; refine (eqStrike_same z _).mono ?_; rintro e w4 ⟨rfl, hb4⟩)
      have hbel4 : Below w.heap.size w w4 := hbel.drew.trans (hb4.mono hbs)
      clear hbel hb4
      go_roundw
      case rel => exact ⟨k + 1, by omega, by go_num, hbel4⟩
      case measure => simp [intOf]; omega
    · have hkn : k = n' := by omega
      subst hkn
      go_wp2
      go_ret
      exact ⟨rfl, hbel⟩
end Go.Proofs.Ytdpclbmcmgknjaa
