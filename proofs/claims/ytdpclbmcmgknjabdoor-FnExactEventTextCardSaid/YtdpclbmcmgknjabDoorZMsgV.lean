import Derived.Test.YtdpclbmcmgknjabDoorChecked
import Derived.WalkKit
import Derived.ProofKit
import Derived.OpenShut
import Derived.ShutString
import Derived.ChangeOld
import Derived.Below
import Derived.Lib.Hide
import Derived.Deep.QuietTactic
import Derived.BigQuiet
import Derived.Test.YtdpclbmcmgknjabDoorZMsgT
import Derived.Test.YtdpclbmcmgknjabDoorZLessSetC
import Derived.Test.YtdpclbmcmgknjabDoorZIsTextC
import Derived.Test.YtdpclbmcmgknjabDoorZSoundC
namespace Go.Proofs.YtdpclbmcmgknjabDoor
open Go.ChangeShapes Go.WideShapes Go.ChangeAt Go.RowKit
open Go.ChangeMaps (open_string shut_string)
set_option linter.unusedVariables false
set_option maxRecDepth 100000
theorem nat_beq0 (n : Nat) : ((n : Int) == 0) = decide (n = 0) := by rw [Bool.eq_iff_iff]; simp
theorem l00In_b (n lo hi : Int) (b : Bool) (w : World) (h : decide (lo ≤ n ∧ n ≤ hi) = b) : Calls Tryd.prog 19 #[.int .i64 n, .int .i64 lo, .int .i64 hi] w fun e w' => e = .returned (.bool b) ∧ w = w' := by
  by_cases hh : lo ≤ n ∧ n ≤ hi
  · obtain rfl : b = true := by rw [← h]; simpa using hh
    exact l00In_yes n lo hi w hh
  · obtain rfl : b = false := by rw [← h]; simpa using hh
    exact l00In_no n lo hi w hh
theorem isNumber_b (n : Int) (b : Bool) (w : World) (h : numB n = b) : Calls Tryd.prog 25 #[.int .i64 n] w fun e w' => e = .returned (.bool b) ∧ w = w' := by
  by_cases h0 : n < 1
  · obtain rfl : b = false := by rw [← h]; simp [numB]; omega
    have h1 : decide (1 ≤ n) = false := decide_eq_false (by omega)
    clear h
    go_enter Tryd.func25, Tryd.ntmps25
    go_wp2
    go_ret
    exact ⟨rfl, rfl⟩
  · have h0' : 1 ≤ n := by omega
    have e : decide (n ≤ 1000000000) = b := by rw [← h]; simp [numB, h0']
    have E := Lib.hid e
    clear h h0 e
    go_enter Tryd.func25, Tryd.ntmps25
    go_wp2
    go_ret
    exact ⟨ret_bool E.out, rfl⟩
theorem l01Tick_b (n : Int) (b : Bool) (w : World) (h : tickB n = b) : Calls Tryd.prog 21 #[.int .i64 n] w fun e w' => e = .returned (.bool b) ∧ w = w' := by
  by_cases hh : 0 ≤ n ∧ n ≤ 1000000
  · obtain rfl : b = true := by rw [← h]; simpa [tickB] using hh
    clear h
    go_enter Tryd.func21, Tryd.ntmps21
    go_wp2_with (go_at_call 19; refine (l00In_yes _ _ _ _ hh).mono ?_; rintro e w' ⟨rfl, rfl⟩)
    go_ret
    exact ⟨rfl, rfl⟩
  · obtain rfl : b = false := by rw [← h]; simpa [tickB] using hh
    clear h
    go_enter Tryd.func21, Tryd.ntmps21
    go_wp2_with (go_at_call 19; refine (l00In_no _ _ _ _ hh).mono ?_; rintro e w' ⟨rfl, rfl⟩)
    go_ret
    exact ⟨rfl, rfl⟩
theorem l01Mem_b (n : Int) (b : Bool) (w : World) (h : idB n = b) : Calls Tryd.prog 20 #[.int .i64 n] w fun e w' => e = .returned (.bool b) ∧ w = w' := by
  by_cases hh : 1 ≤ n ∧ n ≤ 1000
  · obtain rfl : b = true := by rw [← h]; simpa [idB] using hh
    clear h
    go_enter Tryd.func20, Tryd.ntmps20
    go_wp2_with (go_at_call 19; refine (l00In_yes _ _ _ _ hh).mono ?_; rintro e w' ⟨rfl, rfl⟩)
    go_ret
    exact ⟨rfl, rfl⟩
  · obtain rfl : b = false := by rw [← h]; simpa [idB] using hh
    clear h
    go_enter Tryd.func20, Tryd.ntmps20
    go_wp2_with (go_at_call 19; refine (l00In_no _ _ _ _ hh).mono ?_; rintro e w' ⟨rfl, rfl⟩)
    go_ret
    exact ⟨rfl, rfl⟩
theorem l01Text_b (s : ByteArray) (b : Bool) (w : World) (hs : s.size ≤ 1048576) (h : textB s = b) : Calls Tryd.prog 22 #[.string s] w fun e w' => e = .returned (.bool b) ∧ w = w' := by
  subst h; exact l01IsText_any s w (by unfold maxLen; omega)
theorem IsText_b (s : ByteArray) (b : Bool) (w : World) (hs : s.size ≤ 1048576) (h : textB s = b) : Calls Tryd.prog 28 #[.string s] w fun e w' => e = .returned (.bool b) ∧ w = w' := by
  subst h; exact impl_IsText_any s w (by unfold maxLen; omega)
/-- slices.Index: found or not -/
def IdxI (b : Bool) (w : World) (e : Ending) (w' : World) : Prop := ∃ p : Int, e = .returned (.int .i64 p) ∧ decide (0 ≤ p) = b ∧ w = w'
theorem msg_cells {w : World} {b o : Nat} {r : Rm} (h : w.rangeAt b o (rmC r)) : w.cell? ⟨b, o, none⟩ = some (.int .i64 r.m.num) ∧ w.cell? ⟨b, o + 1, none⟩ = some (.int .i64 r.m.sdr) ∧ w.cell? ⟨b, o + 2, none⟩ = some (.int .i64 r.m.tick) ∧ w.cell? ⟨b, o + 3, none⟩ = some (.string r.m.text) ∧
    w.cell? ⟨b, o + 4, none⟩ = some (.int .i64 r.m.edits) ∧ w.cell? ⟨b, o + 5, none⟩ = some (.bool r.m.gone) ∧ w.cell? ⟨b, o + 6, none⟩ = some (.int .i64 r.m.reply) ∧ w.cell? ⟨b, o + 7, none⟩ = some (.slice r.la r.ln r.lc) :=
  ⟨h 0 _ rfl, h 1 _ rfl, h 2 _ rfl, h 3 _ rfl, h 4 _ rfl, h 5 _ rfl, h 6 _ rfl, h 7 _ rfl⟩
theorem blk_range {w : World} {g t : Nat} {r : Rm} (h : Blk w g t #[.int .i64 r.m.num, .int .i64 r.m.sdr, .int .i64 r.m.tick, .string r.m.text, .int .i64 r.m.edits, .bool r.m.gone, .int .i64 r.m.reply, .slice r.la r.ln r.lc]) : w.rangeAt g 0 (rmC r) := fun j v hv => by
  rw [Nat.zero_add, h.cell, ← Array.getElem?_toList]
  exact hv
theorem msg_pos {n : Int} (h : numB n = true) : 1 ≤ n ∧ n ≤ 1000000000 := of_decide_eq_true h
theorem quiet_add {P : Program} {f : FuncId} {args : Array Value} {w : World} {a n : Nat} {v : Value}
    (h : Calls P f args (w.drewN (a + n)) fun e w' => e = .returned v ∧ ∃ m, w' = (w.drewN (a + n)).drewN m) :
    Calls P f args (w.drewN (a + n)) fun e w'' => e = .returned v ∧ ∃ m, w'' = w.drewN (a + m) :=
  h.mono fun _ _ ⟨he, m, hm⟩ => ⟨he, n + m, by rw [hm, World.drewN_drewN, Nat.add_assoc]⟩
theorem quiet_add_left {P : Program} {f : FuncId} {args : Array Value} {w : World} {a n : Nat} {v : Value}
    (h : Calls P f args (w.drewN (a + n)) fun e w' => e = .returned v ∧ w.drewN (a + n) = w') :
    Calls P f args (w.drewN (a + n)) fun e w'' => e = .returned v ∧ ∃ m, w'' = w.drewN (a + m) :=
  h.mono fun _ _ ⟨he, hm⟩ => ⟨he, n, hm.symm⟩
theorem Calls.quiet_at2 {P : Program} {f : FuncId} {args : Array Value} {w : World} {n : Nat} {v : Value}
    (h : Calls P f args (w.drewN n) fun e w' => e = .returned v ∧ ∃ q, w' = (w.drewN n).drewN q) : Calls P f args (w.drewN n) fun e w'' => e = .returned v ∧ ∃ m, w'' = w.drewN m :=
  h.mono fun _ _ ⟨he, q, hm⟩ => ⟨he, n + q, by rw [hm, World.drewN_drewN]⟩
end Go.Proofs.YtdpclbmcmgknjabDoor
