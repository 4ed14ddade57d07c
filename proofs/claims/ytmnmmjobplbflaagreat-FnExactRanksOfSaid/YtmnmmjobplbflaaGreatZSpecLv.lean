import Derived.Test.YtmnmmjobplbflaaGreatChecked
import Derived.WalkKit
import Derived.ProofKit
import Derived.OpenShut
import Derived.ShutString
import Derived.ChangeOld
import Derived.Below
import Derived.Lib.Hide
import Derived.Deep.QuietTactic
import Derived.BigQuiet
import Derived.Test.YtmnmmjobplbflaaGreatZRankT
import Derived.Test.YtmnmmjobplbflaaGreatJm
namespace Go.Proofs.YtmnmmjobplbflaaGreat
open Go.ChangeShapes Go.WideShapes Go.ChangeAt Go.RowKit
open Go.ChangeMaps (open_string shut_string)
set_option linter.unusedVariables false
set_option maxRecDepth 100000
theorem mb_cells {w : World} {b o : Nat} {x : Mb} (h : w.rangeAt b o (mbC x)) : w.cell? ⟨b, o, none⟩ = some (.int .i64 x.id) ∧ w.cell? ⟨b, o + 1, none⟩ = some (.int .i64 x.role) ∧ w.cell? ⟨b, o + 2, none⟩ = some (.int .i64 x.since) :=
  ⟨h 0 _ rfl, h 1 _ rfl, h 2 _ rfl⟩
set_option maxHeartbeats 1600000 in
theorem l02Before_any (b o b' o' : Nat) (x y : Mb) (v : Bool) (w : World) (hc : w.rangeAt b o (mbC x)) (hc' : w.rangeAt b' o' (mbC y)) (hv : rankLt x y = v) :
    Calls Tryz.prog 17 #[.pointer (some ⟨b, o, none⟩), .pointer (some ⟨b', o', none⟩)] w fun e w' => e = .returned (.bool v) ∧ ∃ q, w' = w.drewN q := by
  subst hv
  obtain ⟨c0, c1, c2⟩ := mb_cells hc
  obtain ⟨d0, d1, d2⟩ := mb_cells hc'
  clear hc hc'
  cases er : (x.role == y.role) with
  | false =>
    have en : (x.role != y.role) = true := by simp [bne, er]
    have HF := Lib.hid (show rankLt x y = decide (y.role < x.role) by rw [rankLt, if_neg (by intro e; rw [e] at er; simp at er)])
    go_enter Tryz.func17, Tryz.ntmps17
    go_wp2
    go_quiet (fail)
    go_wp2
    go_quiet (fail)
    go_wp2
    go_ret
    exact ⟨ret_bool HF.out.symm, by first | exact ⟨_, rfl⟩ | exact ⟨_, World.drewN_drewN ..⟩⟩
  | true =>
    have en : (x.role != y.role) = false := by simp [bne, er]
    cases es : (x.since == y.since) with
    | false =>
      have en2 : (x.since != y.since) = true := by simp [bne, es]
      have HF := Lib.hid (show rankLt x y = decide (x.since < y.since) by rw [rankLt, if_pos (eq_of_beq er), if_neg (by intro e; rw [e] at es; simp at es)])
      go_enter Tryz.func17, Tryz.ntmps17
      go_wp2
      go_quiet (fail)
      go_wp2
      go_quiet (fail)
      go_wp2
      go_quiet (fail)
      go_wp2
      go_ret
      exact ⟨ret_bool HF.out.symm, by first | exact ⟨_, rfl⟩ | exact ⟨_, World.drewN_drewN ..⟩ | exact ⟨_, by rw [World.drewN_drewN, World.drewN_drewN]⟩⟩
    | true =>
      have en2 : (x.since != y.since) = false := by simp [bne, es]
      have HF := Lib.hid (show rankLt x y = decide (x.id < y.id) by rw [rankLt, if_pos (eq_of_beq er), if_pos (eq_of_beq es)])
      go_enter Tryz.func17, Tryz.ntmps17
      go_wp2
      go_quiet (fail)
      go_wp2
      go_quiet (fail)
      go_wp2
      go_quiet (fail)
      go_wp2
      go_ret
      exact ⟨ret_bool HF.out.symm, by first | exact ⟨_, rfl⟩ | exact ⟨_, World.drewN_drewN ..⟩ | exact ⟨_, by rw [World.drewN_drewN, World.drewN_drewN]⟩⟩
end Go.Proofs.YtmnmmjobplbflaaGreat
