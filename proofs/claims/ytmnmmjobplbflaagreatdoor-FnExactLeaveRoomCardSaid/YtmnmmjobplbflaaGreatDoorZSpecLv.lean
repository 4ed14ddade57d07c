import Derived.Test.YtmnmmjobplbflaaGreatDoorChecked
import Derived.WalkKit
import Derived.ProofKit
import Derived.OpenShut
import Derived.ShutString
import Derived.ChangeOld
import Derived.Below
import Derived.Lib.Hide
import Derived.Deep.QuietTactic
import Derived.BigQuiet
import Derived.Test.YtmnmmjobplbflaaGreatDoorZRankT
import Derived.Test.YtmnmmjobplbflaaGreatDoorJm
namespace Go.Proofs.YtmnmmjobplbflaaGreatDoor
open Go.ChangeShapes Go.WideShapes Go.ChangeAt Go.RowKit
open Go.ChangeMaps (open_string shut_string)
set_option linter.unusedVariables false
set_option maxRecDepth 100000
theorem mb_cells {w : World} {b o : Nat} {x : Mb} (h : w.rangeAt b o (mbC x)) : w.cell? ⟨b, o, none⟩ = some (.int .i64 x.id) ∧ w.cell? ⟨b, o + 1, none⟩ = some (.int .i64 x.role) ∧ w.cell? ⟨b, o + 2, none⟩ = some (.int .i64 x.since) :=
  ⟨h 0 _ rfl, h 1 _ rfl, h 2 _ rfl⟩
set_option maxHeartbeats 1600000 in
theorem l02Before_any (b o b' o' : Nat) (x y : Mb) (v : Bool) (w : World) (hc : w.rangeAt b o (mbC x)) (hc' : w.rangeAt b' o' (mbC y)) (hv : rankLt x y = v) :
    Calls Tryz.prog 59 #[.pointer (some ⟨b, o, none⟩), .pointer (some ⟨b', o', none⟩)] w fun e w' => e = .returned (.bool v) ∧ ∃ q, w' = w.drewN q := by
  subst hv
  obtain ⟨c0, c1, c2⟩ := mb_cells hc
  obtain ⟨d0, d1, d2⟩ := mb_cells hc'
  clear hc hc'
  cases er : (x.role == y.role) with
  | false =>
    have en : (x.role != y.role) = true := by simp [bne, er]
    have HF := Lib.hid (show rankLt x y = decide (y.role < x.role) by rw [rankLt, if_neg (by intro e; rw [e] at er; simp at er)])
    go_enter Tryz.func59, Tryz.ntmps59
    go_wp2
    go_quiet (fail)
    go_wp2
    go_quiet (fail)
    go_wp2
    go_ret
    exact ⟨ret_bool HF.out.symm, by first | exact ⟨_, rfl⟩ | exact ⟨_, World.drewN_drewN ..⟩⟩
  | true =>
    have en : (x.role != y.role) = false := by simp [bne, er]
    cases es : (x.since == y.since) with
    | false =>
      have en2 : (x.since != y.since) = true := by simp [bne, es]
      have HF := Lib.hid (show rankLt x y = decide (x.since < y.since) by rw [rankLt, if_pos (eq_of_beq er), if_neg (by intro e; rw [e] at es; simp at es)])
      go_enter Tryz.func59, Tryz.ntmps59
      go_wp2
      go_quiet (fail)
      go_wp2
      go_quiet (fail)
      go_wp2
      go_quiet (fail)
      go_wp2
      go_ret
      exact ⟨ret_bool HF.out.symm, by first | exact ⟨_, rfl⟩ | exact ⟨_, World.drewN_drewN ..⟩ | exact ⟨_, by rw [World.drewN_drewN, World.drewN_drewN]⟩⟩
    | true =>
      have en2 : (x.since != y.since) = false := by simp [bne, es]
      have HF := Lib.hid (show rankLt x y = decide (x.id < y.id) by rw [rankLt, if_pos (eq_of_beq er), if_pos (eq_of_beq es)])
      go_enter Tryz.func59, Tryz.ntmps59
      go_wp2
      go_quiet (fail)
      go_wp2
      go_quiet (fail)
      go_wp2
      go_quiet (fail)
      go_wp2
      go_ret
      exact ⟨ret_bool HF.out.symm, by first | exact ⟨_, rfl⟩ | exact ⟨_, World.drewN_drewN ..⟩ | exact ⟨_, by rw [World.drewN_drewN, World.drewN_drewN]⟩⟩
theorem l02Heir_any (A : Option Addr) (n c B : Nat) (xs : List Mb) (w : World) (h : SRow 4 mbC w B A n xs) (hn : n ≤ 1048576) :
    Calls Tryz.prog 61 #[.slice A n c] w fun e w' => e = .returned (.int .i64 (heirL xs)) ∧ w' = w := by
  have HL := Lib.hid h.1
  obtain ⟨v, hv⟩ : ∃ v, heirL xs = v := ⟨_, rfl⟩
  have HV := Lib.hid hv
  rw [hv]
  clear hv
  go_enter Tryz.func61, Tryz.ntmps61
  go_wp2
  go_loopw [3] (fun i wr => ∃ k : Nat, k ≤ n ∧ i = .int .i64 k ∧ wr = w ∧ Hid (∀ j x, j < k → xs[j]? = some x → x.role ≠ 3)) (fun i _ => n - (intOf i).toNat)
  case atStart => exact ⟨0, by omega, rfl, rfl, Lib.hid (fun j _ hj => by omega)⟩
  case round =>
    obtain ⟨k, hk, rfl, rfl, HT⟩ := hrel
    by_cases hlt : k < n
    · have hlt' : decide ((k : Int) < (n : Int)) = true := decide_eq_true (by omega)
      obtain ⟨b, off, z, rfl, hb, hz, c0, c1, c2, c3⟩ := h.atm hlt
      have hp : (0 : Int) ≤ (k : Int) := by omega
      have hp2 : (k : Int) < (n : Int) := by omega
      cases er : (z.role == 3) with
      | true =>
        have HF := Lib.hid (show v = 0 by rw [← HV.out]; exact heir_yes (List.mem_of_getElem? hz) (eq_of_beq er))
        clear hz h
        go_wp2
        go_ret
        exact ⟨by rw [HF.out]; rfl, rfl⟩
      | false =>
        have HN := Lib.hid (show ∀ j x, j < k + 1 → xs[j]? = some x → x.role ≠ 3 from fun j x hj hx => by
          by_cases e : j < k
          · exact HT.out j x e hx
          · have : j = k := by omega
            subst this
            rw [hz] at hx; cases hx
            intro e; rw [e] at er; simp at er)
        clear hz
        go_wp2
        go_roundw
        case rel => exact ⟨k + 1, by omega, by go_num, by first | rfl | trivial, HN⟩
        case measure => simp [intOf]; omega
    · have hlt' : decide ((k : Int) < (n : Int)) = false := decide_eq_false (by omega)
      have HF := Lib.hid (show v = 3 by
        rw [← HV.out]
        refine heir_no fun x hx => ?_
        obtain ⟨j, hj, e⟩ := List.mem_iff_getElem.1 hx
        exact HT.out j x (by have := HL.out; omega) (by rw [List.getElem?_eq_getElem hj, e]))
      go_wp2
      go_ret
      exact ⟨by rw [HF.out]; rfl, rfl⟩
theorem l00Max_any (a b : Int) (w : World) : Calls Tryz.prog 60 #[.int .i64 a, .int .i64 b] w fun e w' => e = .returned (.int .i64 (if b < a then a else b)) ∧ w' = w := by
  by_cases h : b < a
  · rw [if_pos h]
    have h' : decide (b < a) = true := decide_eq_true h
    go_enter Tryz.func60, Tryz.ntmps60
    go_wp2
    go_ret
    exact ⟨rfl, rfl⟩
  · rw [if_neg h]
    have h' : decide (b < a) = false := decide_eq_false h
    go_enter Tryz.func60, Tryz.ntmps60
    go_wp2
    go_ret
    exact ⟨rfl, rfl⟩
end Go.Proofs.YtmnmmjobplbflaaGreatDoor
