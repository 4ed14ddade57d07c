import Derived.Test.YthekkjblgnjmgaaChecked
import Derived.WalkKit
import Derived.ProofKit
import Derived.OpenShut
import Derived.ShutString
import Derived.ChangeOld
import Derived.Below
import Derived.Lib.Hide
import Derived.Deep.QuietTactic
import Derived.BigQuiet
import Derived.Test.YthekkjblgnjmgaaSameG0
namespace Go.Proofs.Ythekkjblgnjmgaa
open Go.ChangeShapes Go.WideShapes Go.ChangeAt Go.RowKit
open Go.ChangeMaps (open_string shut_string)
set_option linter.unusedVariables false
set_option maxRecDepth 100000
set_option maxHeartbeats 3200000 in
theorem isSame_any (a b : Mg) (la la' : Option Addr) (ln lc ln' lc' : Nat) (w : World) (h : Row i64v w w.heap.size la ln a.likes) (h' : Row i64v w w.heap.size la' ln' b.likes) (hn : ln ≤ 1048576) (hn' : ln' ≤ 1048576) :
    Calls Try.prog 52 #[.agg #[.int .i64 a.num, .int .i64 a.sdr, .int .i64 a.tick, .string a.text, .int .i64 a.edits, .bool a.gone, .int .i64 a.reply, .slice la ln lc], .agg #[.int .i64 b.num, .int .i64 b.sdr, .int .i64 b.tick, .string b.text, .int .i64 b.edits, .bool b.gone, .int .i64 b.reply, .slice la' ln' lc']] w fun e w' => e = .returned (.bool (sameG a b)) ∧ Below w.heap.size w w' := by
  have HA := Lib.hid (fun o o' : Obj => (h.alloc (Nat.le_refl _) o).alloc (by simp) o')
  have HB := Lib.hid (fun o o' : Obj => (h'.alloc (Nat.le_refl _) o).alloc (by simp) o')
  clear h h'
  cases q0 : (a.num == b.num) with
  | false =>
    have n0 : (a.num != b.num) = true := by simp [bne, q0]
    have HF := Lib.hid (show sameG a b = false by simp only [sameG, q0]; simp)
    go_enter Try.func52, Try.ntmps52
    go_wp2
    go_ret
    exact ⟨ret_bool HF.out.symm, ((Below.refl _ _).alloc (Nat.le_refl _) _).alloc (by simp) _⟩
  | true =>
    cases q1 : (a.sdr == b.sdr) with
    | false =>
      have n0 : (a.num != b.num) = false := by simp [bne, q0]
      have n1 : (a.sdr != b.sdr) = true := by simp [bne, q1]
      have HF := Lib.hid (show sameG a b = false by simp only [sameG, q0, q1]; simp)
      go_enter Try.func52, Try.ntmps52
      go_wp2
      go_ret
      exact ⟨ret_bool HF.out.symm, ((Below.refl _ _).alloc (Nat.le_refl _) _).alloc (by simp) _⟩
    | true =>
      cases q2 : (a.tick == b.tick) with
      | false =>
        have n0 : (a.num != b.num) = false := by simp [bne, q0]
        have n1 : (a.sdr != b.sdr) = false := by simp [bne, q1]
        have n2 : (a.tick != b.tick) = true := by simp [bne, q2]
        have HF := Lib.hid (show sameG a b = false by simp only [sameG, q0, q1, q2]; simp)
        go_enter Try.func52, Try.ntmps52
        go_wp2
        go_ret
        exact ⟨ret_bool HF.out.symm, ((Below.refl _ _).alloc (Nat.le_refl _) _).alloc (by simp) _⟩
      | true =>
        cases q3 : (a.text.toList == b.text.toList) with
        | false =>
          have n0 : (a.num != b.num) = false := by simp [bne, q0]
          have n1 : (a.sdr != b.sdr) = false := by simp [bne, q1]
          have n2 : (a.tick != b.tick) = false := by simp [bne, q2]
          have n3 : (a.text.toList != b.text.toList) = true := by simp [bne, q3]
          have HF := Lib.hid (show sameG a b = false by simp only [sameG, q0, q1, q2, q3]; simp)
          go_enter Try.func52, Try.ntmps52
          go_wp2
          go_ret
          exact ⟨ret_bool HF.out.symm, ((Below.refl _ _).alloc (Nat.le_refl _) _).alloc (by simp) _⟩
        | true =>
          cases q4 : (a.edits == b.edits) with
          | false =>
            have n0 : (a.num != b.num) = false := by simp [bne, q0]
            have n1 : (a.sdr != b.sdr) = false := by simp [bne, q1]
            have n2 : (a.tick != b.tick) = false := by simp [bne, q2]
            have n3 : (a.text.toList != b.text.toList) = false := by simp [bne, q3]
            have HF := Lib.hid (show sameG a b = false by simp only [sameG, q0, q1, q2, q3, q4]; simp)
            go_enter Try.func52, Try.ntmps52
            go_wp2
            go_ret
            exact ⟨ret_bool HF.out.symm, ((Below.refl _ _).alloc (Nat.le_refl _) _).alloc (by simp) _⟩
          | true =>
            cases q5 : (a.gone == b.gone) with
            | false =>
              have n0 : (a.num != b.num) = false := by simp [bne, q0]
              have n1 : (a.sdr != b.sdr) = false := by simp [bne, q1]
              have n2 : (a.tick != b.tick) = false := by simp [bne, q2]
              have n3 : (a.text.toList != b.text.toList) = false := by simp [bne, q3]
              have HF := Lib.hid (show sameG a b = false by simp only [sameG, q0, q1, q2, q3, q4, q5]; simp)
              go_enter Try.func52, Try.ntmps52
              go_wp2
              go_ret
              exact ⟨ret_bool HF.out.symm, ((Below.refl _ _).alloc (Nat.le_refl _) _).alloc (by simp) _⟩
            | true =>
              cases q6 : (a.reply == b.reply) with
              | false =>
                have n0 : (a.num != b.num) = false := by simp [bne, q0]
                have n1 : (a.sdr != b.sdr) = false := by simp [bne, q1]
                have n2 : (a.tick != b.tick) = false := by simp [bne, q2]
                have n3 : (a.text.toList != b.text.toList) = false := by simp [bne, q3]
                have HF := Lib.hid (show sameG a b = false by simp only [sameG, q0, q1, q2, q3, q4, q5, q6]; simp)
                go_enter Try.func52, Try.ntmps52
                go_wp2
                go_ret
                exact ⟨ret_bool HF.out.symm, ((Below.refl _ _).alloc (Nat.le_refl _) _).alloc (by simp) _⟩
              | true =>
                cases q7 : decide (a.likes = b.likes) with
                | false =>
                  have n0 : (a.num != b.num) = false := by simp [bne, q0]
                  have n1 : (a.sdr != b.sdr) = false := by simp [bne, q1]
                  have n2 : (a.tick != b.tick) = false := by simp [bne, q2]
                  have n3 : (a.text.toList != b.text.toList) = false := by simp [bne, q3]
                  have HF := Lib.hid (show sameG a b = false by simp only [sameG, q0, q1, q2, q3, q4, q5, q6, q7]; simp)
                  go_enter Try.func52, Try.ntmps52
                  go_wp2_with (go_at_call 72; refine (slEqual_b _ _ _ _ _ _ _ _ _ _ _ _ (HA.out _ _) (HB.out _ _) hn hn' q7).mono ?_; rintro e w2 ⟨rfl, q, rfl⟩)
                  go_ret
                  exact ⟨ret_bool HF.out.symm, (((Below.refl _ _).alloc (Nat.le_refl _) _).alloc (by simp) _).trans (Below.mono (drew_below ⟨q, rfl⟩) (by simp; omega))⟩
                | true =>
                  have n0 : (a.num != b.num) = false := by simp [bne, q0]
                  have n1 : (a.sdr != b.sdr) = false := by simp [bne, q1]
                  have n2 : (a.tick != b.tick) = false := by simp [bne, q2]
                  have n3 : (a.text.toList != b.text.toList) = false := by simp [bne, q3]
                  have HF := Lib.hid (show sameG a b = true by simp only [sameG, q0, q1, q2, q3, q4, q5, q6, q7]; rfl)
                  go_enter Try.func52, Try.ntmps52
                  go_wp2_with (go_at_call 72; refine (slEqual_b _ _ _ _ _ _ _ _ _ _ _ _ (HA.out _ _) (HB.out _ _) hn hn' q7).mono ?_; rintro e w2 ⟨rfl, q, rfl⟩)
                  go_ret
                  exact ⟨ret_bool HF.out.symm, (((Below.refl _ _).alloc (Nat.le_refl _) _).alloc (by simp) _).trans (Below.mono (drew_below ⟨q, rfl⟩) (by simp; omega))⟩
end Go.Proofs.Ythekkjblgnjmgaa
