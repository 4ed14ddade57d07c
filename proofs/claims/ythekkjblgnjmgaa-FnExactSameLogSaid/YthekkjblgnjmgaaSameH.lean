import Derived.Test.YthekkjblgnjmgaaChecked
import Derived.WalkKit
import Derived.ProofKit
import Derived.OpenShut
import Derived.ShutString
import Derived.ChangeOld
import Derived.Below
import Derived.Lib.Hide
import Derived.Deep.QuietTactic
import Derived.BigQuiet
import Derived.Test.YthekkjblgnjmgaaSameG0
namespace Go.Proofs.Ythekkjblgnjmgaa
open Go.ChangeShapes Go.WideShapes Go.ChangeAt Go.RowKit
open Go.ChangeMaps (open_string shut_string)
set_option linter.unusedVariables false
set_option maxRecDepth 100000
set_option maxHeartbeats 4000000 in
theorem same_leaf0 (b o b' o' B B' : Nat) (r t : Rm) (w : World) (hc : w.rangeAt b o (rmC r)) (hc' : w.rangeAt b' o' (rmC t)) (h : Row i64v w B r.la r.ln r.m.likes) (h' : Row i64v w B' t.la t.ln t.m.likes) (hn : r.ln ≤ 1048576) (hn' : t.ln ≤ 1048576) (q0 : (r.m.num == t.m.num) = false) :
    Calls Try.prog 71 #[.pointer (some ⟨b, o, none⟩), .pointer (some ⟨b', o', none⟩)] w fun e w' => e = .returned (.bool false) ∧ ∃ q, w' = w.drewN q := by
  obtain ⟨c0, c1, c2, c3, c4, c5, c6, c7⟩ := msg_cells hc
  obtain ⟨d0, d1, d2, d3, d4, d5, d6, d7⟩ := msg_cells hc'
  clear hc hc'
  go_enter Try.func71, Try.ntmps71
  go_wp2
  simp only [List.append_eq, List.cons_append, List.nil_append]
  go_quiet (fail)
  go_wp2
  go_ret
  exact ⟨ret_bool rfl, by first | exact ⟨_, rfl⟩ | exact ⟨_, World.drewN_drewN ..⟩⟩
set_option maxHeartbeats 4000000 in
theorem same_leaf1 (b o b' o' B B' : Nat) (r t : Rm) (w : World) (hc : w.rangeAt b o (rmC r)) (hc' : w.rangeAt b' o' (rmC t)) (h : Row i64v w B r.la r.ln r.m.likes) (h' : Row i64v w B' t.la t.ln t.m.likes) (hn : r.ln ≤ 1048576) (hn' : t.ln ≤ 1048576) (q0 : (r.m.num == t.m.num) = true) (q1 : (r.m.sdr == t.m.sdr) = false) :
    Calls Try.prog 71 #[.pointer (some ⟨b, o, none⟩), .pointer (some ⟨b', o', none⟩)] w fun e w' => e = .returned (.bool false) ∧ ∃ q, w' = w.drewN q := by
  obtain ⟨c0, c1, c2, c3, c4, c5, c6, c7⟩ := msg_cells hc
  obtain ⟨d0, d1, d2, d3, d4, d5, d6, d7⟩ := msg_cells hc'
  clear hc hc'
  go_enter Try.func71, Try.ntmps71
  go_wp2
  simp only [List.append_eq, List.cons_append, List.nil_append]
  go_quiet (fail)
  go_wp2
  go_ret
  exact ⟨ret_bool rfl, by first | exact ⟨_, rfl⟩ | exact ⟨_, World.drewN_drewN ..⟩⟩
set_option maxHeartbeats 4000000 in
theorem same_leaf2 (b o b' o' B B' : Nat) (r t : Rm) (w : World) (hc : w.rangeAt b o (rmC r)) (hc' : w.rangeAt b' o' (rmC t)) (h : Row i64v w B r.la r.ln r.m.likes) (h' : Row i64v w B' t.la t.ln t.m.likes) (hn : r.ln ≤ 1048576) (hn' : t.ln ≤ 1048576) (q0 : (r.m.num == t.m.num) = true) (q1 : (r.m.sdr == t.m.sdr) = true) (q2 : (r.m.tick == t.m.tick) = false) :
    Calls Try.prog 71 #[.pointer (some ⟨b, o, none⟩), .pointer (some ⟨b', o', none⟩)] w fun e w' => e = .returned (.bool false) ∧ ∃ q, w' = w.drewN q := by
  obtain ⟨c0, c1, c2, c3, c4, c5, c6, c7⟩ := msg_cells hc
  obtain ⟨d0, d1, d2, d3, d4, d5, d6, d7⟩ := msg_cells hc'
  clear hc hc'
  go_enter Try.func71, Try.ntmps71
  go_wp2
  simp only [List.append_eq, List.cons_append, List.nil_append]
  go_quiet (fail)
  go_wp2
  go_ret
  exact ⟨ret_bool rfl, by first | exact ⟨_, rfl⟩ | exact ⟨_, World.drewN_drewN ..⟩⟩
set_option maxHeartbeats 4000000 in
theorem same_leaf3 (b o b' o' B B' : Nat) (r t : Rm) (w : World) (hc : w.rangeAt b o (rmC r)) (hc' : w.rangeAt b' o' (rmC t)) (h : Row i64v w B r.la r.ln r.m.likes) (h' : Row i64v w B' t.la t.ln t.m.likes) (hn : r.ln ≤ 1048576) (hn' : t.ln ≤ 1048576) (q0 : (r.m.num == t.m.num) = true) (q1 : (r.m.sdr == t.m.sdr) = true) (q2 : (r.m.tick == t.m.tick) = true) (q3 : (r.m.text.toList == t.m.text.toList) = false) :
    Calls Try.prog 71 #[.pointer (some ⟨b, o, none⟩), .pointer (some ⟨b', o', none⟩)] w fun e w' => e = .returned (.bool false) ∧ ∃ q, w' = w.drewN q := by
  obtain ⟨c0, c1, c2, c3, c4, c5, c6, c7⟩ := msg_cells hc
  obtain ⟨d0, d1, d2, d3, d4, d5, d6, d7⟩ := msg_cells hc'
  clear hc hc'
  go_enter Try.func71, Try.ntmps71
  go_wp2
  simp only [List.append_eq, List.cons_append, List.nil_append]
  go_quiet (fail)
  go_wp2
  go_ret
  exact ⟨ret_bool rfl, by first | exact ⟨_, rfl⟩ | exact ⟨_, World.drewN_drewN ..⟩⟩
set_option maxHeartbeats 4000000 in
theorem same_leaf4 (b o b' o' B B' : Nat) (r t : Rm) (w : World) (hc : w.rangeAt b o (rmC r)) (hc' : w.rangeAt b' o' (rmC t)) (h : Row i64v w B r.la r.ln r.m.likes) (h' : Row i64v w B' t.la t.ln t.m.likes) (hn : r.ln ≤ 1048576) (hn' : t.ln ≤ 1048576) (q0 : (r.m.num == t.m.num) = true) (q1 : (r.m.sdr == t.m.sdr) = true) (q2 : (r.m.tick == t.m.tick) = true) (q3 : (r.m.text.toList == t.m.text.toList) = true) (q4 : (r.m.edits == t.m.edits) = false) :
    Calls Try.prog 71 #[.pointer (some ⟨b, o, none⟩), .pointer (some ⟨b', o', none⟩)] w fun e w' => e = .returned (.bool false) ∧ ∃ q, w' = w.drewN q := by
  obtain ⟨c0, c1, c2, c3, c4, c5, c6, c7⟩ := msg_cells hc
  obtain ⟨d0, d1, d2, d3, d4, d5, d6, d7⟩ := msg_cells hc'
  clear hc hc'
  go_enter Try.func71, Try.ntmps71
  go_wp2
  simp only [List.append_eq, List.cons_append, List.nil_append]
  go_quiet (fail)
  go_wp2
  go_ret
  exact ⟨ret_bool rfl, by first | exact ⟨_, rfl⟩ | exact ⟨_, World.drewN_drewN ..⟩⟩
set_option maxHeartbeats 4000000 in
theorem same_leaf5 (b o b' o' B B' : Nat) (r t : Rm) (w : World) (hc : w.rangeAt b o (rmC r)) (hc' : w.rangeAt b' o' (rmC t)) (h : Row i64v w B r.la r.ln r.m.likes) (h' : Row i64v w B' t.la t.ln t.m.likes) (hn : r.ln ≤ 1048576) (hn' : t.ln ≤ 1048576) (q0 : (r.m.num == t.m.num) = true) (q1 : (r.m.sdr == t.m.sdr) = true) (q2 : (r.m.tick == t.m.tick) = true) (q3 : (r.m.text.toList == t.m.text.toList) = true) (q4 : (r.m.edits == t.m.edits) = true) (q5 : (r.m.gone == t.m.gone) = false) :
    Calls Try.prog 71 #[.pointer (some ⟨b, o, none⟩), .pointer (some ⟨b', o', none⟩)] w fun e w' => e = .returned (.bool false) ∧ ∃ q, w' = w.drewN q := by
  obtain ⟨c0, c1, c2, c3, c4, c5, c6, c7⟩ := msg_cells hc
  obtain ⟨d0, d1, d2, d3, d4, d5, d6, d7⟩ := msg_cells hc'
  clear hc hc'
  go_enter Try.func71, Try.ntmps71
  go_wp2
  simp only [List.append_eq, List.cons_append, List.nil_append]
  go_quiet (fail)
  go_wp2
  go_ret
  exact ⟨ret_bool rfl, by first | exact ⟨_, rfl⟩ | exact ⟨_, World.drewN_drewN ..⟩⟩
set_option maxHeartbeats 4000000 in
theorem same_leaf6 (b o b' o' B B' : Nat) (r t : Rm) (w : World) (hc : w.rangeAt b o (rmC r)) (hc' : w.rangeAt b' o' (rmC t)) (h : Row i64v w B r.la r.ln r.m.likes) (h' : Row i64v w B' t.la t.ln t.m.likes) (hn : r.ln ≤ 1048576) (hn' : t.ln ≤ 1048576) (q0 : (r.m.num == t.m.num) = true) (q1 : (r.m.sdr == t.m.sdr) = true) (q2 : (r.m.tick == t.m.tick) = true) (q3 : (r.m.text.toList == t.m.text.toList) = true) (q4 : (r.m.edits == t.m.edits) = true) (q5 : (r.m.gone == t.m.gone) = true) (q6 : (r.m.reply == t.m.reply) = false) :
    Calls Try.prog 71 #[.pointer (some ⟨b, o, none⟩), .pointer (some ⟨b', o', none⟩)] w fun e w' => e = .returned (.bool false) ∧ ∃ q, w' = w.drewN q := by
  obtain ⟨c0, c1, c2, c3, c4, c5, c6, c7⟩ := msg_cells hc
  obtain ⟨d0, d1, d2, d3, d4, d5, d6, d7⟩ := msg_cells hc'
  clear hc hc'
  go_enter Try.func71, Try.ntmps71
  go_wp2
  simp only [List.append_eq, List.cons_append, List.nil_append]
  go_quiet (fail)
  go_wp2
  go_ret
  exact ⟨ret_bool rfl, by first | exact ⟨_, rfl⟩ | exact ⟨_, World.drewN_drewN ..⟩⟩
set_option maxHeartbeats 4000000 in
theorem same_leaf7 (b o b' o' B B' : Nat) (r t : Rm) (w : World) (hc : w.rangeAt b o (rmC r)) (hc' : w.rangeAt b' o' (rmC t)) (h : Row i64v w B r.la r.ln r.m.likes) (h' : Row i64v w B' t.la t.ln t.m.likes) (hn : r.ln ≤ 1048576) (hn' : t.ln ≤ 1048576) (q0 : (r.m.num == t.m.num) = true) (q1 : (r.m.sdr == t.m.sdr) = true) (q2 : (r.m.tick == t.m.tick) = true) (q3 : (r.m.text.toList == t.m.text.toList) = true) (q4 : (r.m.edits == t.m.edits) = true) (q5 : (r.m.gone == t.m.gone) = true) (q6 : (r.m.reply == t.m.reply) = true) (q7 : decide (r.m.likes = t.m.likes) = false) :
    Calls Try.prog 71 #[.pointer (some ⟨b, o, none⟩), .pointer (some ⟨b', o', none⟩)] w fun e w' => e = .returned (.bool false) ∧ ∃ q, w' = w.drewN q := by
  obtain ⟨c0, c1, c2, c3, c4, c5, c6, c7⟩ := msg_cells hc
  obtain ⟨d0, d1, d2, d3, d4, d5, d6, d7⟩ := msg_cells hc'
  clear hc hc'
  go_enter Try.func71, Try.ntmps71
  go_wp2
  simp only [List.append_eq, List.cons_append, List.nil_append]
  go_quiet ((go_at_call 80; exact Calls.quiet_at2 (l00Same_b _ _ _ _ _ _ _ _ _ _ _ _ (h.drewN _) (h'.drewN _) hn hn' q7)))
  go_wp2
  go_ret
  exact ⟨ret_bool rfl, by first | exact ⟨_, rfl⟩ | exact ⟨_, World.drewN_drewN ..⟩⟩
set_option maxHeartbeats 4000000 in
theorem same_leaf8 (b o b' o' B B' : Nat) (r t : Rm) (w : World) (hc : w.rangeAt b o (rmC r)) (hc' : w.rangeAt b' o' (rmC t)) (h : Row i64v w B r.la r.ln r.m.likes) (h' : Row i64v w B' t.la t.ln t.m.likes) (hn : r.ln ≤ 1048576) (hn' : t.ln ≤ 1048576) (q0 : (r.m.num == t.m.num) = true) (q1 : (r.m.sdr == t.m.sdr) = true) (q2 : (r.m.tick == t.m.tick) = true) (q3 : (r.m.text.toList == t.m.text.toList) = true) (q4 : (r.m.edits == t.m.edits) = true) (q5 : (r.m.gone == t.m.gone) = true) (q6 : (r.m.reply == t.m.reply) = true) (q7 : decide (r.m.likes = t.m.likes) = true) :
    Calls Try.prog 71 #[.pointer (some ⟨b, o, none⟩), .pointer (some ⟨b', o', none⟩)] w fun e w' => e = .returned (.bool true) ∧ ∃ q, w' = w.drewN q := by
  obtain ⟨c0, c1, c2, c3, c4, c5, c6, c7⟩ := msg_cells hc
  obtain ⟨d0, d1, d2, d3, d4, d5, d6, d7⟩ := msg_cells hc'
  clear hc hc'
  go_enter Try.func71, Try.ntmps71
  go_wp2
  simp only [List.append_eq, List.cons_append, List.nil_append]
  go_quiet ((go_at_call 80; exact Calls.quiet_at2 (l00Same_b _ _ _ _ _ _ _ _ _ _ _ _ (h.drewN _) (h'.drewN _) hn hn' q7)))
  go_wp2
  go_ret
  exact ⟨ret_bool rfl, by first | exact ⟨_, rfl⟩ | exact ⟨_, World.drewN_drewN ..⟩⟩
theorem l03SameMessage_any (b o b' o' B B' : Nat) (r t : Rm) (w : World) (hc : w.rangeAt b o (rmC r)) (hc' : w.rangeAt b' o' (rmC t)) (h : Row i64v w B r.la r.ln r.m.likes) (h' : Row i64v w B' t.la t.ln t.m.likes) (hn : r.ln ≤ 1048576) (hn' : t.ln ≤ 1048576) :
    Calls Try.prog 71 #[.pointer (some ⟨b, o, none⟩), .pointer (some ⟨b', o', none⟩)] w fun e w' => e = .returned (.bool (sameG r.m t.m)) ∧ ∃ q, w' = w.drewN q := by
  cases q0 : (r.m.num == t.m.num) with
  | false =>
    rw [show sameG r.m t.m = false by simp only [sameG, q0]; simp]
    exact same_leaf0 b o b' o' B B' r t w hc hc' h h' hn hn' q0
  | true =>
    cases q1 : (r.m.sdr == t.m.sdr) with
    | false =>
      rw [show sameG r.m t.m = false by simp only [sameG, q0, q1]; simp]
      exact same_leaf1 b o b' o' B B' r t w hc hc' h h' hn hn' q0 q1
    | true =>
      cases q2 : (r.m.tick == t.m.tick) with
      | false =>
        rw [show sameG r.m t.m = false by simp only [sameG, q0, q1, q2]; simp]
        exact same_leaf2 b o b' o' B B' r t w hc hc' h h' hn hn' q0 q1 q2
      | true =>
        cases q3 : (r.m.text.toList == t.m.text.toList) with
        | false =>
          rw [show sameG r.m t.m = false by simp only [sameG, q0, q1, q2, q3]; simp]
          exact same_leaf3 b o b' o' B B' r t w hc hc' h h' hn hn' q0 q1 q2 q3
        | true =>
          cases q4 : (r.m.edits == t.m.edits) with
          | false =>
            rw [show sameG r.m t.m = false by simp only [sameG, q0, q1, q2, q3, q4]; simp]
            exact same_leaf4 b o b' o' B B' r t w hc hc' h h' hn hn' q0 q1 q2 q3 q4
          | true =>
            cases q5 : (r.m.gone == t.m.gone) with
            | false =>
              rw [show sameG r.m t.m = false by simp only [sameG, q0, q1, q2, q3, q4, q5]; simp]
              exact same_leaf5 b o b' o' B B' r t w hc hc' h h' hn hn' q0 q1 q2 q3 q4 q5
            | true =>
              cases q6 : (r.m.reply == t.m.reply) with
              | false =>
                rw [show sameG r.m t.m = false by simp only [sameG, q0, q1, q2, q3, q4, q5, q6]; simp]
                exact same_leaf6 b o b' o' B B' r t w hc hc' h h' hn hn' q0 q1 q2 q3 q4 q5 q6
              | true =>
                cases q7 : decide (r.m.likes = t.m.likes) with
                | false =>
                  rw [show sameG r.m t.m = false by simp only [sameG, q0, q1, q2, q3, q4, q5, q6, q7]; simp]
                  exact same_leaf7 b o b' o' B B' r t w hc hc' h h' hn hn' q0 q1 q2 q3 q4 q5 q6 q7
                | true =>
                  rw [show sameG r.m t.m = true by simp only [sameG, q0, q1, q2, q3, q4, q5, q6, q7]; rfl]
                  exact same_leaf8 b o b' o' B B' r t w hc hc' h h' hn hn' q0 q1 q2 q3 q4 q5 q6 q7
end Go.Proofs.Ythekkjblgnjmgaa
