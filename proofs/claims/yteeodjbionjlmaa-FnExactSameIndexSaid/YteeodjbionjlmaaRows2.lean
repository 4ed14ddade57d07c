import Derived.Test.YteeodjbionjlmaaChecked
import Derived.WalkKit
import Derived.ProofKit
import Derived.OpenShut
import Derived.ShutString
import Derived.ChangeOld
import Derived.Below
import Derived.Lib.Hide
import Derived.Deep.QuietTactic
import Derived.BigQuiet
import Derived.Test.YteeodjbionjlmaaRows1
namespace Go.Proofs.Yteeodjbionjlmaa
open Go.ChangeShapes Go.WideShapes Go.ChangeAt Go.RowKit
open Go.ChangeMaps (open_string shut_string)
set_option linter.unusedVariables false
set_option maxRecDepth 100000
def marks (k n : Nat) : List Int := (List.range n).map fun j => ((k + j : Nat) : Int)
theorem marks_len (k n : Nat) : (marks k n).length = n := by simp [marks]
theorem marks_at (k n j : Nat) (hj : j < n) : (marks k n)[j]? = some ((k + j : Nat) : Int) := by simp [marks, hj]
theorem marks_succ (k n : Nat) : marks k (n + 1) = marks k n ++ [((k + n : Nat) : Int)] := by simp [marks, List.range_succ]
set_option maxHeartbeats 400000 in
theorem eqInt64S_same (A A' : Option Addr) (n c c' B B' : Nat) (xs : List Int) (w : World) (h1 : Row i64v w B A n xs) (h2 : Row i64v w B' A' n xs) (hn : n ≤ 1073741824) :
    Calls Try.prog 57 #[.slice A n c, .slice A' n c'] w fun e w' => e = .returned (.bool true) ∧ ∃ q, w' = w.drewN q := by
  go_enter Try.func57, Try.ntmps57
  go_wp2
  go_loopw [5] (fun i wr => ∃ k q : Nat, k ≤ n ∧ i = .int .i64 k ∧ wr = w.drewN q) (fun i _ => n - (intOf i).toNat)
  case atStart => exact ⟨0, 0, by omega, rfl, rfl⟩
  case round =>
    obtain ⟨k, q, hk, rfl, rfl⟩ := hrel
    by_cases hlt : k < n
    · obtain ⟨b, off, z, rfl, _, hz, hc⟩ := h1.ati hlt
      obtain ⟨b', off', z', rfl, _, hz', hc'⟩ := h2.ati hlt
      have e : z' = z := by rw [hz] at hz'; injection hz' with e; exact e.symm
      subst e
      clear hz hz' h1 h2
      have hp : (0 : Int) ≤ (k : Int) := by omega
      have hq : (k : Int) < (n : Int) := by omega
      go_wp2
      go_quiet (fail)
      go_wp2
      go_roundw
      case rel => exact ⟨k + 1, _, by omega, by go_num, rfl⟩
      case measure => simp [intOf]; omega
    · go_wp2
      go_ret
      exact ⟨rfl, q, rfl⟩
set_option maxHeartbeats 400000 in
theorem markInt64S_some (g n c k0 base : Nat) (xs : List Int) (w : World) (h : w.ownsRow base 2 1 (.slice (some ⟨g, 0, none⟩) n c) n (xs.map i64v)) (hn : n ≤ 1073741824) (hk0 : k0 ≤ 1099511627776) :
    Calls Try.prog 58 #[.slice (some ⟨g, 0, none⟩) n c, .int .i64 k0] w fun e w' => e = .returned (.int .i64 ((k0 + n : Nat) : Int)) ∧
      w'.ownsRow base 2 1 (.slice (some ⟨g, 0, none⟩) n c) n ((marks k0 n).map i64v) ∧ w.grownBy w' (some g) ∧ w'.heap.size = w.heap.size := by
  have hlen : xs.length = n := by simpa using h.1
  have HL := Lib.hid hlen
  clear hlen
  go_enter Try.func58, Try.ntmps58
  go_wp2
  go_loopw [1, 5] (fun q i wr => ∃ k : Nat, k ≤ n ∧ i = .int .i64 k ∧ q = .int .i64 ((k0 + k : Nat) : Int) ∧ wr.ownsRow base 2 1 (.slice (some ⟨g, 0, none⟩) n c) n ((marks k0 k ++ xs.drop k).map i64v) ∧ w.grownBy wr (some g) ∧ wr.heap.size = w.heap.size) (fun _ i _ => n - (intOf i).toNat)
  case atStart => exact ⟨0, by omega, rfl, rfl, by simpa [marks] using h, World.grownBy.refl _ _, rfl⟩
  case round =>
    obtain ⟨k, hk, rfl, rfl, hown, hgrow, hsz⟩ := hrel
    clear h
    by_cases hlt : k < n
    · have hl := HL.out
      have hcd : ∃ z, wr.cell? ⟨g, k, none⟩ = some z := by
        rw [hown.cellAt k (by omega)]
        exact ⟨_, List.getElem?_eq_getElem (by simp [marks_len]; omega)⟩
      obtain ⟨z, hcd⟩ := hcd
      have hfz := hown.frozenAt k
      have HO := Lib.hid hown
      have HG := Lib.hid (And.intro hgrow hsz)
      clear hown hgrow hsz hl
      go_wp2
      go_roundw
      case rel =>
        have hl := HL.out
        have hs := HO.out.stored k (.int .i64 ((k0 + k : Nat) : Int))
        refine ⟨k + 1, by omega, by go_num, by go_num, ?_, ?_, ?_⟩
        · have := hs.1
          obtain ⟨y, ys, hy⟩ : ∃ y ys, xs.drop k = y :: ys := by
            cases hd : xs.drop k with
            | nil => have := congrArg List.length hd; simp at this; omega
            | cons y ys => exact ⟨y, ys, rfl⟩
          have hy2 : xs.drop (k + 1) = ys := by rw [← List.drop_drop, hy]; rfl
          rw [marks_succ, hy2]
          rw [hy] at this
          rw [List.map_append, List.set_append_right _ _ (by simp [marks_len])] at this
          simpa [marks_len, i64v] using this
        · exact ⟨hs.2.os.trans HG.out.1.os, hs.2.tape.trans HG.out.1.tape, hs.2.output.trans HG.out.1.output, by have := HG.out.2; simp; omega, fun j hj hne => (hs.2.block j (by have := HG.out.2; omega) hne).trans (HG.out.1.block j hj hne)⟩
        · have := HG.out.2; simpa using this
      case measure => simp [intOf]; omega
    · have hkn : k = n := by omega
      subst hkn
      have hl := HL.out
      have e : xs.drop k = [] := List.drop_eq_nil_of_le (by omega)
      rw [e, List.append_nil] at hown
      clear e hl
      go_wp2
      go_ret
      exact ⟨rfl, hown, hgrow, hsz⟩
theorem markInt64S_nil (k0 : Nat) (w : World) :
    Calls Try.prog 58 #[.slice none 0 0, .int .i64 k0] w fun e w' => e = .returned (.int .i64 k0) ∧ w = w' := by
  go_enter Try.func58, Try.ntmps58
  go_wp2
  refine wp_loop_rounds 1 ?_
  rw [rounds_succ]
  go_wp2
  go_ret
  exact ⟨rfl, rfl⟩
set_option maxHeartbeats 400000 in
theorem heldInt64S_any (A : Option Addr) (n c k0 B : Nat) (w : World) (h : Row i64v w B A n (marks k0 n)) (hn : n ≤ 1073741824) (hk0 : k0 ≤ 1099511627776) :
    Calls Try.prog 59 #[.slice A n c, .int .i64 k0] w fun e w' => e = .returned (.int .i64 ((k0 + n : Nat) : Int)) ∧ w = w' := by
  go_enter Try.func59, Try.ntmps59
  go_wp2
  go_loop [1, 5] (fun q i => ∃ k : Nat, k ≤ n ∧ i = .int .i64 k ∧ q = .int .i64 ((k0 + k : Nat) : Int)) (fun _ i => n - (intOf i).toNat)
  case atStart => exact ⟨0, by omega, rfl, rfl⟩
  case round =>
    obtain ⟨k, hk, rfl, rfl⟩ := hrel
    by_cases hlt : k < n
    · obtain ⟨b, off, z, rfl, _, hz, hc⟩ := h.ati hlt
      rw [marks_at k0 n k hlt] at hz
      injection hz with hz
      subst hz
      clear h
      go_wp2
      go_round
      case rel => exact ⟨k + 1, by omega, by go_num, by go_num⟩
      case measure => simp [intOf]; omega
    · have hkn : k = n := by omega
      subst hkn
      go_wp2
      go_ret
      exact ⟨rfl, rfl⟩
theorem drew_below {w w1 : World} (h : ∃ q, w1 = w.drewN q) : Below w.heap.size w w1 := by
  obtain ⟨q, rfl⟩ := h
  refine ⟨rfl, rfl, rfl, Nat.le_refl _, fun _ _ => rfl⟩
theorem own_drew {w w1 : World} {base e size n : Nat} {v : Value} {xs : List Value} (h : w.ownsRow base e size v n xs) (hq : ∃ q, w1 = w.drewN q) : w1.ownsRow base e size v n xs := own_below h (drew_below hq) (Nat.le_refl _)
end Go.Proofs.Yteeodjbionjlmaa
