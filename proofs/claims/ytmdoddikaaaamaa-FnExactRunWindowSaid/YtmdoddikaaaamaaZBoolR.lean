import Derived.Test.YtmdoddikaaaamaaChecked
import Derived.WalkKit
import Derived.ProofKit
import Derived.OpenShut
import Derived.ShutString
import Derived.ChangeOld
import Derived.Below
import Derived.Lib.Hide
import Derived.Deep.QuietTactic
import Derived.BigQuiet
import Derived.Test.YtmdoddikaaaamaaJr
namespace Go.Proofs.Ytmdoddikaaaamaa
open Go.ChangeShapes Go.WideShapes Go.ChangeAt Go.RowKit
open Go.ChangeMaps (open_string shut_string)
set_option linter.unusedVariables false
set_option maxRecDepth 100000
abbrev boolv : Bool → Value := Value.bool
theorem Try.info_bool : (Try.prog.info? 4).map (fun i => (i.zero, i.size, i.bytes)) = some (some (.bool false), 1, 1) := by kernel_rfl
theorem cell_newB (w : World) (t : TypeId) (v : Value) (a : Addr) (ha : a = ⟨w.heap.size, 0, none⟩) : ∀ (j : Nat) (u : Value), [v][j]? = some u → (w.alloc (.cells #[v] t)).cell? (a.add j) = some u := by
  subst ha
  intro j u hu
  have hj : j = 0 := by have := (List.getElem?_eq_some_iff.1 hu).1; simp at this; omega
  subst hj
  simp at hu; subst hu
  simp [Addr.add]
def marksBo (k n : Nat) : List Bool := (List.range n).map fun j => ((((k + j : Nat) : Int) % 3) == 0)
theorem marksBo_len (k n : Nat) : (marksBo k n).length = n := by simp [marksBo]
theorem marksBo_at (k n j : Nat) (hj : j < n) : (marksBo k n)[j]? = some ((((k + j : Nat) : Int) % 3) == 0) := by simp [marksBo, hj]
theorem marksBo_succ (k n : Nat) : marksBo k (n + 1) = marksBo k n ++ [((((k + n : Nat) : Int) % 3) == 0)] := by simp [marksBo, List.range_succ]
set_option maxHeartbeats 400000 in
theorem eqBoolS_same (A A' : Option Addr) (n c c' B B' : Nat) (xs : List Bool) (w : World) (h1 : Row boolv w B A n xs) (h2 : Row boolv w B' A' n xs) (hn : n ≤ 1073741824) :
    Calls Try.prog 32 #[.slice A n c, .slice A' n c'] w fun e w' => e = .returned (.bool true) ∧ ∃ q, w' = w.drewN q := by
  go_enter Try.func32, Try.ntmps32
  go_wp2
  go_loopw [5] (fun i wr => ∃ k q : Nat, k ≤ n ∧ i = .int .i64 k ∧ wr = w.drewN q) (fun i _ => n - (intOf i).toNat)
  case atStart => exact ⟨0, 0, by omega, rfl, rfl⟩
  case round =>
    obtain ⟨k, q, hk, rfl, rfl⟩ := hrel
    by_cases hlt : k < n
    · obtain ⟨b, off, z, rfl, _, hz, hc⟩ := h1.at_ hlt
      obtain ⟨b', off', z', rfl, _, hz', hc'⟩ := h2.at_ hlt
      have e : z' = z := by rw [hz] at hz'; injection hz' with e; exact e.symm
      subst e
      clear hz hz' h1 h2
      have hp : (0 : Int) ≤ (k : Int) := by omega
      have hq : (k : Int) < (n : Int) := by omega
      go_wp2
      go_quiet (fail)
      go_wp2
      go_roundw
      case rel => exact ⟨k + 1, _, by omega, by go_num, rfl⟩
      case measure => simp [intOf]; omega
    · go_wp2
      go_ret
      exact ⟨rfl, q, rfl⟩
set_option maxHeartbeats 400000 in
theorem markBoolS_some (g n c k0 base : Nat) (xs : List Bool) (w : World) (h : w.ownsRow base 4 1 (.slice (some ⟨g, 0, none⟩) n c) n (xs.map boolv)) (hn : n ≤ 1073741824) (hk0 : k0 ≤ 1099511627776) :
    Calls Try.prog 35 #[.slice (some ⟨g, 0, none⟩) n c, .int .i64 k0] w fun e w' => e = .returned (.int .i64 ((k0 + n : Nat) : Int)) ∧
      w'.ownsRow base 4 1 (.slice (some ⟨g, 0, none⟩) n c) n ((marksBo k0 n).map boolv) ∧ w.grownBy w' (some g) ∧ w'.heap.size = w.heap.size := by
  have hlen : xs.length = n := by simpa using h.1
  have HL := Lib.hid hlen
  clear hlen
  go_enter Try.func35, Try.ntmps35
  go_wp2
  go_loopw [1, 5] (fun q i wr => ∃ k : Nat, k ≤ n ∧ i = .int .i64 k ∧ q = .int .i64 ((k0 + k : Nat) : Int) ∧ wr.ownsRow base 4 1 (.slice (some ⟨g, 0, none⟩) n c) n ((marksBo k0 k ++ xs.drop k).map boolv) ∧ w.grownBy wr (some g) ∧ wr.heap.size = w.heap.size) (fun _ i _ => n - (intOf i).toNat)
  case atStart => exact ⟨0, by omega, rfl, rfl, by simpa [marksBo] using h, World.grownBy.refl _ _, rfl⟩
  case round =>
    obtain ⟨k, hk, rfl, rfl, hown, hgrow, hsz⟩ := hrel
    clear h
    by_cases hlt : k < n
    · have hl := HL.out
      have hcd : ∃ z, wr.cell? ⟨g, k, none⟩ = some z := by
        rw [hown.cellAt k (by omega)]
        exact ⟨_, List.getElem?_eq_getElem (by simp [marksBo_len]; omega)⟩
      obtain ⟨z, hcd⟩ := hcd
      have hfz := hown.frozenAt k
      have HO := Lib.hid hown
      have HG := Lib.hid (And.intro hgrow hsz)
      clear hown hgrow hsz hl
      go_wp2
      go_roundw
      case rel =>
        have hl := HL.out
        have hs := HO.out.stored k (.bool ((((k0 + k : Nat) : Int) % 3) == 0))
        refine ⟨k + 1, by omega, by go_num, by go_num, ?_, ?_, ?_⟩
        · have := hs.1
          obtain ⟨y, ys, hy⟩ : ∃ y ys, xs.drop k = y :: ys := by
            cases hd : xs.drop k with
            | nil => have := congrArg List.length hd; simp at this; omega
            | cons y ys => exact ⟨y, ys, rfl⟩
          have hy2 : xs.drop (k + 1) = ys := by rw [← List.drop_drop, hy]; rfl
          rw [marksBo_succ, hy2]
          rw [hy] at this
          rw [List.map_append, List.set_append_right _ _ (by simp [marksBo_len])] at this
          simpa [marksBo_len, boolv] using this
        · exact ⟨hs.2.os.trans HG.out.1.os, hs.2.tape.trans HG.out.1.tape, hs.2.output.trans HG.out.1.output, by have := HG.out.2; simp; omega, fun j hj hne => (hs.2.block j (by have := HG.out.2; omega) hne).trans (HG.out.1.block j hj hne)⟩
        · have := HG.out.2; simpa using this
      case measure => simp [intOf]; omega
    · have hkn : k = n := by omega
      subst hkn
      have hl := HL.out
      have e : xs.drop k = [] := List.drop_eq_nil_of_le (by omega)
      rw [e, List.append_nil] at hown
      clear e hl
      go_wp2
      go_ret
      exact ⟨rfl, hown, hgrow, hsz⟩
theorem markBoolS_nil (k0 : Nat) (w : World) :
    Calls Try.prog 35 #[.slice none 0 0, .int .i64 k0] w fun e w' => e = .returned (.int .i64 k0) ∧ w = w' := by
  go_enter Try.func35, Try.ntmps35
  go_wp2
  refine wp_loop_rounds 1 ?_
  rw [rounds_succ]
  go_wp2
  go_ret
  exact ⟨rfl, rfl⟩
set_option maxHeartbeats 400000 in
theorem heldBoolS_any (A : Option Addr) (n c k0 B : Nat) (w : World) (h : Row boolv w B A n (marksBo k0 n)) (hn : n ≤ 1073741824) (hk0 : k0 ≤ 1099511627776) :
    Calls Try.prog 36 #[.slice A n c, .int .i64 k0] w fun e w' => e = .returned (.int .i64 ((k0 + n : Nat) : Int)) ∧ w = w' := by
  go_enter Try.func36, Try.ntmps36
  go_wp2
  go_loop [1, 5] (fun q i => ∃ k : Nat, k ≤ n ∧ i = .int .i64 k ∧ q = .int .i64 ((k0 + k : Nat) : Int)) (fun _ i => n - (intOf i).toNat)
  case atStart => exact ⟨0, by omega, rfl, rfl⟩
  case round =>
    obtain ⟨k, hk, rfl, rfl⟩ := hrel
    by_cases hlt : k < n
    · obtain ⟨b, off, z, rfl, _, hz, hc⟩ := h.at_ hlt
      rw [marksBo_at k0 n k hlt] at hz
      injection hz with hz
      subst hz
      clear h
      go_wp2
      go_round
      case rel => exact ⟨k + 1, by omega, by go_num, by go_num⟩
      case measure => simp [intOf]; omega
    · have hkn : k = n := by omega
      subst hkn
      go_wp2
      go_ret
      exact ⟨rfl, rfl⟩
/-- marking a row, nil or not -/
theorem markB_any (A : Option Addr) (n c k0 base : Nat) (xs : List Bool) (w : World) (h : w.ownsRow base 4 1 (.slice A n c) n (xs.map boolv)) (hn : n ≤ 1073741824) (hk0 : k0 ≤ 1099511627776) :
    Calls Try.prog 35 #[.slice A n c, .int .i64 k0] w fun e w' => e = .returned (.int .i64 ((k0 + n : Nat) : Int)) ∧
      w'.ownsRow base 4 1 (.slice A n c) n ((marksBo k0 n).map boolv) ∧ (∀ b1 e1 s1 v n1 zs, w.ownsRow b1 e1 s1 v n1 zs → (v.ownBlock = none ∨ v.ownBlock ≠ (Value.slice A n c).ownBlock) → w'.ownsRow b1 e1 s1 v n1 zs) ∧
      (∀ B w0, Below B w0 w → B ≤ base → B ≤ w.heap.size → Below B w0 w') ∧ w'.heap.size = w.heap.size := by
  rcases h.2 with ⟨hv, hn0⟩ | ⟨g, cap, cur, hv, hbg, _⟩
  · injection hv with h1 h2 h3
    subst h1; subst hn0; subst h3
    exact (markBoolS_nil k0 w).mono fun e w' ⟨he, hw⟩ => by subst hw; exact ⟨he, World.ownsRow_nil _ _ _ _, fun _ _ _ _ _ _ h _ => h, fun _ _ h _ _ => h, rfl⟩
  · injection hv with h1 h2 h3
    subst h1
    refine (markBoolS_some g n c k0 base xs w h hn hk0).mono fun e w' ⟨he, ho, hg, hs⟩ => ⟨he, ho, fun b1 e1 s1 v n1 zs hz hne => hz.kept hg hne, fun B w0 hb hB hBw => hb.grown hg hBw ?_, hs⟩
    intro k hk
    injection hk with hk
    subst hk
    omega
end Go.Proofs.Ytmdoddikaaaamaa
