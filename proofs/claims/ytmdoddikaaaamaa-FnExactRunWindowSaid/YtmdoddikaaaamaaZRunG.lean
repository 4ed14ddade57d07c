import Derived.Test.YtmdoddikaaaamaaChecked
import Derived.WalkKit
import Derived.ProofKit
import Derived.OpenShut
import Derived.ShutString
import Derived.ChangeOld
import Derived.Below
import Derived.Lib.Hide
import Derived.Test.YtmdoddikaaaamaaZRunP
import Derived.Test.YtmdoddikaaaamaaZBoolR
namespace Go.Proofs.Ytmdoddikaaaamaa
open Go.ChangeShapes Go.WideShapes Go.ChangeAt Go.RowKit
open Go.ChangeMaps (open_string shut_string)
set_option linter.unusedVariables false
set_option maxRecDepth 100000
theorem len_of_isRow {w : World} {a : Option Addr} {len cap : Nat} {zs : List Int} {q : IntKind} (h : IsRow q w a len cap zs) : len ≤ maxLen := by
  rcases h with ⟨_, h, _, _⟩ | ⟨x, _, h1, h2, _⟩
  · rw [h]; exact Nat.zero_le _
  · omega
theorem markI_g (A : Option Addr) (n c k0 base : Nat) (xs : List Int) (w : World) (h : w.ownsRow base 2 1 (.slice A n c) n (xs.map i64v)) (hn : n ≤ 1073741824) (hk0 : k0 ≤ 1099511627776) :
    Calls Try.prog 34 #[.slice A n c, .int .i64 k0] w fun e w' => e = .returned (.int .i64 ((k0 + n : Nat) : Int)) ∧ w'.ownsRow base 2 1 (.slice A n c) n ((marks k0 n).map i64v) ∧ w.grownBy w' (Value.slice A n c).ownBlock := by
  rcases h.2 with ⟨hv, hn0⟩ | ⟨g, cap, cur, hv, hbg, _⟩
  · injection hv with h1 h2 h3
    subst h1; subst hn0; subst h3
    exact (markInt64S_nil k0 w).mono fun e w' ⟨he, hw⟩ => by subst hw; exact ⟨he, World.ownsRow_nil _ _ _ _, World.grownBy.refl _ _⟩
  · injection hv with h1 h2 h3
    subst h1
    exact (markInt64S_some g n c k0 base xs w h hn hk0).mono fun e w' ⟨he, ho, hg, hs⟩ => ⟨he, ho, hg⟩
theorem markB_g (A : Option Addr) (n c k0 base : Nat) (xs : List Bool) (w : World) (h : w.ownsRow base 4 1 (.slice A n c) n (xs.map boolv)) (hn : n ≤ 1073741824) (hk0 : k0 ≤ 1099511627776) :
    Calls Try.prog 35 #[.slice A n c, .int .i64 k0] w fun e w' => e = .returned (.int .i64 ((k0 + n : Nat) : Int)) ∧ w'.ownsRow base 4 1 (.slice A n c) n ((marksBo k0 n).map boolv) ∧ w.grownBy w' (Value.slice A n c).ownBlock := by
  rcases h.2 with ⟨hv, hn0⟩ | ⟨g, cap, cur, hv, hbg, _⟩
  · injection hv with h1 h2 h3
    subst h1; subst hn0; subst h3
    exact (markBoolS_nil k0 w).mono fun e w' ⟨he, hw⟩ => by subst hw; exact ⟨he, World.ownsRow_nil _ _ _ _, World.grownBy.refl _ _⟩
  · injection hv with h1 h2 h3
    subst h1
    exact (markBoolS_some g n c k0 base xs w h hn hk0).mono fun e w' ⟨he, ho, hg, hs⟩ => ⟨he, ho, hg⟩
theorem own_typesB {w : World} {b1 b2 e1 e2 s1 s2 n1 n2 : Nat} {v1 v2 : Value} {xs ys : List Value} (h1 : w.ownsRow b1 e1 s1 v1 n1 xs) (h2 : w.ownsRow b2 e2 s2 v2 n2 ys) (he : e1 ≠ e2) : v1.ownBlock = none ∨ v1.ownBlock ≠ v2.ownBlock := by
  rcases h2.2 with ⟨hv, _⟩ | ⟨g', cap, cur, hv, _, hc, _⟩
  · subst hv
    by_cases h : v1.ownBlock = none
    · exact .inl h
    · exact .inr h
  · subst hv
    exact row_not_blk (cs := cur) h1 (show Blk w g' e2 cur from hc) (fun e => he e.symm)
end Go.Proofs.Ytmdoddikaaaamaa
