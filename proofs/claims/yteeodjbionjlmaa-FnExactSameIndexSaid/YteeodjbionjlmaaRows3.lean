import Derived.Test.YteeodjbionjlmaaChecked
import Derived.WalkKit
import Derived.ProofKit
import Derived.OpenShut
import Derived.ShutString
import Derived.ChangeOld
import Derived.Below
import Derived.Lib.Hide
import Derived.Test.YteeodjbionjlmaaRows2
namespace Go.Proofs.Yteeodjbionjlmaa
open Go.ChangeShapes Go.WideShapes Go.ChangeAt Go.RowKit
open Go.ChangeMaps (open_string shut_string)
set_option linter.unusedVariables false
set_option maxRecDepth 100000
/-- marking a row, nil or not -/
theorem mark_any (A : Option Addr) (n c k0 base : Nat) (xs : List Int) (w : World) (h : w.ownsRow base 2 1 (.slice A n c) n (xs.map i64v)) (hn : n ≤ 1073741824) (hk0 : k0 ≤ 1099511627776) :
    Calls Try.prog 58 #[.slice A n c, .int .i64 k0] w fun e w' => e = .returned (.int .i64 ((k0 + n : Nat) : Int)) ∧
      w'.ownsRow base 2 1 (.slice A n c) n ((marks k0 n).map i64v) ∧ (∀ b1 e1 s1 v n1 zs, w.ownsRow b1 e1 s1 v n1 zs → (v.ownBlock = none ∨ v.ownBlock ≠ (Value.slice A n c).ownBlock) → w'.ownsRow b1 e1 s1 v n1 zs) ∧
      (∀ B w0, Below B w0 w → B ≤ base → B ≤ w.heap.size → Below B w0 w') ∧ w'.heap.size = w.heap.size := by
  rcases h.2 with ⟨hv, hn0⟩ | ⟨g, cap, cur, hv, hbg, _⟩
  · injection hv with h1 h2 h3
    subst h1; subst hn0; subst h3
    exact (markInt64S_nil k0 w).mono fun e w' ⟨he, hw⟩ => by subst hw; exact ⟨he, World.ownsRow_nil _ _ _ _, fun _ _ _ _ _ _ h _ => h, fun _ _ h _ _ => h, rfl⟩
  · injection hv with h1 h2 h3
    subst h1
    refine (markInt64S_some g n c k0 base xs w h hn hk0).mono fun e w' ⟨he, ho, hg, hs⟩ => ⟨he, ho, fun b1 e1 s1 v n1 zs hz hne => hz.kept hg hne, fun B w0 hb hB hBw => hb.grown hg hBw ?_, hs⟩
    intro k hk
    injection hk with hk
    subst hk
    omega
theorem own_ne2 {w1 w2 : World} {b1 e1 s1 n1 e2 s2 n2 : Nat} {v1 v2 : Value} {xs ys : List Value} (h1 : w1.ownsRow b1 e1 s1 v1 n1 xs) (h2 : w2.ownsRow w1.heap.size e2 s2 v2 n2 ys) :
    v2.ownBlock = none ∨ v2.ownBlock ≠ v1.ownBlock := by
  cases hv : v2.ownBlock with
  | none => exact .inl rfl
  | some g =>
    right
    intro e
    have a := (h1.lt g e.symm).2
    have b := (h2.lt g hv).1
    omega
end Go.Proofs.Yteeodjbionjlmaa
