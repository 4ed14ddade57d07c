import Derived.Test.YtgomffcdoglbfaaChecked
import Derived.WalkKit
import Derived.ProofKit
import Derived.OpenShut
import Derived.ShutString
import Derived.ChangeOld
import Derived.Below
import Derived.Lib.Hide
import Derived.RegionTactic
import Derived.BigRegion
import Derived.Test.YtgomffcdoglbfaaZNumC
namespace Go.Proofs.Ytgomffcdoglbfaa
open Go.ChangeShapes Go.WideShapes Go.ChangeAt Go.RowKit
open Go.ChangeMaps (open_string shut_string)
set_option linter.unusedVariables false
set_option maxRecDepth 100000
theorem CopyAt.mono {w : World} {g base base' : Nat} {x : Int} {A : Option Addr} {n c : Nat} {qs : List Rm} (h : CopyAt w g base x A n c qs) (hb : base' ≤ base) : CopyAt w g base' x A n c qs := ⟨Nat.le_trans hb h.1, h.2.1, h.2.2.mono hb⟩
/-- a question that answers numbers, put to a log's copy -/
def AskOk (fid : FuncId) (caps : Array Value) (l : List Int) (x : Int) (ms : List Mg) (w : World) : Prop :=
  ∀ (w' : World) (g : Nat) (A : Option Addr) (n c : Nat) (qs : List Rm), Below w.heap.size w w' → CopyAt w' g w.heap.size x A n c qs → mgs qs = ms → n ≤ 1048576 →
    Calls Try.prog fid (#[.iface 134 (.pointer (some ⟨g, 0, none⟩))] ++ caps) w' fun e w'' => (∃ A' n' c', e = .returned (.tuple #[.slice A' n' c', .nilIface]) ∧ w''.ownsRow w'.heap.size 2 1 (.slice A' n' c') n' (l.map i64v)) ∧ Below w'.heap.size w' w''
set_option maxHeartbeats 3200000 in
theorem answerOk_any (fid : FuncId) (caps : Array Value) (hen : Enters Try.prog fid) (l : List Int) (x : Int) (A : Option Addr) (n c : Nat) (rs : List Rm) (w : World) (h : LogAt w w.heap.size A n rs) (hf : fitL (mgs rs)) (hc : AskOk fid caps l x (mgs rs) w) :
    Calls Try.prog 66 #[.agg #[.int .i64 x, .slice A n c], .func (.func fid) #[] caps] w fun e w' => NumsOut (logB x (mgs rs)) l w e w' := by
  have hn := fit_n h hf
  have HF := Lib.hid hf
  unfold Enters at hen
  clear hf
  go_enter Try.func66, Try.ntmps66
  go_wp2_with fail
  obtain ⟨k0, hb0⟩ := one_box w 52 #[.int .i64 x, .slice A n c]
  generalize w.alloc (.cells #[.int .i64 x, .slice A n c] 52) = W at *
  have h := h.to hb0
  cases tb : logB x (mgs rs) with
  | false =>
    go_at_call 99; refine (impl_ValidLog_any _ _ _ _ _ _ h HF.out).mono ?_; rw [tb]; rintro e w1 ⟨rfl, hb1⟩
    have hb0 := hb0.trans (hb1.mono hb0.size)
    go_wp2
    all_goals exact bodyPost_ret (v := .tuple #[.slice none 0 0, .bool false]) (by simp [results, Try.results66, go_sem]) rfl (by rw [tb]; exact numsOut_no hb0)
  | true =>
    go_at_call 99; refine (impl_ValidLog_any _ _ _ _ _ _ h HF.out).mono ?_; rw [tb]; rintro e w1 ⟨rfl, hb1⟩
    have h := h.to hb1
    have k0 := k0.below hb1 k0.lt
    have hb0 := hb0.trans (hb1.mono hb0.size)
    clear hb1
    have l0 := k0.cell 0; have l1 := k0.cell 1; have lt := k0.lt
    go_wp2_with fail
    clear l0 l1 lt
    go_at_call 100; refine (shelfOf_any _ _ _ _ _ _ h HF.out).mono ?_; rintro e w2 ⟨g, A', c', qs, rfl, hC, hM, hb2⟩
    have hz0 := hb0.size
    have hb0 := hb0.trans (hb2.mono hb0.size)
    have cc := hc w2 g A' n c' qs hb0 (hC.mono hz0) hM hn
    clear hC hM hb2 h k0 hc
    have hz2 := hb0.size
    go_wp2_with fail
    go_at_fn fid; refine cc.mono ?_; rintro e w3 ⟨hy, hb3⟩
    have hb4 := hb0.trans (hb3.mono hz2)
    obtain ⟨A2, n2, c2, rfl, ho⟩ := hy
    have ho := World.ownsRow.mono ho hz2
    go_wp2
    refine bodyPost_ret (v := .tuple #[.slice A2 n2 c2, .bool true]) (by simp [results, Try.results66, go_sem]) rfl ?_
    rw [tb]
    exact ⟨_, _, _, l, rfl, by simp, ho, hb4⟩
end Go.Proofs.Ytgomffcdoglbfaa
