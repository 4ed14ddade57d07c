import Derived.Test.YtgomffcdoglbfaaChecked
import Derived.WalkKit
import Derived.ProofKit
import Derived.OpenShut
import Derived.ShutString
import Derived.ChangeOld
import Derived.Below
import Derived.Lib.Hide
import Derived.Shelf.Abstract
import Derived.Test.YtgomffcdoglbfaaZGathR
import Derived.Test.YtgomffcdoglbfaaJp
namespace Go.Proofs.Ytgomffcdoglbfaa
open Go.ChangeShapes Go.WideShapes Go.ChangeAt Go.RowKit
open Go.ChangeMaps (open_string shut_string)
set_option linter.unusedVariables false
set_option maxRecDepth 100000
/-- a presence and a bool, the presence in memory of the answer's own -/
def PresOut (r : PR) (ok : Bool) (w : World) (e : Ending) (w' : World) : Prop := ∃ A1 n1 c1 A2 n2 c2 A3 n3 c3, e = .returned (.tuple #[.agg #[.slice A1 n1 c1, .slice A2 n2 c2, .slice A3 n3 c3], .bool ok]) ∧
  PresOwn w' w.heap.size A1 n1 c1 A2 n2 c2 A3 n3 c3 r.hs r.ts r.ks ∧ Below w.heap.size w w' ∧ n1 + n2 + n3 ≤ 1048576
theorem presOut_no {r : PR} {w w' : World} (h : Below w.heap.size w w') : PresOut (giveR false r) false w (.returned (.tuple #[.agg #[.slice none 0 0, .slice none 0 0, .slice none 0 0], .bool false])) w' :=
  ⟨none, 0, 0, none, 0, 0, none, 0, 0, rfl, ⟨World.ownsRow_nil _ _ _ _, World.ownsRow_nil _ _ _ _, World.ownsRow_nil _ _ _ _, .inl rfl⟩, h, by omega⟩
/-- what a change does to a gathering -/
def Turns (fid : FuncId) (caps : Array Value) (yes : Bool) (r : PR) (hs ts ks : List Bn) (w : World) : Prop :=
  ∀ (w' : World) (base G : Nat), Below w.heap.size w w' → w.heap.size ≤ base → base ≤ w'.heap.size → Gath 100 w' base G hs ts ks →
    Calls Try.prog fid (#[.pointer (some ⟨G, 0, none⟩)] ++ caps) w' fun e w'' => e = .returned (.bool yes) ∧ (yes = true → Gath 1000 w'' base G r.hs r.ts r.ks ∧ (WfB r.hs ∧ WfB r.ts ∧ WfB r.ks) ∧ r.hs.length ≤ 1000 ∧ r.ts.length ≤ 1000 ∧ r.ks.length ≤ 1000) ∧ Below base w' w''
theorem below_set3 {w w' : World} {B g : Nat} (h : Below B w w') (hg : B ≤ g) (i j k : Nat) (v0 v1 v2 : Value) : Below B w (((w'.setCell ⟨g, i, none⟩ v0).setCell ⟨g, j, none⟩ v1).setCell ⟨g, k, none⟩ v2) := ((h.setCell hg v0).setCell hg v1).setCell hg v2
set_option maxHeartbeats 6400000 in
theorem changedPresence_any (fid : FuncId) (caps : Array Value) (hen : Enters Try.prog fid) (yes : Bool) (r : PR) (A1 A2 A3 : Option Addr) (n1 c1 n2 c2 n3 c3 : Nat) (hs ts ks : List Bn) (w : World) (h : PresAt w w.heap.size A1 n1 A2 n2 A3 n3 hs ts ks) (hn : n1 + n2 + n3 ≤ 1048576) (hc : presB hs ts ks = true → Turns fid caps yes r hs ts ks w) :
    Calls Try.prog 78 #[.agg #[.slice A1 n1 c1, .slice A2 n2 c2, .slice A3 n3 c3], .func (.func fid) #[] caps] w fun e w' => PresOut (giveR (okR hs ts ks yes r) r) (okR hs ts ks yes r) w e w' := by
  unfold Enters at hen
  go_enter Try.func78, Try.ntmps78
  go_wp2_with fail
  obtain ⟨k0, k1, hb0⟩ := two_boxes w 31 31 #[.slice A1 n1 c1, .slice A2 n2 c2, .slice A3 n3 c3] #[.slice none 0 0, .slice none 0 0, .slice none 0 0]
  have h := h.to hb0
  generalize ((w.alloc (.cells #[.slice A1 n1 c1, .slice A2 n2 c2, .slice A3 n3 c3] 31)).alloc (.cells #[.slice none 0 0, .slice none 0 0, .slice none 0 0] 31)) = W at *
  cases tb : presB hs ts ks with
  | false =>
    go_at_call 15; refine (impl_ValidPresence_any _ _ _ _ _ _ _ _ _ _ _ _ _ h hn).mono ?_; rw [tb]; rintro e w1 ⟨rfl, hb1⟩
    have k1 := k1.below hb1 k1.lt
    have hb0 := hb0.trans (hb1.mono hb0.size)
    have r0 := k1.cell 0; have r1 := k1.cell 1; have r2 := k1.cell 2; have f0 := k1.frozen 0; have f1 := k1.frozen 1; have f2 := k1.frozen 2
    go_wp2
    exact bodyPost_ret (v := .tuple #[.agg #[.slice none 0 0, .slice none 0 0, .slice none 0 0], .bool false]) (by simp [results, Try.results78, go_sem, r0, r1, r2]) rfl (by rw [show okR hs ts ks yes r = false by unfold okR; rw [tb]; rfl]; exact presOut_no (below_set3 hb0 (Nat.le_succ _) _ _ _ _ _ _))
  | true =>
    have HC := Lib.hid (hc tb)
    clear hc
    go_at_call 15; refine (impl_ValidPresence_any _ _ _ _ _ _ _ _ _ _ _ _ _ h hn).mono ?_; rw [tb]; rintro e w1 ⟨rfl, hb1⟩
    have h := h.to hb1; have k0 := k0.below hb1 k0.lt; have k1 := k1.below hb1 k1.lt; have hb0 := hb0.trans (hb1.mono hb0.size)
    clear hb1
    have l0 := k0.cell 0; have l1 := k0.cell 1; have l2 := k0.cell 2; have klt := k0.lt
    go_wp2_with fail
    clear l0 l1 l2 klt
    go_at_call 110; refine (gatheringOf_any _ _ _ _ _ _ _ _ _ _ _ _ _ h (presOk tb)).mono ?_; rintro e w2 ⟨G, rfl, hG, hb2⟩
    have kz1 := k1.lt
    have k1 := k1.below hb2 k1.lt
    have hz1 := hb0.size
    have hb0 := hb0.trans (hb2.mono hb0.size)
    have hz2 := hb2.size
    have HTB := Lib.hid tb
    have HK1 := Lib.hid kz1
    clear kz1
    have cc := HC.out w2 w1.heap.size G hb0 hz1 hz2 hG
    clear tb hG hb2 k0 h HC
    go_wp2_with fail
    cases yes with
    | false =>
      go_at_fn fid; refine cc.mono ?_; rintro e w3 ⟨rfl, _, hb3⟩
      have k1 := k1.below hb3 HK1.out
      have hb0 := hb0.trans (hb3.mono hz1)
      have r0 := k1.cell 0; have r1 := k1.cell 1; have r2 := k1.cell 2; have f0 := k1.frozen 0; have f1 := k1.frozen 1; have f2 := k1.frozen 2
      go_wp2
      exact bodyPost_ret (v := .tuple #[.agg #[.slice none 0 0, .slice none 0 0, .slice none 0 0], .bool false]) (by simp [results, Try.results78, go_sem, r0, r1, r2]) rfl (by rw [show okR hs ts ks false r = false by unfold okR; simp]; exact presOut_no (below_set3 hb0 (Nat.le_succ _) _ _ _ _ _ _))
    | true =>
      go_at_fn fid; refine cc.mono ?_; rintro e w3 ⟨rfl, hy, hb3⟩
      obtain ⟨hG, ⟨f1, f2, f3⟩, b1, b2, b3⟩ := hy rfl
      have k1 := k1.below hb3 HK1.out
      have hb0 := hb0.trans (hb3.mono hz1)
      have hz3 : w1.heap.size ≤ w3.heap.size := Nat.le_trans hz2 hb3.size
      clear hy hb3 cc
      go_wp2_with fail
      go_at_call 111; refine (presence_any w1.heap.size G r.hs r.ts r.ks _ hG hz3 f1 f2 f3 b1 b2 b3).mono ?_; rintro e w4 ⟨B1, d1, B2, d2, B3, d3, rfl, hO, hb4⟩
      have k1 := k1.below hb4 HK1.out
      have hz4 := hb0.size
      have hb0 := hb0.trans (hb4.mono hz1)
      clear hG f1 f2 f3 hb4
      go_wp2_with fail
      obtain ⟨k7, hb5⟩ := one_box w4 31 #[.slice B1 r.hs.length d1, .slice B2 r.ts.length d2, .slice B3 r.ks.length d3]
      have k1 := k1.below hb5 k1.lt; have hO := hO.below hb5 (Nat.le_refl _); have hb0 := hb0.trans (hb5.mono hb0.size)
      clear hb5
      generalize w4.alloc (.cells #[.slice B1 r.hs.length d1, .slice B2 r.ts.length d2, .slice B3 r.ks.length d3] 31) = W5 at *
      have hn7 : r.hs.length + r.ts.length + r.ks.length ≤ 1048576 := by omega
      cases tr : presB r.hs r.ts r.ks with
      | false =>
        go_at_call 15; refine (impl_ValidPresence_any _ _ _ _ _ _ _ _ _ _ _ _ _ hO.at_ hn7).mono ?_; rw [tr]; rintro e w6 ⟨rfl, hb6⟩
        have k1 := k1.below hb6 k1.lt
        have hb0 := hb0.trans (hb6.mono hb0.size)
        have r0 := k1.cell 0; have r1 := k1.cell 1; have r2 := k1.cell 2; have f0 := k1.frozen 0; have f1 := k1.frozen 1; have f2 := k1.frozen 2
        go_wp2
        exact bodyPost_ret (v := .tuple #[.agg #[.slice none 0 0, .slice none 0 0, .slice none 0 0], .bool false]) (by simp [results, Try.results78, go_sem, r0, r1, r2]) rfl (by rw [show okR hs ts ks true r = false by unfold okR; rw [tr]; simp]; exact presOut_no (below_set3 hb0 (Nat.le_succ _) _ _ _ _ _ _))
      | true =>
        go_at_call 15; refine (impl_ValidPresence_any _ _ _ _ _ _ _ _ _ _ _ _ _ hO.at_ hn7).mono ?_; rw [tr]; rintro e w6 ⟨rfl, hb6⟩
        have k1 := k1.below hb6 k1.lt; have k7 := k7.below hb6 k7.lt; have hO := hO.below hb6 (Nat.le_refl _)
        have hb0 := hb0.trans (hb6.mono hb0.size)
        have HTR := Lib.hid (show okR hs ts ks true r = true by unfold okR; rw [HTB.out, tr]; rfl)
        clear hb6 tr
        have r0 := k1.cell 0; have r1 := k1.cell 1; have r2 := k1.cell 2; have f0 := k1.frozen 0; have f1 := k1.frozen 1; have f2 := k1.frozen 2
        have s0 := k7.cell 0; have s1 := k7.cell 1; have s2 := k7.cell 2; have slt := k7.lt
        go_wp2
        refine bodyPost_ret (v := .tuple #[.agg #[.slice B1 r.hs.length d1, .slice B2 r.ts.length d2, .slice B3 r.ks.length d3], .bool true]) (by simp [results, Try.results78, go_sem, r0, r1, r2]) rfl ?_
        rw [HTR.out]
        exact ⟨_, _, _, _, _, _, _, _, _, rfl, (hO.set3 (by have := HK1.out; omega) _ _ _ _ _ _).mono hz4, below_set3 hb0 (Nat.le_succ _) _ _ _ _ _ _, hn7⟩
end Go.Proofs.Ytgomffcdoglbfaa
