import Derived.Test.YtgomffcdoglbfaaChecked
import Derived.WalkKit
import Derived.ProofKit
import Derived.OpenShut
import Derived.ShutString
import Derived.ChangeOld
import Derived.Below
import Derived.Lib.Hide
import Derived.StillTailTactics
import Derived.Maps.OwnSet
import Derived.Maps.OwnOps
import Derived.Shelf.Abstract
import Derived.Deep.RegionHeld3
import Derived.Test.YtgomffcdoglbfaaZChgP
import Derived.Test.YtgomffcdoglbfaaZMsgV
import Derived.Test.YtgomffcdoglbfaaZListE
namespace Go.Proofs.Ytgomffcdoglbfaa
open Go.ChangeShapes Go.WideShapes Go.ChangeAt Go.RowKit
open Go.ChangeMaps (open_string shut_string)
set_option linter.unusedVariables false
open Go.Maps
set_option maxRecDepth 100000
theorem szA (w : World) (x : Obj) : (w.alloc x).heap.size = w.heap.size + 1 := by simp
theorem clock_any (gc : Nat) (at_ : Int) (w : World) (h : Blk w gc 2 #[.int .i64 at_]) :
    Calls Try.prog 108 #[.pointer (some ⟨gc, 0, none⟩)] w fun e w' => e = .returned (.int .i64 at_) ∧ w' = w := by
  have l0 := h.cell 0; have l1 := h.lt
  go_enter Try.func108, Try.ntmps108
  go_wp2
  go_ret
  exact ⟨rfl, rfl⟩
/-- what a change at a tick does to a gathering -/
def TurnsAt (fid : FuncId) (caps : Array Value) (at_ : Int) (yes : Bool) (r : PR) (hs ts ks : List Bn) (w : World) : Prop :=
  ∀ (w' : World) (base G gc : Nat), Below w.heap.size w w' → w.heap.size ≤ base → base ≤ w'.heap.size → Gath 100 w' base G hs ts ks → Blk w' gc 2 #[.int .i64 at_] →
    Calls Try.prog fid (#[.pointer (some ⟨G, 0, none⟩), .func (.func 108) #[] #[.pointer (some ⟨gc, 0, none⟩)]] ++ caps) w' fun e w'' => e = .returned (.bool yes) ∧ (yes = true → Gath 1000 w'' base G r.hs r.ts r.ks ∧ (WfB r.hs ∧ WfB r.ts ∧ WfB r.ks) ∧ r.hs.length ≤ 1000 ∧ r.ts.length ≤ 1000 ∧ r.ks.length ≤ 1000) ∧ Below base w' w''
set_option maxHeartbeats 3200000 in
theorem at_turns (fid : FuncId) (caps : Array Value) (hen : Enters Try.prog fid) (gn gf : Nat) (at_ : Int) (yes : Bool) (r : PR) (hs ts ks : List Bn) (w0 w : World) (hb0 : Below w0.heap.size w0 w) (hk : Blk w gn 2 #[.int .i64 at_]) (hf : Blk w gf 111 #[.func (.func fid) #[] caps])
    (hT : tickB at_ = true → TurnsAt fid caps at_ yes r hs ts ks w0) :
    Turns 106 #[.pointer (some ⟨gn, 0, none⟩), .pointer (some ⟨gf, 0, none⟩)] (tickB at_ && yes) r hs ts ks w := by
  intro w' base G hb hB hw hG
  unfold Enters at hen
  have kn := hk.below hb hk.lt
  have kf := hf.below hb hf.lt
  have hT' := fun h => hT h w' base G gn (hb0.trans (hb.mono hb0.size)) (Nat.le_trans hb0.size hB) hw hG kn
  have HT := Lib.hid hT'
  clear hT hT' hk hf hG
  show Calls Try.prog 106 #[.pointer (some ⟨G, 0, none⟩), .pointer (some ⟨gn, 0, none⟩), .pointer (some ⟨gf, 0, none⟩)] w' _
  have l0 := kn.cell 0; have lt0 := kn.lt; have l1 := kf.cell 0; have lt1 := kf.lt
  go_enter Try.func106, Try.ntmps106
  cases ta : tickB at_ with
  | false =>
    go_wp2_with (go_at_call 107; refine (isTick_b _ _ _ ta).mono ?_; rintro e w6 ⟨rfl, rfl⟩)
    all_goals go_ret
    all_goals exact ⟨rfl, (fun h => by cases h), Below.refl _ _⟩
  | true =>
    have cc := HT.out ta
    clear HT
    go_wp2_with (first | (go_at_call 107; refine (isTick_b _ _ _ ta).mono ?_; rintro e w6 ⟨rfl, rfl⟩) | (go_at_fn fid; refine cc.mono ?_; rintro e w3 ⟨rfl, hy, hb3⟩))
    all_goals go_ret
    all_goals exact ⟨by simp, by simpa using hy, hb3⟩
set_option maxHeartbeats 3200000 in
theorem changedAt_any (fid : FuncId) (caps : Array Value) (hen : Enters Try.prog fid) (at_ : Int) (yes : Bool) (r : PR) (A1 A2 A3 : Option Addr) (n1 c1 n2 c2 n3 c3 : Nat) (hs ts ks : List Bn) (w : World) (h : PresAt w w.heap.size A1 n1 A2 n2 A3 n3 hs ts ks) (hn : n1 + n2 + n3 ≤ 1048576) (hc : presB hs ts ks = true → tickB at_ = true → TurnsAt fid caps at_ yes r hs ts ks w) :
    Calls Try.prog 72 #[.agg #[.slice A1 n1 c1, .slice A2 n2 c2, .slice A3 n3 c3], .int .i64 at_, .func (.func fid) #[] caps] w fun e w' => PresOut (giveR (okR hs ts ks (tickB at_ && yes) r) r) (okR hs ts ks (tickB at_ && yes) r) w e w' := by
  go_enter Try.func72, Try.ntmps72
  obtain ⟨k0, km, hb0⟩ := two_boxes w 31 2 #[.slice A1 n1 c1, .slice A2 n2 c2, .slice A3 n3 c3] #[.int .i64 at_]
  obtain ⟨kf, k1, hb1⟩ := two_boxes ((w.alloc (.cells #[.slice A1 n1 c1, .slice A2 n2 c2, .slice A3 n3 c3] 31)).alloc (.cells #[.int .i64 at_] 2)) 111 31 #[.func (.func fid) #[] caps] #[.slice none 0 0, .slice none 0 0, .slice none 0 0]
  have k0 := k0.below hb1 k0.lt; have km := km.below hb1 km.lt
  have hb0 := hb0.trans (hb1.mono hb0.size)
  have h := h.to hb0
  clear hb1
  simp only [szA] at kf k1
  have l0 := k0.cell 0; have l1 := k0.cell 1; have l2 := k0.cell 2; have klt := k0.lt
  go_wp2_with fail
  clear l0 l1 l2 klt
  generalize (((w.alloc (.cells #[.slice A1 n1 c1, .slice A2 n2 c2, .slice A3 n3 c3] 31)).alloc (.cells #[.int .i64 at_] 2)).alloc (.cells #[.func (.func fid) #[] caps] 111)).alloc (.cells #[.slice none 0 0, .slice none 0 0, .slice none 0 0] 31) = W at *
  have cc := changedPresence_any 106 #[.pointer (some ⟨w.heap.size + 1, 0, none⟩), .pointer (some ⟨w.heap.size + 1 + 1, 0, none⟩)] (enters_of Try.func106 (by kernel_rfl) rfl) (tickB at_ && yes) r _ _ _ n1 c1 n2 c2 n3 c3 hs ts ks W h hn (fun hp => at_turns fid caps hen _ _ at_ yes r hs ts ks w W hb0 km kf (hc hp))
  go_at_call 78; refine cc.mono ?_; rintro e w2 ⟨B1, m1, d1, B2, m2, d2, B3, m3, d3, rfl, hO, hb2, hn2⟩
  have zW := k1.lt
  have k1 := k1.below hb2 k1.lt
  have hb0 := hb0.trans (hb2.mono hb0.size)
  have r0 := k1.cell 0; have r1 := k1.cell 1; have r2 := k1.cell 2; have f0 := k1.frozen 0; have f1 := k1.frozen 1; have f2 := k1.frozen 2
  go_wp2
  exact bodyPost_ret (v := .tuple #[.agg #[.slice B1 m1 d1, .slice B2 m2 d2, .slice B3 m3 d3], .bool (okR hs ts ks (tickB at_ && yes) r)]) (by simp [results, Try.results72, go_sem, r0, r1, r2]) rfl ⟨_, _, _, _, _, _, _, _, _, rfl, (hO.set3 (by omega) _ _ _ _ _ _).mono (by omega), below_set3 hb0 (by omega) _ _ _ _ _ _, hn2⟩
end Go.Proofs.Ytgomffcdoglbfaa
