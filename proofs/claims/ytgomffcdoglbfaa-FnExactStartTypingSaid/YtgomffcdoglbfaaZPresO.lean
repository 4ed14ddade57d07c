import Derived.Test.YtgomffcdoglbfaaChecked
import Derived.WalkKit
import Derived.ProofKit
import Derived.OpenShut
import Derived.ShutString
import Derived.ChangeOld
import Derived.Below
import Derived.Lib.Hide
import Derived.Test.YtgomffcdoglbfaaZPutW
import Derived.Test.YtgomffcdoglbfaaZPresS
import Derived.Test.YtgomffcdoglbfaaJp
namespace Go.Proofs.Ytgomffcdoglbfaa
open Go.ChangeShapes Go.WideShapes Go.ChangeAt Go.RowKit
open Go.ChangeMaps (open_string shut_string)
set_option linter.unusedVariables false
set_option maxRecDepth 100000
section
variable {w w' : World} {base base' B n1 c1 n2 c2 n3 c3 : Nat} {A1 A2 A3 : Option Addr} {hs ts ks : List Bn}
theorem PresOwnS.below (h : PresOwnS w base A1 n1 c1 A2 n2 c2 A3 n3 c3 hs ts ks) (hb : Below B w w') (hB : w.heap.size ≤ B) : PresOwnS w' base A1 n1 c1 A2 n2 c2 A3 n3 c3 hs ts ks :=
  ⟨own_below h.1 hb hB, own_below h.2.1 hb hB, own_below h.2.2 hb hB⟩
theorem PresOwnS.mono (h : PresOwnS w base A1 n1 c1 A2 n2 c2 A3 n3 c3 hs ts ks) (hb : base' ≤ base) : PresOwnS w base' A1 n1 c1 A2 n2 c2 A3 n3 c3 hs ts ks :=
  ⟨World.ownsRow.mono h.1 hb, World.ownsRow.mono h.2.1 hb, World.ownsRow.mono h.2.2 hb⟩
theorem PresOwnS.at_ (h : PresOwnS w base A1 n1 c1 A2 n2 c2 A3 n3 c3 hs ts ks) : PresAt w w.heap.size A1 n1 A2 n2 A3 n3 hs ts ks :=
  ⟨SRow.of_own_any bnC_len (by omega) h.1, SRow.of_own_any bnC_len (by omega) h.2.1, SRow.of_own_any bnC_len (by omega) h.2.2⟩
theorem PresOwnS.span (h : PresOwnS w base A1 n1 c1 A2 n2 c2 A3 n3 c3 hs ts ks) : PresSpan base w.heap.size A1 n1 c1 A2 n2 c2 A3 n3 c3 := ⟨span_own h.1, span_own h.2.1, span_own h.2.2⟩
theorem PresOwnS.moved {lo hi lo' hi' : Nat} (h : PresOwnS w base A1 n1 c1 A2 n2 c2 A3 n3 c3 hs ts ks) (hm : Moved lo hi w w') (hp : PresSpan lo' hi' A1 n1 c1 A2 n2 c2 A3 n3 c3) (hd : hi' ≤ lo ∨ hi ≤ lo') : PresOwnS w' base A1 n1 c1 A2 n2 c2 A3 n3 c3 hs ts ks := ⟨hm.own h.1 hp.1 hd, hm.own h.2.1 hp.2.1 hd, hm.own h.2.2 hp.2.2 hd⟩
end
/-- the answer of the model: a presence and a bool -/
def PresOutS (r : PR) (ok : Bool) (w : World) (e : Ending) (w' : World) : Prop := ∃ A1 n1 c1 A2 n2 c2 A3 n3 c3, e = .returned (.tuple #[.agg #[.slice A1 n1 c1, .slice A2 n2 c2, .slice A3 n3 c3], .bool ok]) ∧
  PresOwnS w' w.heap.size A1 n1 c1 A2 n2 c2 A3 n3 c3 r.hs r.ts r.ks ∧ Below w.heap.size w w' ∧ n1 + n2 + n3 ≤ 1048576
theorem presOutS_no {r : PR} {w w' : World} (h : Below w.heap.size w w') : PresOutS (giveR false r) false w (.returned (.tuple #[.agg #[.slice none 0 0, .slice none 0 0, .slice none 0 0], .bool false])) w' :=
  ⟨none, 0, 0, none, 0, 0, none, 0, 0, rfl, ⟨World.ownsRow_nil _ _ _ _, World.ownsRow_nil _ _ _ _, World.ownsRow_nil _ _ _ _⟩, h, by omega⟩
theorem PresOwnS.set_ {w : World} {base n1 c1 n2 c2 n3 c3 : Nat} {A1 A2 A3 : Option Addr} {hs ts ks : List Bn} (h : PresOwnS w base A1 n1 c1 A2 n2 c2 A3 n3 c3 hs ts ks) {a : Addr} (ha : a.block < base) (v : Value) : PresOwnS (w.setCell a v) base A1 n1 c1 A2 n2 c2 A3 n3 c3 hs ts ks :=
  ⟨ownsRow_setCell_below h.1 ha v, ownsRow_setCell_below h.2.1 ha v, ownsRow_setCell_below h.2.2 ha v⟩
theorem PresOwnS.set3 {w : World} {base n1 c1 n2 c2 n3 c3 g : Nat} {A1 A2 A3 : Option Addr} {hs ts ks : List Bn} (h : PresOwnS w base A1 n1 c1 A2 n2 c2 A3 n3 c3 hs ts ks) (hg : g < base) (i j k : Nat) (v0 v1 v2 : Value) :
    PresOwnS (((w.setCell ⟨g, i, none⟩ v0).setCell ⟨g, j, none⟩ v1).setCell ⟨g, k, none⟩ v2) base A1 n1 c1 A2 n2 c2 A3 n3 c3 hs ts ks := ((h.set_ hg v0).set_ hg v1).set_ hg v2
theorem presOkS {hs ts ks : List Bn} (h : presB hs ts ks = true) : Rise Bn.id hs ∧ Rise Bn.id ts ∧ Rise Bn.id ks := by
  obtain ⟨h1, h2, h3⟩ := presB_iff.1 h
  obtain ⟨_, _, m1⟩ := roll_rise h1
  obtain ⟨_, _, m2⟩ := roll_rise h2
  obtain ⟨_, _, m3⟩ := roll_rise h3
  exact ⟨rise_map.1 (memB_pair m1), rise_map.1 (memB_pair m2), rise_map.1 (memB_pair m3)⟩
theorem presLenS {hs ts ks : List Bn} (h : presB hs ts ks = true) : hs.length ≤ 30 ∧ ts.length ≤ 30 ∧ ks.length ≤ 30 := by
  obtain ⟨h1, h2, h3⟩ := presB_iff.1 h
  exact ⟨(roll_rise h1).1, (roll_rise h2).1, (roll_rise h3).1⟩
theorem below_3 {w w' : World} {B g : Nat} (h : Below B w w') (hg : B ≤ g) (i j k : Nat) (v0 v1 v2 : Value) : Below B w (((w'.setCell ⟨g, i, none⟩ v0).setCell ⟨g, j, none⟩ v1).setCell ⟨g, k, none⟩ v2) := ((h.setCell hg v0).setCell hg v1).setCell hg v2
theorem l05Give_yes (A1 A2 A3 : Option Addr) (n1 c1 n2 c2 n3 c3 : Nat) (hs ts ks : List Bn) (w : World) (h : PresAt w w.heap.size A1 n1 A2 n2 A3 n3 hs ts ks) (hn : n1 + n2 + n3 ≤ 1048576) (tb : presB hs ts ks = true) :
    Calls Try.prog 105 #[.agg #[.slice A1 n1 c1, .slice A2 n2 c2, .slice A3 n3 c3]] w fun e w' => e = .returned (.tuple #[.agg #[.slice A1 n1 c1, .slice A2 n2 c2, .slice A3 n3 c3], .bool true]) ∧ Below w.heap.size w w' := by
  go_enter Try.func105, Try.ntmps105
  go_wp2_with fail
  obtain ⟨k0, k1, hb0⟩ := two_boxes w 31 31 #[.slice A1 n1 c1, .slice A2 n2 c2, .slice A3 n3 c3] #[.slice none 0 0, .slice none 0 0, .slice none 0 0]
  have h := h.to hb0
  generalize ((w.alloc (.cells #[.slice A1 n1 c1, .slice A2 n2 c2, .slice A3 n3 c3] 31)).alloc (.cells #[.slice none 0 0, .slice none 0 0, .slice none 0 0] 31)) = W at *
  go_at_call 44; refine (l05Is_b _ _ _ _ _ _ _ _ _ _ _ _ _ _ _ k0 h hn tb).mono ?_; rintro e w1 ⟨rfl, hb1⟩
  have k0 := k0.below hb1 k0.lt; have k1 := k1.below hb1 k1.lt
  have hb0 := hb0.trans (hb1.mono hb0.size)
  clear hb1 h
  have l0 := k0.cell 0; have l1 := k0.cell 1; have l2 := k0.cell 2; have klt := k0.lt
  have r0 := k1.cell 0; have r1 := k1.cell 1; have r2 := k1.cell 2; have f0 := k1.frozen 0; have f1 := k1.frozen 1; have f2 := k1.frozen 2
  go_wp2
  exact bodyPost_ret (v := .tuple #[.agg #[.slice A1 n1 c1, .slice A2 n2 c2, .slice A3 n3 c3], .bool true]) (by simp [results, Try.results105, go_sem, r0, r1, r2]) rfl ⟨rfl, below_3 hb0 (Nat.le_succ _) _ _ _ _ _ _⟩
theorem l05Give_no (A1 A2 A3 : Option Addr) (n1 c1 n2 c2 n3 c3 : Nat) (hs ts ks : List Bn) (w : World) (h : PresAt w w.heap.size A1 n1 A2 n2 A3 n3 hs ts ks) (hn : n1 + n2 + n3 ≤ 1048576) (tb : presB hs ts ks = false) :
    Calls Try.prog 105 #[.agg #[.slice A1 n1 c1, .slice A2 n2 c2, .slice A3 n3 c3]] w fun e w' => e = .returned (.tuple #[.agg #[.slice none 0 0, .slice none 0 0, .slice none 0 0], .bool false]) ∧ Below w.heap.size w w' := by
  go_enter Try.func105, Try.ntmps105
  go_wp2_with fail
  obtain ⟨k0, k1, hb0⟩ := two_boxes w 31 31 #[.slice A1 n1 c1, .slice A2 n2 c2, .slice A3 n3 c3] #[.slice none 0 0, .slice none 0 0, .slice none 0 0]
  have h := h.to hb0
  generalize ((w.alloc (.cells #[.slice A1 n1 c1, .slice A2 n2 c2, .slice A3 n3 c3] 31)).alloc (.cells #[.slice none 0 0, .slice none 0 0, .slice none 0 0] 31)) = W at *
  go_at_call 44; refine (l05Is_b _ _ _ _ _ _ _ _ _ _ _ _ _ _ _ k0 h hn tb).mono ?_; rintro e w1 ⟨rfl, hb1⟩
  have k0 := k0.below hb1 k0.lt; have k1 := k1.below hb1 k1.lt
  have hb0 := hb0.trans (hb1.mono hb0.size)
  clear hb1 h
  have l0 := k0.cell 0; have l1 := k0.cell 1; have l2 := k0.cell 2; have klt := k0.lt
  have r0 := k1.cell 0; have r1 := k1.cell 1; have r2 := k1.cell 2; have f0 := k1.frozen 0; have f1 := k1.frozen 1; have f2 := k1.frozen 2
  go_wp2
  exact bodyPost_ret (v := .tuple #[.agg #[.slice none 0 0, .slice none 0 0, .slice none 0 0], .bool false]) (by simp [results, Try.results105, go_sem, r0, r1, r2]) rfl ⟨rfl, below_3 hb0 (Nat.le_succ _) _ _ _ _ _ _⟩
end Go.Proofs.Ytgomffcdoglbfaa
