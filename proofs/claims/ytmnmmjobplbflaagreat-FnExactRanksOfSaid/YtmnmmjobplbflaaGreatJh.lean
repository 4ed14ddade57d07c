import Derived.Test.YtmnmmjobplbflaaGreatChecked
import Derived.WalkKit
import Derived.ProofKit
import Derived.OpenShut
import Derived.ShutString
import Derived.ChangeOld
import Derived.Below
import Derived.Lib.Hide
import Derived.Test.YtmnmmjobplbflaaGreatZValidI
import Derived.Test.YtmnmmjobplbflaaGreatJq
namespace Go.Proofs.YtmnmmjobplbflaaGreat
open Go.ChangeShapes Go.WideShapes Go.ChangeAt Go.RowKit
open Go.ChangeMaps (open_string shut_string)
set_option linter.unusedVariables false
set_option maxRecDepth 100000
/-- what a function that hands a room and a bool back answers -/
def RoomOut (r : ROut) (w : World) (e : Ending) (w' : World) : Prop := ∃ A1 n1 c1 A2 n2 c2 A3 n3 c3, e = .returned (.tuple #[.agg #[.bool r.o, .slice A1 n1 c1, .slice A2 n2 c2, .slice A3 n3 c3], .bool r.ok]) ∧
  RoomOwn w' w.heap.size A1 n1 c1 A2 n2 c2 A3 n3 c3 r.ms r.vs r.bs ∧ Below w.heap.size w w' ∧ n1 + n2 + n3 ≤ 1048576
theorem RoomOwn.none_ (w : World) (base : Nat) : RoomOwn w base none 0 0 none 0 0 none 0 0 [] [] [] := ⟨World.ownsRow_nil _ _ _ _, World.ownsRow_nil _ _ _ _, World.ownsRow_nil _ _ _ _⟩
theorem roomOut_no {w w' : World} (h : Below w.heap.size w w') : RoomOut rNo w (.returned (.tuple #[.agg #[.bool false, .slice none 0 0, .slice none 0 0, .slice none 0 0], .bool false])) w' :=
  ⟨none, 0, 0, none, 0, 0, none, 0, 0, rfl, RoomOwn.none_ _ _, h, by omega⟩
theorem RoomOwn.set_ {w : World} {base n1 c1 n2 c2 n3 c3 : Nat} {A1 A2 A3 : Option Addr} {ms : List Mb} {vs : List Iv} {bs : List Bn} (h : RoomOwn w base A1 n1 c1 A2 n2 c2 A3 n3 c3 ms vs bs) {a : Addr} (ha : a.block < base) (v : Value) : RoomOwn (w.setCell a v) base A1 n1 c1 A2 n2 c2 A3 n3 c3 ms vs bs :=
  ⟨ownsRow_setCell_below h.1 ha v, ownsRow_setCell_below h.2.1 ha v, ownsRow_setCell_below h.2.2 ha v⟩
theorem RoomOwn.set4 {w : World} {base n1 c1 n2 c2 n3 c3 g : Nat} {A1 A2 A3 : Option Addr} {ms : List Mb} {vs : List Iv} {bs : List Bn} (h : RoomOwn w base A1 n1 c1 A2 n2 c2 A3 n3 c3 ms vs bs) (hg : g < base) (i j k l : Nat) (v0 v1 v2 v3 : Value) :
    RoomOwn ((((w.setCell ⟨g, i, none⟩ v0).setCell ⟨g, j, none⟩ v1).setCell ⟨g, k, none⟩ v2).setCell ⟨g, l, none⟩ v3) base A1 n1 c1 A2 n2 c2 A3 n3 c3 ms vs bs := (((h.set_ hg v0).set_ hg v1).set_ hg v2).set_ hg v3
theorem below_set4 {w w' : World} {B g : Nat} (h : Below B w w') (hg : B ≤ g) (i j k l : Nat) (v0 v1 v2 v3 : Value) :
    Below B w ((((w'.setCell ⟨g, i, none⟩ v0).setCell ⟨g, j, none⟩ v1).setCell ⟨g, k, none⟩ v2).setCell ⟨g, l, none⟩ v3) := (((h.setCell hg v0).setCell hg v1).setCell hg v2).setCell hg v3
end Go.Proofs.YtmnmmjobplbflaaGreat
namespace Go.Proofs.YtmnmmjobplbflaaGreat
open Go.ChangeShapes Go.WideShapes Go.ChangeAt Go.RowKit
open Go.ChangeMaps (open_string shut_string)
set_option linter.unusedVariables false
set_option maxRecDepth 100000
theorem own_off {w w' : World} {b1 e1 s1 n1 e2 s2 n2 : Nat} {v1 v2 : Value} {xs ys : List Value} (h1 : w.ownsRow b1 e1 s1 v1 n1 xs) (h2 : w'.ownsRow w.heap.size e2 s2 v2 n2 ys) : v1.ownBlock = none ∨ v1.ownBlock ≠ v2.ownBlock := by
  rcases h1.2 with ⟨rfl, _⟩ | ⟨g, cap, cur, rfl, hg0, hg, _⟩
  · exact .inl rfl
  · right
    have hlt := (h1.lt g rfl).2
    rcases h2.2 with ⟨rfl, _⟩ | ⟨g', cap', cur', rfl, hg0', hg', _⟩
    · simp [Value.ownBlock]
    · intro e
      simp only [Value.ownBlock, Option.some.injEq] at e
      subst e
      omega
theorem own_turn {w w' : World} {b1 e1 s1 n1 e2 s2 n2 : Nat} {v1 v2 : Value} {xs ys : List Value} (ha : w.ownsRow b1 e1 s1 v1 n1 xs) (hb : w'.ownsRow w.heap.size e2 s2 v2 n2 ys) : v2.ownBlock = none ∨ v2.ownBlock ≠ v1.ownBlock := by
  rcases hb.2 with ⟨rfl, _⟩ | ⟨g', cap', cur', rfl, hg0', hg', _⟩
  · exact .inl rfl
  · right
    rcases ha.2 with ⟨rfl, _⟩ | ⟨g, cap, cur, rfl, hg0, hg, _⟩
    · simp [Value.ownBlock]
    · have hlt := (ha.lt g rfl).2
      intro e
      simp only [Value.ownBlock, Option.some.injEq] at e
      omega
def Off (v A1 A2 A3 : Value) : Prop := apartFrom v A1 A2 A3
def RoomOff (A1 A2 A3 B1 B2 B3 : Value) : Prop := apartFrom A1 B1 B2 B3 ∧ apartFrom A2 B1 B2 B3 ∧ apartFrom A3 B1 B2 B3
theorem off_of {v A1 A2 A3 : Value} (h1 : v.ownBlock = none ∨ v.ownBlock ≠ A1.ownBlock) (h2 : v.ownBlock = none ∨ v.ownBlock ≠ A2.ownBlock) (h3 : v.ownBlock = none ∨ v.ownBlock ≠ A3.ownBlock) : apartFrom v A1 A2 A3 := by
  rcases h1 with h1 | h1
  · exact .inl h1
  · rcases h2 with h2 | h2
    · exact .inl h2
    · rcases h3 with h3 | h3
      · exact .inl h3
      · exact .inr ⟨h1, h2, h3⟩
theorem room_off {w w' : World} {base n1 c1 n2 c2 n3 c3 n1' c1' n2' c2' n3' c3' : Nat} {A1 A2 A3 A1' A2' A3' : Option Addr} {ms ms' : List Mb} {vs vs' : List Iv} {bs bs' : List Bn}
    (h : RoomOwn w base A1 n1 c1 A2 n2 c2 A3 n3 c3 ms vs bs) (h' : RoomOwn w' w.heap.size A1' n1' c1' A2' n2' c2' A3' n3' c3' ms' vs' bs') :
    RoomOff (.slice A1 n1 c1) (.slice A2 n2 c2) (.slice A3 n3 c3) (.slice A1' n1' c1') (.slice A2' n2' c2') (.slice A3' n3' c3') :=
  ⟨off_of (own_off h.1 h'.1) (own_off h.1 h'.2.1) (own_off h.1 h'.2.2), off_of (own_off h.2.1 h'.1) (own_off h.2.1 h'.2.1) (own_off h.2.1 h'.2.2), off_of (own_off h.2.2 h'.1) (own_off h.2.2 h'.2.1) (own_off h.2.2 h'.2.2)⟩
/-- the other way about -/
theorem room_off' {w w' : World} {base n1 c1 n2 c2 n3 c3 n1' c1' n2' c2' n3' c3' : Nat} {A1 A2 A3 A1' A2' A3' : Option Addr} {ms ms' : List Mb} {vs vs' : List Iv} {bs bs' : List Bn}
    (h : RoomOwn w base A1 n1 c1 A2 n2 c2 A3 n3 c3 ms vs bs) (h' : RoomOwn w' w.heap.size A1' n1' c1' A2' n2' c2' A3' n3' c3' ms' vs' bs') :
    RoomOff (.slice A1' n1' c1') (.slice A2' n2' c2') (.slice A3' n3' c3') (.slice A1 n1 c1) (.slice A2 n2 c2) (.slice A3 n3 c3) := by
  have turn : ∀ {b1 e1 s1 n1 e2 s2 n2 : Nat} {v1 v2 : Value} {xs ys : List Value}, w.ownsRow b1 e1 s1 v1 n1 xs → w'.ownsRow w.heap.size e2 s2 v2 n2 ys → v2.ownBlock = none ∨ v2.ownBlock ≠ v1.ownBlock := fun ha hb => by
    rcases hb.2 with ⟨rfl, _⟩ | ⟨g', cap', cur', rfl, hg0', hg', _⟩
    · exact .inl rfl
    · right
      rcases ha.2 with ⟨rfl, _⟩ | ⟨g, cap, cur, rfl, hg0, hg, _⟩
      · simp [Value.ownBlock]
      · have hlt := (ha.lt g rfl).2
        intro e
        simp only [Value.ownBlock, Option.some.injEq] at e
        omega
  exact ⟨off_of (turn h.1 h'.1) (turn h.2.1 h'.1) (turn h.2.2 h'.1), off_of (turn h.1 h'.2.1) (turn h.2.1 h'.2.1) (turn h.2.2 h'.2.1), off_of (turn h.1 h'.2.2) (turn h.2.1 h'.2.2) (turn h.2.2 h'.2.2)⟩
theorem room_kept {w w' : World} {base n1 c1 n2 c2 n3 c3 : Nat} {A1 A2 A3 : Option Addr} {B1 B2 B3 : Value} {ms : List Mb} {vs : List Iv} {bs : List Bn}
    (h : RoomOwn w base A1 n1 c1 A2 n2 c2 A3 n3 c3 ms vs bs) (hk : ∀ b1 e1 s1 v m zs, w.ownsRow b1 e1 s1 v m zs → apartFrom v B1 B2 B3 → w'.ownsRow b1 e1 s1 v m zs) (ho : RoomOff (.slice A1 n1 c1) (.slice A2 n2 c2) (.slice A3 n3 c3) B1 B2 B3) :
    RoomOwn w' base A1 n1 c1 A2 n2 c2 A3 n3 c3 ms vs bs := ⟨hk _ _ _ _ _ _ h.1 ho.1, hk _ _ _ _ _ _ h.2.1 ho.2.1, hk _ _ _ _ _ _ h.2.2 ho.2.2⟩
end Go.Proofs.YtmnmmjobplbflaaGreat
