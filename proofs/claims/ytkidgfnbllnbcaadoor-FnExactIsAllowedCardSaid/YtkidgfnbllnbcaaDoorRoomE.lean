import Derived.Test.YtkidgfnbllnbcaaDoorChecked
import Derived.WalkKit
import Derived.ProofKit
import Derived.OpenShut
import Derived.ShutString
import Derived.ChangeOld
import Derived.Below
import Derived.Lib.Hide
import Derived.Test.YtkidgfnbllnbcaaDoorRoomT
import Derived.Test.YtkidgfnbllnbcaaDoorMkM
import Derived.Test.YtkidgfnbllnbcaaDoorMkI
import Derived.Test.YtkidgfnbllnbcaaDoorMkB
namespace Go.Proofs.YtkidgfnbllnbcaaDoor
open Go.ChangeShapes Go.WideShapes Go.ChangeAt Go.RowKit
open Go.ChangeMaps (open_string shut_string)
set_option linter.unusedVariables false
set_option maxRecDepth 100000
theorem one_box (w : World) (t : TypeId) (c : Array Value) : Blk (w.alloc (.cells c t)) w.heap.size t c ∧ Below w.heap.size w (w.alloc (.cells c t)) :=
  ⟨Blk.new _ _ _, (Below.refl _ _).alloc (Nat.le_refl _) _⟩
theorem two_boxes (w : World) (t t' : TypeId) (c c' : Array Value) : Blk ((w.alloc (.cells c t)).alloc (.cells c' t')) w.heap.size t c ∧ Blk ((w.alloc (.cells c t)).alloc (.cells c' t')) (w.heap.size + 1) t' c' ∧ Below w.heap.size w ((w.alloc (.cells c t)).alloc (.cells c' t')) := by
  refine ⟨(Blk.new _ _ _).alloc _, ?_, ((Below.refl _ _).alloc (Nat.le_refl _) _).alloc (by simp) _⟩
  have := Blk.new (w.alloc (.cells c t)) t' c'
  simpa using this
set_option maxHeartbeats 800000 in
theorem eqRoom_same (o : Bool) (A1 A2 A3 A1' A2' A3' : Option Addr) (n1 c1 n2 c2 n3 c3 n1' c1' n2' c2' n3' c3' : Nat) (ms : List Mb) (vs : List Iv) (bs : List Bn) (w : World)
    (h : RoomAt w w.heap.size A1 n1 A2 n2 A3 n3 ms vs bs) (h' : RoomAt w w.heap.size A1' n1' A2' n2' A3' n3' ms vs bs) (hn : n1 + n2 + n3 ≤ 1048576) :
    Calls Tryd.prog 22 #[.agg #[.bool o, .slice A1 n1 c1, .slice A2 n2 c2, .slice A3 n3 c3], .agg #[.bool o, .slice A1' n1' c1', .slice A2' n2' c2', .slice A3' n3' c3']] w fun e w' => e = .returned (.bool true) ∧ Below w.heap.size w w' := by
  go_enter Tryd.func22, Tryd.ntmps22
  go_wp2_with fail
  obtain ⟨k0, k1, hb0⟩ := two_boxes w 28 28 #[.bool o, .slice A1 n1 c1, .slice A2 n2 c2, .slice A3 n3 c3] #[.bool o, .slice A1' n1' c1', .slice A2' n2' c2', .slice A3' n3' c3']
  generalize ((w.alloc (.cells #[.bool o, .slice A1 n1 c1, .slice A2 n2 c2, .slice A3 n3 c3] 28)).alloc (.cells #[.bool o, .slice A1' n1' c1', .slice A2' n2' c2', .slice A3' n3' c3'] 28)) = W at *
  have h := (h.below hb0).more hb0.size
  have h' := (h'.below hb0).more hb0.size
  go_at_call 56; refine (eqMemberS_same _ _ _ _ _ _ _ _ h.1 h'.1 (by omega)).mono ?_; rintro e w1 ⟨rfl, hb1⟩
  have h := h.to hb1
  have h' := h'.to hb1
  have k0 := k0.below hb1 k0.lt
  have k1 := k1.below hb1 k1.lt
  have hb0 := hb0.trans (hb1.mono hb0.size)
  clear hb1
  have l0 := k0.cell 2
  have l1 := k1.cell 2
  go_wp2_with fail
  go_at_call 57; refine (eqInviteS_same _ _ _ _ _ _ _ _ h.2.1 h'.2.1 (by omega)).mono ?_; rintro e w2 ⟨rfl, hb1⟩
  have h := h.to hb1
  have h' := h'.to hb1
  have k0 := k0.below hb1 k0.lt
  have k1 := k1.below hb1 k1.lt
  have hb0 := hb0.trans (hb1.mono hb0.size)
  clear hb1 l0 l1
  have l0 := k0.cell 3
  have l1 := k1.cell 3
  go_wp2_with fail
  go_at_call 58; refine (eqBanS_same _ _ _ _ _ _ _ _ h.2.2 h'.2.2 (by omega)).mono ?_; rintro e w3 ⟨rfl, hb1⟩
  have hb0 := hb0.trans (hb1.mono hb0.size)
  clear hb1 l0 l1
  go_wp2
  go_ret
  exact ⟨rfl, hb0⟩
theorem own_types2 {w : World} {b1 b2 e1 e2 s1 s2 n1 n2 : Nat} {v1 v2 : Value} {xs ys : List Value} (h1 : w.ownsRow b1 e1 s1 v1 n1 xs) (h2 : w.ownsRow b2 e2 s2 v2 n2 ys) (he : e1 ≠ e2) : v1.ownBlock = none ∨ v1.ownBlock ≠ v2.ownBlock := by
  rcases h1.2 with ⟨rfl, _⟩ | ⟨g, cap, cur, rfl, _, hg, _⟩
  · exact .inl rfl
  · right
    rcases h2.2 with ⟨rfl, _⟩ | ⟨g', cap', cur', rfl, _, hg', _⟩
    · simp [Value.ownBlock]
    · intro e
      have e' : g = g' := by simpa [Value.ownBlock] using e
      subst e'
      rw [hg] at hg'
      injection hg' with hg'
      injection hg' with _ ht _
      exact he ht
theorem blk_apart {w : World} {g t base e s n : Nat} {cs : Array Value} {v : Value} {xs : List Value} (hb : Blk w g t cs) (h : w.ownsRow base e s v n xs) (hne : t ≠ e) : some g ≠ v.ownBlock := by
  rcases h.2 with ⟨rfl, _⟩ | ⟨g', cap, cur, rfl, _, hg, _⟩
  · simp [Value.ownBlock]
  · intro e
    have e' : g = g' := by simpa [Value.ownBlock] using e
    subst e'
    unfold Blk at hb
    rw [hg] at hb
    injection hb with hb
    injection hb with _ ht _
    exact hne ht.symm
def apartFrom (v : Value) (A1 A2 A3 : Value) : Prop := v.ownBlock = none ∨ (v.ownBlock ≠ A1.ownBlock ∧ v.ownBlock ≠ A2.ownBlock ∧ v.ownBlock ≠ A3.ownBlock)
theorem below_own {B base e size n : Nat} {w0 w w' : World} {v : Value} {xs : List Value} (hb : Below B w0 w) (h : w.ownsRow base e size v n xs) (hg : w.grownBy w' v.ownBlock) (hB : B ≤ base) (hBw : B ≤ w.heap.size) : Below B w0 w' :=
  hb.grown hg hBw fun k hk => Nat.le_trans hB (h.lt k hk).1
end Go.Proofs.YtkidgfnbllnbcaaDoor
