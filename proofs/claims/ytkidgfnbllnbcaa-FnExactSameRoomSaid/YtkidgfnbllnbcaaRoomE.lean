import Derived.Test.YtkidgfnbllnbcaaChecked
import Derived.WalkKit
import Derived.ProofKit
import Derived.OpenShut
import Derived.ShutString
import Derived.ChangeOld
import Derived.Below
import Derived.Lib.Hide
import Derived.Test.YtkidgfnbllnbcaaRoomT
import Derived.Test.YtkidgfnbllnbcaaMkM
import Derived.Test.YtkidgfnbllnbcaaMkI
import Derived.Test.YtkidgfnbllnbcaaMkB
namespace Go.Proofs.Ytkidgfnbllnbcaa
open Go.ChangeShapes Go.WideShapes Go.ChangeAt Go.RowKit
open Go.ChangeMaps (open_string shut_string)
set_option linter.unusedVariables false
set_option maxRecDepth 100000
theorem one_box (w : World) (t : TypeId) (c : Array Value) : Blk (w.alloc (.cells c t)) w.heap.size t c ∧ Below w.heap.size w (w.alloc (.cells c t)) :=
  ⟨Blk.new _ _ _, (Below.refl _ _).alloc (Nat.le_refl _) _⟩
theorem two_boxes (w : World) (t t' : TypeId) (c c' : Array Value) : Blk ((w.alloc (.cells c t)).alloc (.cells c' t')) w.heap.size t c ∧ Blk ((w.alloc (.cells c t)).alloc (.cells c' t')) (w.heap.size + 1) t' c' ∧ Below w.heap.size w ((w.alloc (.cells c t)).alloc (.cells c' t')) := by
  refine ⟨(Blk.new _ _ _).alloc _, ?_, ((Below.refl _ _).alloc (Nat.le_refl _) _).alloc (by simp) _⟩
  have := Blk.new (w.alloc (.cells c t)) t' c'
  simpa using this
set_option maxHeartbeats 800000 in
theorem eqRoom_same (o : Bool) (A1 A2 A3 A1' A2' A3' : Option Addr) (n1 c1 n2 c2 n3 c3 n1' c1' n2' c2' n3' c3' : Nat) (ms : List Mb) (vs : List Iv) (bs : List Bn) (w : World)
    (h : RoomAt w w.heap.size A1 n1 A2 n2 A3 n3 ms vs bs) (h' : RoomAt w w.heap.size A1' n1' A2' n2' A3' n3' ms vs bs) (hn : n1 + n2 + n3 ≤ 1048576) :
    Calls Try.prog 12 #[.agg #[.bool o, .slice A1 n1 c1, .slice A2 n2 c2, .slice A3 n3 c3], .agg #[.bool o, .slice A1' n1' c1', .slice A2' n2' c2', .slice A3' n3' c3']] w fun e w' => e = .returned (.bool true) ∧ Below w.heap.size w w' := by
  go_enter Try.func12, Try.ntmps12
  go_wp2_with fail
  obtain ⟨k0, k1, hb0⟩ := two_boxes w 33 33 #[.bool o, .slice A1 n1 c1, .slice A2 n2 c2, .slice A3 n3 c3] #[.bool o, .slice A1' n1' c1', .slice A2' n2' c2', .slice A3' n3' c3']
  generalize ((w.alloc (.cells #[.bool o, .slice A1 n1 c1, .slice A2 n2 c2, .slice A3 n3 c3] 33)).alloc (.cells #[.bool o, .slice A1' n1' c1', .slice A2' n2' c2', .slice A3' n3' c3'] 33)) = W at *
  have h := (h.below hb0).more hb0.size
  have h' := (h'.below hb0).more hb0.size
  go_at_call 43; refine (eqMemberS_same _ _ _ _ _ _ _ _ h.1 h'.1 (by omega)).mono ?_; rintro e w1 ⟨rfl, hb1⟩
  have h := h.to hb1
  have h' := h'.to hb1
  have k0 := k0.below hb1 k0.lt
  have k1 := k1.below hb1 k1.lt
  have hb0 := hb0.trans (hb1.mono hb0.size)
  clear hb1
  have l0 := k0.cell 2
  have l1 := k1.cell 2
  go_wp2_with fail
  go_at_call 44; refine (eqInviteS_same _ _ _ _ _ _ _ _ h.2.1 h'.2.1 (by omega)).mono ?_; rintro e w2 ⟨rfl, hb1⟩
  have h := h.to hb1
  have h' := h'.to hb1
  have k0 := k0.below hb1 k0.lt
  have k1 := k1.below hb1 k1.lt
  have hb0 := hb0.trans (hb1.mono hb0.size)
  clear hb1 l0 l1
  have l0 := k0.cell 3
  have l1 := k1.cell 3
  go_wp2_with fail
  go_at_call 45; refine (eqBanS_same _ _ _ _ _ _ _ _ h.2.2 h'.2.2 (by omega)).mono ?_; rintro e w3 ⟨rfl, hb1⟩
  have hb0 := hb0.trans (hb1.mono hb0.size)
  clear hb1 l0 l1
  go_wp2
  go_ret
  exact ⟨rfl, hb0⟩
set_option maxHeartbeats 800000 in
theorem heldRoom_any (o : Bool) (A1 A2 A3 : Option Addr) (n1 c1 n2 c2 n3 c3 k0 : Nat) (w : World)
    (h : RoomAt w w.heap.size A1 n1 A2 n2 A3 n3 (marksM k0 n1) (marksI (k0 + n1 * 4) n2) (marksB (k0 + n1 * 4 + n2 * 3) n3)) (hn : n1 + n2 + n3 ≤ 1048576) (hk : k0 ≤ 1073741824) :
    Calls Try.prog 18 #[.agg #[.bool o, .slice A1 n1 c1, .slice A2 n2 c2, .slice A3 n3 c3], .int .i64 k0] w fun e w' => e = .returned (.int .i64 ((k0 + n1 * 4 + n2 * 3 + n3 * 2 : Nat) : Int)) ∧ Below w.heap.size w w' := by
  go_enter Try.func18, Try.ntmps18
  go_wp2_with fail
  obtain ⟨_, hb0⟩ := one_box w 33 #[.bool o, .slice A1 n1 c1, .slice A2 n2 c2, .slice A3 n3 c3]
  have h := h.to hb0
  have e0 : ¬ (((k0 + n1 * 4 : Nat) : Int) < 0) := by omega
  have e1 : ¬ (((k0 + n1 * 4 + n2 * 3 : Nat) : Int) < 0) := by omega
  have e2 : ¬ (((k0 + n1 * 4 + n2 * 3 + n3 * 2 : Nat) : Int) < 0) := by omega
  go_at_call 55; refine (heldMemberS_any _ _ _ _ _ _ h.1 (by omega) (by omega)).mono ?_; rintro e w1 ⟨rfl, rfl⟩
  go_wp2_with fail
  go_at_call 56; refine (heldInviteS_any _ _ _ (k0 + n1 * 4) _ _ h.2.1 (by omega) (by omega)).mono ?_; rintro e w1 ⟨rfl, rfl⟩
  go_wp2_with fail
  go_at_call 57; refine (heldBanS_any _ _ _ (k0 + n1 * 4 + n2 * 3) _ _ h.2.2 (by omega) (by omega)).mono ?_; rintro e w1 ⟨rfl, rfl⟩
  go_wp2
  go_ret
  exact ⟨rfl, hb0⟩
theorem own_types2 {w : World} {b1 b2 e1 e2 s1 s2 n1 n2 : Nat} {v1 v2 : Value} {xs ys : List Value} (h1 : w.ownsRow b1 e1 s1 v1 n1 xs) (h2 : w.ownsRow b2 e2 s2 v2 n2 ys) (he : e1 ≠ e2) : v1.ownBlock = none ∨ v1.ownBlock ≠ v2.ownBlock := by
  rcases h1.2 with ⟨rfl, _⟩ | ⟨g, cap, cur, rfl, _, hg, _⟩
  · exact .inl rfl
  · right
    rcases h2.2 with ⟨rfl, _⟩ | ⟨g', cap', cur', rfl, _, hg', _⟩
    · simp [Value.ownBlock]
    · intro e
      have e' : g = g' := by simpa [Value.ownBlock] using e
      subst e'
      rw [hg] at hg'
      injection hg' with hg'
      injection hg' with _ ht _
      exact he ht
theorem blk_apart {w : World} {g t base e s n : Nat} {cs : Array Value} {v : Value} {xs : List Value} (hb : Blk w g t cs) (h : w.ownsRow base e s v n xs) (hne : t ≠ e) : some g ≠ v.ownBlock := by
  rcases h.2 with ⟨rfl, _⟩ | ⟨g', cap, cur, rfl, _, hg, _⟩
  · simp [Value.ownBlock]
  · intro e
    have e' : g = g' := by simpa [Value.ownBlock] using e
    subst e'
    unfold Blk at hb
    rw [hg] at hb
    injection hb with hb
    injection hb with _ ht _
    exact hne ht.symm
def apartFrom (v : Value) (A1 A2 A3 : Value) : Prop := v.ownBlock = none ∨ (v.ownBlock ≠ A1.ownBlock ∧ v.ownBlock ≠ A2.ownBlock ∧ v.ownBlock ≠ A3.ownBlock)
theorem below_own {B base e size n : Nat} {w0 w w' : World} {v : Value} {xs : List Value} (hb : Below B w0 w) (h : w.ownsRow base e size v n xs) (hg : w.grownBy w' v.ownBlock) (hB : B ≤ base) (hBw : B ≤ w.heap.size) : Below B w0 w' :=
  hb.grown hg hBw fun k hk => Nat.le_trans hB (h.lt k hk).1
set_option maxHeartbeats 800000 in
theorem markRoom_any (o : Bool) (A1 A2 A3 : Option Addr) (n1 c1 n2 c2 n3 c3 k0 base : Nat) (ms : List Mb) (vs : List Iv) (bs : List Bn) (w : World)
    (h : RoomOwn w base A1 n1 c1 A2 n2 c2 A3 n3 c3 ms vs bs) (hn : n1 + n2 + n3 ≤ 1048576) (hk : k0 ≤ 1073741824) :
    Calls Try.prog 17 #[.agg #[.bool o, .slice A1 n1 c1, .slice A2 n2 c2, .slice A3 n3 c3], .int .i64 k0] w fun e w' => e = .returned (.int .i64 ((k0 + n1 * 4 + n2 * 3 + n3 * 2 : Nat) : Int)) ∧
      RoomOwn w' base A1 n1 c1 A2 n2 c2 A3 n3 c3 (marksM k0 n1) (marksI (k0 + n1 * 4) n2) (marksB (k0 + n1 * 4 + n2 * 3) n3) ∧
      (∀ b1 e1 s1 v m zs, w.ownsRow b1 e1 s1 v m zs → apartFrom v (.slice A1 n1 c1) (.slice A2 n2 c2) (.slice A3 n3 c3) → w'.ownsRow b1 e1 s1 v m zs) ∧
      (∀ B w0, Below B w0 w → B ≤ base → B ≤ w.heap.size → Below B w0 w') ∧ w.heap.size ≤ w'.heap.size ∧
      (∀ g t cs, Blk w g t cs → t ≠ 58 → t ≠ 61 → t ≠ 64 → Blk w' g t cs) := by
  go_enter Try.func17, Try.ntmps17
  go_wp2_with fail
  obtain ⟨b0, hb0⟩ := one_box w 33 #[.bool o, .slice A1 n1 c1, .slice A2 n2 c2, .slice A3 n3 c3]
  have hh := h.below hb0 (Nat.le_refl _)
  have hk0 : ∀ b1 e1 s1 v m zs, w.ownsRow b1 e1 s1 v m zs → (w.alloc (.cells #[.bool o, .slice A1 n1 c1, .slice A2 n2 c2, .slice A3 n3 c3] 33)).ownsRow b1 e1 s1 v m zs := fun _ _ _ _ _ _ ho => own_below ho hb0 (Nat.le_refl _)
  have hB0 : ∀ B w0, Below B w0 w → B ≤ w.heap.size → Below B w0 (w.alloc (.cells #[.bool o, .slice A1 n1 c1, .slice A2 n2 c2, .slice A3 n3 c3] 33)) := fun B w0 hb hB => hb.trans (hb0.mono hB)
  have hK0 : ∀ g t cs, Blk w g t cs → Blk (w.alloc (.cells #[.bool o, .slice A1 n1 c1, .slice A2 n2 c2, .slice A3 n3 c3] 33)) g t cs := fun _ _ _ hk => hk.alloc _
  have hs0 : w.heap.size ≤ (w.alloc (.cells #[.bool o, .slice A1 n1 c1, .slice A2 n2 c2, .slice A3 n3 c3] 33)).heap.size := hb0.size
  have b0l := b0.lt
  generalize (w.alloc (.cells #[.bool o, .slice A1 n1 c1, .slice A2 n2 c2, .slice A3 n3 c3] 33)) = W at *
  clear h hb0
  obtain ⟨h1, h2, h3⟩ := hh
  go_at_call 52; refine (markMemberS_any _ _ _ _ _ _ _ h1 (by omega) (by omega)).mono ?_; rintro e w1 ⟨rfl, ho1, hg1, hz1⟩
  have x2 := own_types2 h2 h1 (by decide)
  have x3 := own_types2 h3 h1 (by decide)
  have b1 := b0.grown hg1 (blk_apart b0 h1 (by decide))
  have h2 := h2.kept hg1 x2
  have h3 := h3.kept hg1 x3
  have hH2 := h2
  have l0 := b1.cell 2
  go_wp2_with fail
  go_at_call 53; refine (markInviteS_any _ _ _ (k0 + n1 * 4) _ _ _ h2 (by omega) (by omega)).mono ?_; rintro e w2 ⟨rfl, ho2, hg2, hz2⟩
  have y1 := own_types2 ho1 h2 (by decide)
  have y3 := own_types2 h3 h2 (by decide)
  have b2 := b1.grown hg2 (blk_apart b1 h2 (by decide))
  have ho1' := ho1.kept hg2 y1
  have h3 := h3.kept hg2 y3
  have hH3 := h3
  clear l0
  have l0 := b2.cell 3
  go_wp2_with fail
  go_at_call 54; refine (markBanS_any _ _ _ (k0 + n1 * 4 + n2 * 3) _ _ _ h3 (by omega) (by omega)).mono ?_; rintro e w3 ⟨rfl, ho3, hg3, hz3⟩
  have z1 := own_types2 ho1' h3 (by decide)
  have z2 := own_types2 ho2 h3 (by decide)
  have ho1' := ho1'.kept hg3 z1
  have ho2' := ho2.kept hg3 z2
  have HF : (∀ b1 e1 s1 v m zs, w.ownsRow b1 e1 s1 v m zs → apartFrom v (.slice A1 n1 c1) (.slice A2 n2 c2) (.slice A3 n3 c3) → w3.ownsRow b1 e1 s1 v m zs) := fun b1 e1 s1 v m zs hz ha => by
    rcases ha with ha | ⟨a1, a2, a3⟩
    · exact ((((hk0 _ _ _ _ _ _ hz).kept hg1 (.inl ha)).kept hg2 (.inl ha)).kept hg3 (.inl ha))
    · exact ((((hk0 _ _ _ _ _ _ hz).kept hg1 (.inr a1)).kept hg2 (.inr a2)).kept hg3 (.inr a3))
  have HB : (∀ B w0, Below B w0 w → B ≤ base → B ≤ w.heap.size → Below B w0 w3) := fun B w0 hb hB hBw =>
    below_own (below_own (below_own (hB0 B w0 hb hBw) h1 hg1 hB (by omega)) h2 hg2 hB (by omega)) h3 hg3 hB (by omega)
  have HS : w.heap.size ≤ w3.heap.size := by omega
  have HK : (∀ g t cs, Blk w g t cs → t ≠ 58 → t ≠ 61 → t ≠ 64 → Blk w3 g t cs) := fun g t cs hk t1 t2 t3 =>
    let k1 := (hK0 g t cs hk).grown hg1 (blk_apart (hK0 g t cs hk) h1 t1)
    let k2 := k1.grown hg2 (blk_apart k1 hH2 t2)
    k2.grown hg3 (blk_apart k2 hH3 t3)
  have HF := Lib.hid HF
  have HB := Lib.hid HB
  have HK := Lib.hid HK
  clear hk0 hB0 hK0
  go_wp2
  go_ret
  exact ⟨rfl, ⟨ho1', ho2', ho3⟩, HF.out, HB.out, HS, HK.out⟩
end Go.Proofs.Ytkidgfnbllnbcaa
