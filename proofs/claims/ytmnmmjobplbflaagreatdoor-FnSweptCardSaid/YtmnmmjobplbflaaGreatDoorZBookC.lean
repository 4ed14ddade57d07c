import Derived.Test.YtmnmmjobplbflaaGreatDoorChecked
import Derived.WalkKit
import Derived.ProofKit
import Derived.OpenShut
import Derived.ShutString
import Derived.ChangeOld
import Derived.Below
import Derived.Lib.Hide
import Derived.Test.YtmnmmjobplbflaaGreatDoorJf
import Derived.Test.YtmnmmjobplbflaaGreatDoorJh
namespace Go.Proofs.YtmnmmjobplbflaaGreatDoor
open Go.ChangeShapes Go.WideShapes Go.ChangeAt Go.RowKit
open Go.ChangeMaps (open_string shut_string)
set_option linter.unusedVariables false
open Go.Maps
set_option maxRecDepth 100000
abbrev mM (w : World) (b N : Nat) (ms : List Mb) : Prop := w.ownsMap Tryz.prog 2 heldR b N (tabD Mb.id mbV ms)
abbrev mI (w : World) (b N : Nat) (vs : List Iv) : Prop := w.ownsMap Tryz.prog 2 heldR b N (tabD Iv.id ivV vs)
abbrev mB (w : World) (b N : Nat) (bs : List Bn) : Prop := w.ownsMap Tryz.prog 2 heldR b N (tabD Bn.id bnV bs)
/-- a book: a room that is being changed -/
def BookAt (w : World) (g base N : Nat) (o : Bool) (ms : List Mb) (vs : List Iv) (bs : List Bn) : Prop := ∃ b1 b2 b3, Blk w g 116 #[.bool o, .map (some b1), .map (some b2), .map (some b3)] ∧
  mM w b1 N ms ∧ mI w b2 N vs ∧ mB w b3 N bs ∧ (b1 ≠ b2 ∧ b1 ≠ b3 ∧ b2 ≠ b3) ∧ (base ≤ b1 ∧ base ≤ b2 ∧ base ≤ b3 ∧ base ≤ g)
theorem BookAt.below {w w' : World} {g base N : Nat} {o : Bool} {ms : List Mb} {vs : List Iv} {bs : List Bn} (h : BookAt w g base N o ms vs bs) (hb : Below w.heap.size w w') : BookAt w' g base N o ms vs bs := by
  obtain ⟨b1, b2, b3, hk, h1, h2, h3, r⟩ := h
  exact ⟨b1, b2, b3, hk.below hb hk.lt, ownsMap_below h1 hb h1.lt, ownsMap_below h2 hb h2.lt, ownsMap_below h3 hb h3.lt, r⟩
structure RoomFacts (ms : List Mb) (vs : List Iv) (bs : List Bn) : Prop where
  r1 : Rise Mb.id ms
  r2 : Rise Iv.id vs
  r3 : Rise Bn.id bs
  i1 : ∀ x ∈ ms, idB x.id = true
  i2 : ∀ x ∈ vs, idB x.id = true
  i3 : ∀ x ∈ bs, idB x.id = true
theorem RoomV.facts {ms : List Mb} {vs : List Iv} {bs : List Bn} (h : RoomV ms vs bs) : RoomFacts ms vs bs := ⟨h.r1, h.r2, h.r3, fun x hx => (h.s1 x hx).2, fun x hx => (h.s2 x hx).2, fun x hx => (h.s3 x hx).2⟩
set_option maxHeartbeats 1600000 in
theorem bookOf_any (o : Bool) (A1 A2 A3 : Option Addr) (n1 c1 n2 c2 n3 c3 : Nat) (ms : List Mb) (vs : List Iv) (bs : List Bn) (w : World)
    (h : RoomAt w w.heap.size A1 n1 A2 n2 A3 n3 ms vs bs) (hn : n1 + n2 + n3 ≤ 100) (hv : RoomFacts ms vs bs) :
    Calls Tryz.prog 30 #[.agg #[.bool o, .slice A1 n1 c1, .slice A2 n2 c2, .slice A3 n3 c3]] w fun e w' => ∃ g, e = .returned (.pointer (some ⟨g, 0, none⟩)) ∧ BookAt w' g w.heap.size 100 o ms vs bs ∧ Below w.heap.size w w' := by
  go_enter Tryz.func30, Tryz.ntmps30
  go_wp2_with fail
  obtain ⟨k0, hb0⟩ := one_box w 28 #[.bool o, .slice A1 n1 c1, .slice A2 n2 c2, .slice A3 n3 c3]
  generalize w.alloc (.cells #[.bool o, .slice A1 n1 c1, .slice A2 n2 c2, .slice A3 n3 c3] 28) = W at *
  have h : RoomAt W.drew W.drew.heap.size A1 n1 A2 n2 A3 n3 ms vs bs := (h.below hb0).more hb0.size
  have k0 : Blk W.drew w.heap.size 28 #[.bool o, .slice A1 n1 c1, .slice A2 n2 c2, .slice A3 n3 c3] := k0
  have hb0 : Below w.heap.size w W.drew := hb0.drew
  have z0 := hb0.size
  go_region_held3 (fun w' => w'.cell? ⟨w.heap.size, 0, none⟩ = some (.bool o) ∧ w'.cell? ⟨w.heap.size, 1, none⟩ = some (.slice A1 n1 c1) ∧ w'.cell? ⟨w.heap.size, 2, none⟩ = some (.slice A2 n2 c2) ∧ w'.cell? ⟨w.heap.size, 3, none⟩ = some (.slice A3 n3 c3))
    (first | exact ⟨k0.cell 0, k0.cell 1, k0.cell 2, k0.cell 3⟩ | exact ⟨k1.cell 0, k1.cell 1, k1.cell 2, k1.cell 3⟩ | exact ⟨k2.cell 0, k2.cell 1, k2.cell 2, k2.cell 3⟩ | exact ⟨k3.cell 0, k3.cell 1, k3.cell 2, k3.cell 3⟩ | exact ⟨(k3.alloc _).cell 0, (k3.alloc _).cell 1, (k3.alloc _).cell 2, (k3.alloc _).cell 3⟩)
    ((first
      | (go_at_call 80; refine (byIdM_any _ _ _ _ _ h.1 (by omega) hv.r1 hv.i1).mono ?_; rintro e w1 ⟨rfl, hm1, hb1⟩; have k1 := k0.below hb1 k0.lt; have h1 := h.to hb1; have hbA := hb0.trans (hb1.mono z0); have z1 := hbA.size; have q1 := hm1.lt)
      | (go_at_call 81; refine (byIdI_any _ _ _ _ _ h1.2.1 (by omega) hv.r2 hv.i2).mono ?_; rintro e w2 ⟨rfl, hm2, hb2⟩; have k2 := k1.below hb2 k1.lt; have h2 := h1.to hb2; have hbB := hbA.trans (hb2.mono z1); have z2 := hbB.size; have q2 := hm2.lt; have hm1' := ownsMap_below hm1 hb2 hm1.lt)
      | (go_at_call 82; refine (byIdB_any _ _ _ _ _ h2.2.2 (by omega) hv.r3 hv.i3).mono ?_; rintro e w3 ⟨rfl, hm3, hb3⟩; have k3 := k2.below hb3 k2.lt; have hbC := hbB.trans (hb3.mono z2); have z3 := hbC.size; have q3 := hm3.lt; have hm1'' := ownsMap_below hm1' hb3 hm1'.lt; have hm2' := ownsMap_below hm2 hb3 hm2.lt)))
  go_wp2
  go_ret
  have q : w.heap.size ≤ W.drew.heap.size := z0
  have e0 : W.drew.heap.size = W.heap.size := rfl
  exact ⟨w3.heap.size, rfl, ⟨_, _, _, Blk.new _ _ _, (hm1''.alloc _).mono (by omega), (hm2'.alloc _).mono (by omega), (hm3.alloc _).mono (by omega), ⟨by omega, by omega, by omega⟩, by omega, by omega, by omega, by omega⟩, hbC.alloc z3 _⟩
end Go.Proofs.YtmnmmjobplbflaaGreatDoor
