import Derived.Test.YtmnmmjobplbflaaGreatDoorChecked
import Derived.WalkKit
import Derived.ProofKit
import Derived.OpenShut
import Derived.ShutString
import Derived.ChangeOld
import Derived.Below
import Derived.Lib.Hide
import Derived.Test.YtmnmmjobplbflaaGreatDoorJg
import Derived.Test.YtmnmmjobplbflaaGreatDoorZAllowC
namespace Go.Proofs.YtmnmmjobplbflaaGreatDoor
open Go.ChangeShapes Go.WideShapes Go.ChangeAt Go.RowKit
open Go.ChangeMaps (open_string shut_string)
set_option linter.unusedVariables false
open Go.Maps
set_option maxRecDepth 100000
set_option maxHeartbeats 3200000 in
theorem bookRoom_any (g base N : Nat) (o : Bool) (ms : List Mb) (vs : List Iv) (bs : List Bn) (w : World) (h : BookAt w g base N o ms vs bs)
    (r1 : Rise Mb.id ms) (r2 : Rise Iv.id vs) (r3 : Rise Bn.id bs) (n1 : ms.length ≤ 1000) (n2 : vs.length ≤ 1000) (n3 : bs.length ≤ 1000) (w1 : ∀ x ∈ ms, (Lit.int .i64 x.id).wf = true) (w2 : ∀ x ∈ vs, (Lit.int .i64 x.id).wf = true) (w3 : ∀ x ∈ bs, (Lit.int .i64 x.id).wf = true) :
    Calls Tryz.prog 77 #[.pointer (some ⟨g, 0, none⟩)] w fun e w' => ∃ A1 c1 A2 c2 A3 c3, e = .returned (.agg #[.bool o, .slice A1 ms.length c1, .slice A2 vs.length c2, .slice A3 bs.length c3]) ∧
      RoomOwn w' w.heap.size A1 ms.length c1 A2 vs.length c2 A3 bs.length c3 ms vs bs ∧ Below w.heap.size w w' := by
  obtain ⟨b1, b2, b3, hk, m1, m2, m3, _, _⟩ := h
  go_enter Tryz.func77, Tryz.ntmps77
  go_wp2_with fail
  obtain ⟨q0, hb0⟩ := one_box w 28 #[.bool false, .slice none 0 0, .slice none 0 0, .slice none 0 0]
  have hgl := hk.lt
  have hkW := hk.below hb0 hgl
  have m1 := ownsMap_below m1 hb0 m1.lt
  have m2 := ownsMap_below m2 hb0 m2.lt
  have m3 := ownsMap_below m3 hb0 m3.lt
  generalize w.alloc (.cells #[.bool false, .slice none 0 0, .slice none 0 0, .slice none 0 0] 28) = W at *
  have k0 : Blk W.drew g 116 #[.bool o, .map (some b1), .map (some b2), .map (some b3)] := hkW
  have q0 : Blk W.drew w.heap.size 28 #[.bool false, .slice none 0 0, .slice none 0 0, .slice none 0 0] := q0
  have m1 : mM W.drew b1 N ms := m1
  have m2 : mI W.drew b2 N vs := m2
  have m3 : mB W.drew b3 N bs := m3
  have hb0 : Below w.heap.size w W.drew := hb0.drew
  have z0 := hb0.size
  have y0 : w.heap.size + 1 ≤ W.drew.heap.size := q0.lt
  clear hkW hk
  go_region_held3 (fun w' => w'.cell? ⟨g, 0, none⟩ = some (.bool o) ∧ w'.cell? ⟨g, 1, none⟩ = some (.map (some b1)) ∧ w'.cell? ⟨g, 2, none⟩ = some (.map (some b2)) ∧ w'.cell? ⟨g, 3, none⟩ = some (.map (some b3)))
    (first | exact ⟨k4.cell 0, k4.cell 1, k4.cell 2, k4.cell 3⟩ | exact ⟨k3.cell 0, k3.cell 1, k3.cell 2, k3.cell 3⟩ | exact ⟨k2.cell 0, k2.cell 1, k2.cell 2, k2.cell 3⟩ | exact ⟨k1.cell 0, k1.cell 1, k1.cell 2, k1.cell 3⟩ | exact ⟨k0.cell 0, k0.cell 1, k0.cell 2, k0.cell 3⟩)
    ((first
      | (go_at_call 83; refine (inOrderM_any _ _ _ _ m1 r1 n1 w1).mono ?_; rintro e W1 ⟨g1, c1, rfl, ho1, hb1⟩; have k1 := k0.below hb1 k0.lt; have q1 := q0.below hb1 q0.lt; have m2' := ownsMap_below m2 hb1 m2.lt; have m3' := ownsMap_below m3 hb1 m3.lt; have hbA := hb0.trans (hb1.mono z0); have z1 := hbA.size; have y1 : w.heap.size + 1 ≤ W1.heap.size := q1.lt)
      | (go_at_call 111; refine (inOrderI_any _ _ _ _ m2' r2 n2 w2).mono ?_; rintro e W2 ⟨g2, c2, rfl, ho2, hb2⟩; have k2 := k1.below hb2 k1.lt; have q2 := q1.below hb2 q1.lt; have m3'' := ownsMap_below m3' hb2 m3'.lt; have ho1' := own_below ho1 hb2 (Nat.le_refl _); have hbB := hbA.trans (hb2.mono z1); have z2 := hbB.size; have y2 : w.heap.size + 1 ≤ W2.heap.size := q2.lt)
      | (go_at_call 112; refine (inOrderB_any _ _ _ _ m3'' r3 n3 w3).mono ?_; rintro e W3 ⟨g3, c3, rfl, ho3, hb3⟩; have k3 := k2.below hb3 k2.lt; have q3 := q2.below hb3 q2.lt; have ho1'' := own_below ho1' hb3 (Nat.le_refl _); have ho2' := own_below ho2 hb3 (Nat.le_refl _); have hbC := hbB.trans (hb3.mono z2); have s0 : W3.cell? ⟨w.heap.size, 0, none⟩ = some (.bool false) := q3.cell 0; have s1 : W3.cell? ⟨w.heap.size, 1, none⟩ = some (.slice none 0 0) := q3.cell 1; have s2 : W3.cell? ⟨w.heap.size, 2, none⟩ = some (.slice none 0 0) := q3.cell 2; have s3 : W3.cell? ⟨w.heap.size, 3, none⟩ = some (.slice none 0 0) := q3.cell 3; have f0 := q3.frozen 0; have f1 := q3.frozen 1; have f2 := q3.frozen 2; have f3 := q3.frozen 3; have k4 := (((k3.far (p := ⟨w.heap.size, 0, none⟩) (by simp; omega) (.bool o)).far (p := ⟨w.heap.size, 1, none⟩) (by simp; omega) (.slice (some ⟨g1, 0, none⟩) ms.length c1)).far (p := ⟨w.heap.size, 2, none⟩) (by simp; omega) (.slice (some ⟨g2, 0, none⟩) vs.length c2)).far (p := ⟨w.heap.size, 3, none⟩) (by simp; omega) (.slice (some ⟨g3, 0, none⟩) bs.length c3))))
  go_wp2
  have HO : RoomOwn W3 (w.heap.size + 1) (some ⟨g1, 0, none⟩) ms.length c1 (some ⟨g2, 0, none⟩) vs.length c2 (some ⟨g3, 0, none⟩) bs.length c3 ms vs bs := ⟨World.ownsRow.mono ho1'' y0, World.ownsRow.mono ho2' y1, World.ownsRow.mono ho3 y2⟩
  refine bodyPost_ret (v := .agg #[.bool o, .slice (some ⟨g1, 0, none⟩) ms.length c1, .slice (some ⟨g2, 0, none⟩) vs.length c2, .slice (some ⟨g3, 0, none⟩) bs.length c3]) (by simp [results, Tryz.results77, go_sem, s0, s1, s2, s3]) rfl ?_
  exact ⟨_, _, _, _, _, _, rfl, (HO.set4 (Nat.lt_succ_self _) _ _ _ _ _ _ _ _).mono (Nat.le_succ _), below_set4 hbC (Nat.le_refl _) _ _ _ _ _ _ _ _⟩
/-- how a change of a book ends: it is as told, or an error is handed back -/
def BkYes (g base : Nat) (f : ROut) (w : World) (e : Ending) (w' : World) : Prop := e = .returned .nilIface ∧ BookAt w' g base 200 f.o f.ms f.vs f.bs
def BkNo (e : Ending) : Prop := ∃ t v, e = .returned (.iface t v)
structure ROk (f : ROut) : Prop where
  r1 : Rise Mb.id f.ms
  r2 : Rise Iv.id f.vs
  r3 : Rise Bn.id f.bs
  n1 : f.ms.length ≤ 1000
  n2 : f.vs.length ≤ 1000
  n3 : f.bs.length ≤ 1000
  w1 : ∀ x ∈ f.ms, (Lit.int .i64 x.id).wf = true
  w2 : ∀ x ∈ f.vs, (Lit.int .i64 x.id).wf = true
  w3 : ∀ x ∈ f.bs, (Lit.int .i64 x.id).wf = true
end Go.Proofs.YtmnmmjobplbflaaGreatDoor
