import Derived.Test.YthekkjblgnjmgaaGreatDoorChecked
import Derived.WalkKit
import Derived.ProofKit
import Derived.OpenShut
import Derived.ShutString
import Derived.ChangeOld
import Derived.Below
import Derived.Lib.Hide
import Derived.Test.YthekkjblgnjmgaaGreatDoorJk
namespace Go.Proofs.YthekkjblgnjmgaaGreatDoor
open Go.ChangeShapes Go.WideShapes Go.ChangeAt Go.RowKit
open Go.ChangeMaps (open_string shut_string)
set_option linter.unusedVariables false
open Go.Maps
set_option maxRecDepth 100000
theorem lifting_act (t : Int) (w : World) : Calls Tryz.prog 308 #[.agg #[.int .i64 t]] w fun e w' => e = .returned (.int .i64 6) ∧ Below w.heap.size w w' := by
  go_enter Tryz.func308, Tryz.ntmps308
  go_wp2
  go_ret
  exact ⟨rfl, (Below.refl _ _).alloc (Nat.le_refl _) _⟩
theorem lifting_whom (t : Int) (w : World) : Calls Tryz.prog 310 #[.agg #[.int .i64 t]] w fun e w' => e = .returned (.int .i64 t) ∧ Below w.heap.size w w' := by
  go_enter Tryz.func310, Tryz.ntmps310
  go_wp2
  go_ret
  exact ⟨rfl, (Below.refl _ _).alloc (Nat.le_refl _) _⟩
theorem lift_ok {o : Bool} {ms : List Mb} {vs : List Iv} {bs : List Bn} {t : Int} (hb : roomB ms vs bs = true) (hok : (liftF o ms vs bs t).ok = true) : ROk (liftF o ms vs bs t) := by
  have hv := roomB_iff.1 hb
  by_cases h : t ∈ bids bs
  · rw [liftF, if_pos h]; exact (lift_valid hv t).ok
  · rw [liftF, if_neg h] at hok; cases hok
set_option maxHeartbeats 800000 in
theorem lifting_change (o : Bool) (t at_ : Int) (ms : List Mb) (vs : List Iv) (bs : List Bn) {a b : Addr} {w : World} (he : ErrN w a) (hR : ErrR w b) (hw : (Lit.int .i64 t).wf = true) : Does 309 (.agg #[.int .i64 t]) at_ o ms vs bs (liftF o ms vs bs t) w := by
  intro W g base hbase hbW hbel hB
  have hR := hR.below hbel
  clear he
  obtain ⟨q0, hb0⟩ := one_box W 109 #[.int .i64 t]
  have hB := hB.below hb0
  have hR := hR.below hb0
  have hb0 := hb0.mono hbW
  have zW := Nat.le_trans hbW hb0.size
  have d0 := q0.cell 0
  cases hc : decide (t ∈ bids bs) with
  | false =>
    have HF := Lib.hid (show liftF o ms vs bs t = rNo by rw [liftF, if_neg (of_decide_eq_false hc)])
    go_enter Tryz.func309, Tryz.ntmps309
    go_wp2_with fail
    generalize W.alloc (.cells #[.int .i64 t] 109) = W0 at *
    go_at_call 110; refine (isBanned_any g base 100 o ms vs bs t _ hB hw).mono ?_; rw [hc]; rintro e W1 ⟨rfl, hb1⟩
    have hR1 := hR.below hb1
    unfold ErrR at hR1
    have hb0 := hb0.trans (hb1.mono zW)
    go_wp2
    go_ret
    rw [HF.out]
    exact ⟨.inr ⟨rfl, _, _, rfl⟩, hb0⟩
  | true =>
    have HF := Lib.hid (show liftF o ms vs bs t = ⟨o, ms, vs, dropK Bn.id t bs, true⟩ by rw [liftF, if_pos (of_decide_eq_true hc)])
    go_enter Tryz.func309, Tryz.ntmps309
    go_wp2_with fail
    generalize W.alloc (.cells #[.int .i64 t] 109) = W0 at *
    go_at_call 110; refine (isBanned_any g base 100 o ms vs bs t _ hB hw).mono ?_; rw [hc]; rintro e W1 ⟨rfl, hb1⟩
    have d1 : W1.cell? ⟨W.heap.size, 0, none⟩ = some (.int .i64 t) := (q0.below hb1 q0.lt).cell 0
    obtain ⟨b1, b2, b3, hX⟩ := (hB.below hb1).x
    have hb0 := hb0.trans (hb1.mono zW)
    obtain ⟨w5, hrun, hX5, ht5⟩ := hX.drew.dropB t hw 0
    have hk3 : W1.cell? ⟨g, 3, none⟩ = some (.map (some b3)) := hX.1.cell 3
    have hb5 := below_map hb0.drew ht5 hX.drew.base_le hX.2.2.2.2.2.2.2.1
    clear hb1 hB hR hX
    go_wp2_with fail
    go_region
    go_wp2
    go_ret
    rw [HF.out]
    exact ⟨.inl ⟨rfl, rfl, _, hX5.at_⟩, hb5⟩
set_option maxHeartbeats 1600000 in
theorem impl_LiftBan_any (o : Bool) (A1 A2 A3 : Option Addr) (n1 c1 n2 c2 n3 c3 : Nat) (ms : List Mb) (vs : List Iv) (bs : List Bn) (p : Int) (t : Int) (at_ : Int) {a b : Addr} (w : World)
    (h : RoomAt w w.heap.size A1 n1 A2 n2 A3 n3 ms vs bs) (hn : n1 + n2 + n3 ≤ 1048576) (he : ErrN w a) (hR : ErrR w b) (hp : (Lit.int .i64 p).wf = true) (ht : (Lit.int .i64 t).wf = true) :
    Calls Tryz.prog 21 #[.agg #[.bool o, .slice A1 n1 c1, .slice A2 n2 c2, .slice A3 n3 c3], .int .i64 p, .int .i64 t, .int .i64 at_] w (RoomOut (liftS o ms vs bs p t at_) w) := by
  rw [← lift_same]
  obtain ⟨rz, hrz⟩ : ∃ z, carryR o ms vs bs p 6 t at_ (liftF o ms vs bs t) = z := ⟨_, rfl⟩
  have HZ := Lib.hid hrz
  rw [hrz]
  clear hrz
  go_enter Tryz.func21, Tryz.ntmps21
  go_wp2_with fail
  obtain ⟨k0, k1, hb0⟩ := two_boxes w 28 28 #[.bool o, .slice A1 n1 c1, .slice A2 n2 c2, .slice A3 n3 c3] #[.bool false, .slice none 0 0, .slice none 0 0, .slice none 0 0]
  generalize ((w.alloc (.cells #[.bool o, .slice A1 n1 c1, .slice A2 n2 c2, .slice A3 n3 c3] 28)).alloc (.cells #[.bool false, .slice none 0 0, .slice none 0 0, .slice none 0 0] 28)) = W at *
  have h := (h.below hb0).more hb0.size
  have he := he.below hb0
  have hR := hR.below hb0
  have z1 := k1.lt
  have cc := carryOut_any 109 308 310 309 (.agg #[.int .i64 t]) p t 6 at_ a b o A1 A2 A3 n1 c1 n2 c2 n3 c3 ms vs bs (liftF o ms vs bs t) W
    (fun _ => by kernel_rfl) (enters_of Tryz.func308 (by kernel_rfl) rfl) (lifting_act t)
    (fun _ => by kernel_rfl) (enters_of Tryz.func310 (by kernel_rfl) rfl) (lifting_whom t)
    (fun _ => by kernel_rfl) (enters_of Tryz.func309 (by kernel_rfl) rfl)
    (fun _ _ _ => lifting_change o t at_ ms vs bs he hR ht) (fun hb _ _ hok => lift_ok hb hok) h hn he hR hp ht
  rw [HZ.out] at cc
  go_at_call 63; refine cc.mono ?_; rintro e W3 ⟨B1, m1, d1, B2, m2, d2, B3, m3, d3, rfl, hO, hb3, hnn⟩
  have k1 := k1.below hb3 z1
  have hOx := hO.mono (Nat.succ_le_of_lt z1)
  have hb0 := hb0.trans (hb3.mono hb0.size)
  clear hb3 hO cc
  have r0 := k1.cell 0; have r1 := k1.cell 1; have r2 := k1.cell 2; have r3 := k1.cell 3
  have f0 := k1.frozen 0; have f1 := k1.frozen 1; have f2 := k1.frozen 2; have f3 := k1.frozen 3
  go_wp2
  refine bodyPost_ret (v := .tuple #[.agg #[.bool rz.o, .slice B1 m1 d1, .slice B2 m2 d2, .slice B3 m3 d3], .bool rz.ok]) (by simp [results, Tryz.results21, go_sem, r0, r1, r2, r3]) rfl ?_
  exact ⟨_, _, _, _, _, _, _, _, _, rfl, (hOx.set4 (Nat.lt_succ_self _) _ _ _ _ _ _ _ _).mono (by omega), below_set4 hb0 (by omega) _ _ _ _ _ _ _ _, hnn⟩
end Go.Proofs.YthekkjblgnjmgaaGreatDoor
