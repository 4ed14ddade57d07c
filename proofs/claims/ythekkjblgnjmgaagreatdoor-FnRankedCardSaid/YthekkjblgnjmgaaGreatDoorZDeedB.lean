import Derived.Test.YthekkjblgnjmgaaGreatDoorChecked
import Derived.WalkKit
import Derived.ProofKit
import Derived.OpenShut
import Derived.ShutString
import Derived.ChangeOld
import Derived.Below
import Derived.Lib.Hide
import Derived.Test.YthekkjblgnjmgaaGreatDoorJk
namespace Go.Proofs.YthekkjblgnjmgaaGreatDoor
open Go.ChangeShapes Go.WideShapes Go.ChangeAt Go.RowKit
open Go.ChangeMaps (open_string shut_string)
set_option linter.unusedVariables false
open Go.Maps
set_option maxRecDepth 100000
theorem banning_act (t : Int) (til : Int) (w : World) : Calls Tryz.prog 305 #[.agg #[.int .i64 t, .int .i64 til]] w fun e w' => e = .returned (.int .i64 6) ∧ Below w.heap.size w w' := by
  go_enter Tryz.func305, Tryz.ntmps305
  go_wp2
  go_ret
  exact ⟨rfl, (Below.refl _ _).alloc (Nat.le_refl _) _⟩
theorem banning_whom (t : Int) (til : Int) (w : World) : Calls Tryz.prog 307 #[.agg #[.int .i64 t, .int .i64 til]] w fun e w' => e = .returned (.int .i64 t) ∧ Below w.heap.size w w' := by
  go_enter Tryz.func307, Tryz.ntmps307
  go_wp2
  go_ret
  exact ⟨rfl, (Below.refl _ _).alloc (Nat.le_refl _) _⟩
theorem ban_ok {o : Bool} {ms : List Mb} {vs : List Iv} {bs : List Bn} {t til at_ : Int} (hb : roomB ms vs bs = true) (ht : (Lit.int .i64 t).wf = true) (hok : (banF o ms vs bs t til at_).ok = true) : ROk (banF o ms vs bs t til at_) := by
  have hv := roomB_iff.1 hb
  have h0 : ROk ⟨o, ms, vs, bs, true⟩ := hv.ok
  by_cases h : til < at_
  · rw [banF, if_pos h] at hok; cases hok
  · rw [banF, if_neg h]
    exact ⟨drop_rise h0.r1, drop_rise h0.r2, put_rise h0.r3, Nat.le_trans drop_len h0.n1, Nat.le_trans drop_len h0.n2, Nat.le_trans (put_le _ _) (Nat.succ_le_of_lt (Nat.lt_of_le_of_lt hv.l3 (by decide))), fun x hx => h0.w1 x (drop_mem.1 hx).1, fun x hx => h0.w2 x (drop_mem.1 hx).1, fun x hx => by
      rcases put_mem.1 hx with rfl | ⟨hx, _⟩
      · exact ht
      · exact h0.w3 x hx⟩
set_option maxHeartbeats 1600000 in
theorem banning_change (o : Bool) (t til at_ : Int) (ms : List Mb) (vs : List Iv) (bs : List Bn) {a b : Addr} {w : World} (he : ErrN w a) (hR : ErrR w b) (hw : (Lit.int .i64 t).wf = true) : Does 306 (.agg #[.int .i64 t, .int .i64 til]) at_ o ms vs bs (banF o ms vs bs t til at_) w := by
  intro W g base hbase hbW hbel hB
  have hR := hR.below hbel
  clear he
  obtain ⟨q0, hb0⟩ := one_box W 105 #[.int .i64 t, .int .i64 til]
  have hB := hB.below hb0
  have hR := hR.below hb0
  have hb0 := hb0.mono hbW
  have d0 := q0.cell 0
  have d1 := q0.cell 1
  by_cases hl : til < at_
  · have HF := Lib.hid (show banF o ms vs bs t til at_ = rNo by rw [banF, if_pos hl])
    have hl' : decide (til < at_) = true := decide_eq_true hl
    clear hl hB
    unfold ErrR at hR
    go_enter Tryz.func306, Tryz.ntmps306
    go_wp2_with fail
    generalize W.alloc (.cells #[.int .i64 t, .int .i64 til] 105) = W0 at *
    go_wp2
    go_ret
    rw [HF.out]
    exact ⟨.inr ⟨rfl, _, _, rfl⟩, hb0⟩
  · have HF := Lib.hid (show banF o ms vs bs t til at_ = ⟨o, dropK Mb.id t ms, dropK Iv.id t vs, putK Bn.id ⟨t, til⟩ bs, true⟩ by rw [banF, if_neg hl])
    have hl' : decide (til < at_) = false := decide_eq_false hl
    clear hl hR
    go_enter Tryz.func306, Tryz.ntmps306
    go_wp2_with fail
    generalize W.alloc (.cells #[.int .i64 t, .int .i64 til] 105) = W0 at *
    obtain ⟨b1, b2, b3, hX⟩ := hB.x
    obtain ⟨w5, hrun5, hX5, ht5⟩ := hX.drew.dropM t hw 0
    obtain ⟨w6, hrun6, hX6, ht6⟩ := hX5.drew.dropI t hw 0
    obtain ⟨w7, hrun7, hX7, ht7⟩ := hX6.drew.putB (by unfold maxLen; decide) ⟨t, til⟩ hw
    simp only [bnV] at hrun7
    have k1 : W0.cell? ⟨g, 1, none⟩ = some (.map (some b1)) := hX.1.cell 1
    have k2 : w5.cell? ⟨g, 2, none⟩ = some (.map (some b2)) := hX5.1.cell 2
    have k3 : w6.cell? ⟨g, 3, none⟩ = some (.map (some b3)) := hX6.1.cell 3
    have q5 : Blk w5 W.heap.size 105 #[.int .i64 t, .int .i64 til] := Blk.turned (w := W0.drew) q0 ht5
    have q6 : Blk w6 W.heap.size 105 #[.int .i64 t, .int .i64 til] := Blk.turned (w := w5.drew) q5 ht6
    have d5 := q5.cell 0
    have d6 := q6.cell 0
    have d61 := q6.cell 1
    have hb5 := below_map hb0.drew ht5 hX.drew.base_le hX.2.2.2.2.2.1
    have hb6 := below_map hb5.drew ht6 hX5.drew.base_le hX5.2.2.2.2.2.2.1
    have hb7 := below_map hb6.drew ht7 hX6.drew.base_le hX6.2.2.2.2.2.2.2.1
    clear hB hX hX5 hX6 q0 q5 q6 ht5 ht6 ht7 hb5 hb6
    go_wp2_with fail
    go_region
    go_wp2_with fail
    go_region
    go_wp2_with fail
    go_region
    go_wp2
    go_ret
    rw [HF.out]
    exact ⟨.inl ⟨rfl, rfl, _, hX7.at_⟩, hb7⟩
set_option maxHeartbeats 1600000 in
theorem impl_BanMember_any (o : Bool) (A1 A2 A3 : Option Addr) (n1 c1 n2 c2 n3 c3 : Nat) (ms : List Mb) (vs : List Iv) (bs : List Bn) (p : Int) (t : Int) (til : Int) (at_ : Int) {a b : Addr} (w : World)
    (h : RoomAt w w.heap.size A1 n1 A2 n2 A3 n3 ms vs bs) (hn : n1 + n2 + n3 ≤ 1048576) (he : ErrN w a) (hR : ErrR w b) (hp : (Lit.int .i64 p).wf = true) (ht : (Lit.int .i64 t).wf = true) :
    Calls Tryz.prog 19 #[.agg #[.bool o, .slice A1 n1 c1, .slice A2 n2 c2, .slice A3 n3 c3], .int .i64 p, .int .i64 t, .int .i64 til, .int .i64 at_] w (RoomOut (banS o ms vs bs p t til at_) w) := by
  rw [← ban_same]
  obtain ⟨rz, hrz⟩ : ∃ z, carryR o ms vs bs p 6 t at_ (banF o ms vs bs t til at_) = z := ⟨_, rfl⟩
  have HZ := Lib.hid hrz
  rw [hrz]
  clear hrz
  go_enter Tryz.func19, Tryz.ntmps19
  go_wp2_with fail
  obtain ⟨k0, k1, hb0⟩ := two_boxes w 28 28 #[.bool o, .slice A1 n1 c1, .slice A2 n2 c2, .slice A3 n3 c3] #[.bool false, .slice none 0 0, .slice none 0 0, .slice none 0 0]
  generalize ((w.alloc (.cells #[.bool o, .slice A1 n1 c1, .slice A2 n2 c2, .slice A3 n3 c3] 28)).alloc (.cells #[.bool false, .slice none 0 0, .slice none 0 0, .slice none 0 0] 28)) = W at *
  have h := (h.below hb0).more hb0.size
  have he := he.below hb0
  have hR := hR.below hb0
  have z1 := k1.lt
  have cc := carryOut_any 105 305 307 306 (.agg #[.int .i64 t, .int .i64 til]) p t 6 at_ a b o A1 A2 A3 n1 c1 n2 c2 n3 c3 ms vs bs (banF o ms vs bs t til at_) W
    (fun _ => by kernel_rfl) (enters_of Tryz.func305 (by kernel_rfl) rfl) (banning_act t til)
    (fun _ => by kernel_rfl) (enters_of Tryz.func307 (by kernel_rfl) rfl) (banning_whom t til)
    (fun _ => by kernel_rfl) (enters_of Tryz.func306 (by kernel_rfl) rfl)
    (fun _ _ _ => banning_change o t til at_ ms vs bs he hR ht) (fun hb _ _ hok => ban_ok hb ht hok) h hn he hR hp ht
  rw [HZ.out] at cc
  go_at_call 63; refine cc.mono ?_; rintro e W3 ⟨B1, m1, d1, B2, m2, d2, B3, m3, d3, rfl, hO, hb3, hnn⟩
  have k1 := k1.below hb3 z1
  have hOx := hO.mono (Nat.succ_le_of_lt z1)
  have hb0 := hb0.trans (hb3.mono hb0.size)
  clear hb3 hO cc
  have r0 := k1.cell 0; have r1 := k1.cell 1; have r2 := k1.cell 2; have r3 := k1.cell 3
  have f0 := k1.frozen 0; have f1 := k1.frozen 1; have f2 := k1.frozen 2; have f3 := k1.frozen 3
  go_wp2
  refine bodyPost_ret (v := .tuple #[.agg #[.bool rz.o, .slice B1 m1 d1, .slice B2 m2 d2, .slice B3 m3 d3], .bool rz.ok]) (by simp [results, Tryz.results19, go_sem, r0, r1, r2, r3]) rfl ?_
  exact ⟨_, _, _, _, _, _, _, _, _, rfl, (hOx.set4 (Nat.lt_succ_self _) _ _ _ _ _ _ _ _).mono (by omega), below_set4 hb0 (by omega) _ _ _ _ _ _ _ _, hnn⟩
end Go.Proofs.YthekkjblgnjmgaaGreatDoor
