import Derived.Test.YthekkjblgnjmgaaGreatDoorChecked
import Derived.WalkKit
import Derived.ProofKit
import Derived.OpenShut
import Derived.ShutString
import Derived.ChangeOld
import Derived.Below
import Derived.Lib.Hide
import Derived.Test.YthekkjblgnjmgaaGreatDoorJk
namespace Go.Proofs.YthekkjblgnjmgaaGreatDoor
open Go.ChangeShapes Go.WideShapes Go.ChangeAt Go.RowKit
open Go.ChangeMaps (open_string shut_string)
set_option linter.unusedVariables false
open Go.Maps
set_option maxRecDepth 100000
theorem muting_act (t : Int) (til : Int) (w : World) : Calls Tryz.prog 299 #[.agg #[.int .i64 t, .int .i64 til]] w fun e w' => e = .returned (.int .i64 4) ∧ Below w.heap.size w w' := by
  go_enter Tryz.func299, Tryz.ntmps299
  go_wp2
  go_ret
  exact ⟨rfl, (Below.refl _ _).alloc (Nat.le_refl _) _⟩
theorem muting_whom (t : Int) (til : Int) (w : World) : Calls Tryz.prog 301 #[.agg #[.int .i64 t, .int .i64 til]] w fun e w' => e = .returned (.int .i64 t) ∧ Below w.heap.size w w' := by
  go_enter Tryz.func301, Tryz.ntmps301
  go_wp2
  go_ret
  exact ⟨rfl, (Below.refl _ _).alloc (Nat.le_refl _) _⟩
theorem mute_ok {o : Bool} {ms : List Mb} {vs : List Iv} {bs : List Bn} {t til : Int} (hb : roomB ms vs bs = true) (hok : (muteF o ms vs bs t til).ok = true) : ROk (muteF o ms vs bs t til) := by
  have hv := roomB_iff.1 hb
  cases hf : findM ms t with
  | none => simp [muteF, hf, rNo] at hok
  | some m =>
    have h0 : ROk ⟨o, ms, vs, bs, true⟩ := hv.ok
    have hm := (findM_some hf).1
    simp only [muteF, hf]
    exact ⟨put_rise h0.r1, h0.r2, h0.r3, Nat.le_trans (put_le _ _) (Nat.succ_le_of_lt (Nat.lt_of_le_of_lt hv.l1 (by decide))), h0.n2, h0.n3, fun x hx => by
      rcases put_mem.1 hx with rfl | ⟨hx, _⟩
      · exact h0.w1 m hm
      · exact h0.w1 x hx, h0.w2, h0.w3⟩
set_option maxHeartbeats 800000 in
theorem muting_change (o : Bool) (t til at_ : Int) (ms : List Mb) (vs : List Iv) (bs : List Bn) {a b : Addr} {w : World} (he : ErrN w a) (hR : ErrR w b) (hw : (Lit.int .i64 t).wf = true) : Does 300 (.agg #[.int .i64 t, .int .i64 til]) at_ o ms vs bs (muteF o ms vs bs t til) w := by
  intro W g base hbase hbW hbel hB
  have he := he.below hbel
  clear hR
  obtain ⟨q0, hb0⟩ := one_box W 102 #[.int .i64 t, .int .i64 til]
  have hB := hB.below hb0
  have he := he.below hb0
  have hb0 := hb0.mono hbW
  have zW := Nat.le_trans hbW hb0.size
  have d0 := q0.cell 0
  have hM := member_any g base 100 o ms vs bs t a _ hB hw
  cases hf : findM ms t with
  | none =>
    have HF := Lib.hid (show muteF o ms vs bs t til = rNo by rw [muteF, hf])
    have hm := hM.2 hf he
    clear hM
    go_enter Tryz.func300, Tryz.ntmps300
    go_wp2_with fail
    generalize W.alloc (.cells #[.int .i64 t, .int .i64 til] 102) = W0 at *
    go_at_call 48; refine hm.mono ?_; rintro e W1 ⟨rfl, hb1⟩
    have hb0 := hb0.trans (hb1.mono zW)
    have zB := hb1.size
    go_wp2
    go_ret
    rw [HF.out]
    exact ⟨.inr ⟨rfl, _, _, rfl⟩, hb0.alloc (Nat.le_trans zW zB) _⟩
  | some m =>
    obtain ⟨hmem, rfl⟩ := findM_some hf
    have HF := Lib.hid (show muteF o ms vs bs m.id til = ⟨o, putK Mb.id { m with quiet := til } ms, vs, bs, true⟩ by rw [muteF, hf])
    have hm := hM.1 m hf
    clear hM hf
    go_enter Tryz.func300, Tryz.ntmps300
    go_wp2_with fail
    generalize W.alloc (.cells #[.int .i64 m.id, .int .i64 til] 102) = W0 at *
    go_at_call 48; refine hm.mono ?_; rintro e W1 ⟨rfl, hb1⟩
    have q0 := q0.below hb1 q0.lt
    obtain ⟨b1, b2, b3, hX⟩ := (hB.below hb1).x
    have hb0 := hb0.trans (hb1.mono zW)
    have zB := Nat.le_trans zW hb1.size
    clear hb1 hB hm d0
    obtain ⟨r0, hbr⟩ := one_box W1 82 #[.int .i64 m.id, .int .i64 m.role, .int .i64 m.since, .int .i64 til]
    have qa := q0.below hbr q0.lt
    have hX := hX.below hbr
    have hb0 := hb0.trans (hbr.mono zB)
    have d0 : (W1.alloc (.cells #[.int .i64 m.id, .int .i64 m.role, .int .i64 m.since, .int .i64 til] 82)).cell? ⟨W.heap.size, 0, none⟩ = some (.int .i64 m.id) := qa.cell 0
    have d1 : W1.cell? ⟨W.heap.size, 1, none⟩ = some (.int .i64 til) := q0.cell 1
    have d1a : (W1.alloc (.cells #[.int .i64 m.id, .int .i64 m.role, .int .i64 m.since, .int .i64 m.quiet] 82)).cell? ⟨W.heap.size, 1, none⟩ = some (.int .i64 til) := (q0.alloc _).cell 1
    have e0 : (W1.alloc (.cells #[.int .i64 m.id, .int .i64 m.role, .int .i64 m.since, .int .i64 til] 82)).cell? ⟨W1.heap.size, 0, none⟩ = some (.int .i64 m.id) := r0.cell 0
    have e1 : (W1.alloc (.cells #[.int .i64 m.id, .int .i64 m.role, .int .i64 m.since, .int .i64 til] 82)).cell? ⟨W1.heap.size, 1, none⟩ = some (.int .i64 m.role) := r0.cell 1
    have e2 : (W1.alloc (.cells #[.int .i64 m.id, .int .i64 m.role, .int .i64 m.since, .int .i64 til] 82)).cell? ⟨W1.heap.size, 2, none⟩ = some (.int .i64 m.since) := r0.cell 2
    have e3 : (W1.alloc (.cells #[.int .i64 m.id, .int .i64 m.role, .int .i64 m.since, .int .i64 til] 82)).cell? ⟨W1.heap.size, 3, none⟩ = some (.int .i64 til) := r0.cell 3
    have k1 : (W1.alloc (.cells #[.int .i64 m.id, .int .i64 m.role, .int .i64 m.since, .int .i64 til] 82)).cell? ⟨g, 1, none⟩ = some (.map (some b1)) := hX.1.cell 1
    obtain ⟨w5, hrun, hX5, ht5⟩ := hX.drew.putM (by unfold maxLen; decide) { m with quiet := til } hw
    simp only [mbV] at hrun
    have hb5 := below_map hb0.drew ht5 hX.drew.base_le hX.2.2.2.2.2.1
    clear r0 hbr hX qa
    go_wp2_with fail
    generalize W1.alloc (.cells #[.int .i64 m.id, .int .i64 m.role, .int .i64 m.since, .int .i64 til] 82) = W2 at *
    go_region
    go_wp2
    go_ret
    rw [HF.out]
    exact ⟨.inl ⟨rfl, rfl, _, hX5.at_⟩, hb5⟩
set_option maxHeartbeats 1600000 in
theorem impl_MuteMember_any (o : Bool) (A1 A2 A3 : Option Addr) (n1 c1 n2 c2 n3 c3 : Nat) (ms : List Mb) (vs : List Iv) (bs : List Bn) (p : Int) (t : Int) (til : Int) (at_ : Int) {a b : Addr} (w : World)
    (h : RoomAt w w.heap.size A1 n1 A2 n2 A3 n3 ms vs bs) (hn : n1 + n2 + n3 ≤ 1048576) (he : ErrN w a) (hR : ErrR w b) (hp : (Lit.int .i64 p).wf = true) (ht : (Lit.int .i64 t).wf = true) :
    Calls Tryz.prog 17 #[.agg #[.bool o, .slice A1 n1 c1, .slice A2 n2 c2, .slice A3 n3 c3], .int .i64 p, .int .i64 t, .int .i64 til, .int .i64 at_] w (RoomOut (muteS o ms vs bs p t til at_) w) := by
  rw [← mute_same]
  obtain ⟨rz, hrz⟩ : ∃ z, carryR o ms vs bs p 4 t at_ (muteF o ms vs bs t til) = z := ⟨_, rfl⟩
  have HZ := Lib.hid hrz
  rw [hrz]
  clear hrz
  go_enter Tryz.func17, Tryz.ntmps17
  go_wp2_with fail
  obtain ⟨k0, k1, hb0⟩ := two_boxes w 28 28 #[.bool o, .slice A1 n1 c1, .slice A2 n2 c2, .slice A3 n3 c3] #[.bool false, .slice none 0 0, .slice none 0 0, .slice none 0 0]
  generalize ((w.alloc (.cells #[.bool o, .slice A1 n1 c1, .slice A2 n2 c2, .slice A3 n3 c3] 28)).alloc (.cells #[.bool false, .slice none 0 0, .slice none 0 0, .slice none 0 0] 28)) = W at *
  have h := (h.below hb0).more hb0.size
  have he := he.below hb0
  have hR := hR.below hb0
  have z1 := k1.lt
  have cc := carryOut_any 102 299 301 300 (.agg #[.int .i64 t, .int .i64 til]) p t 4 at_ a b o A1 A2 A3 n1 c1 n2 c2 n3 c3 ms vs bs (muteF o ms vs bs t til) W
    (fun _ => by kernel_rfl) (enters_of Tryz.func299 (by kernel_rfl) rfl) (muting_act t til)
    (fun _ => by kernel_rfl) (enters_of Tryz.func301 (by kernel_rfl) rfl) (muting_whom t til)
    (fun _ => by kernel_rfl) (enters_of Tryz.func300 (by kernel_rfl) rfl)
    (fun _ _ _ => muting_change o t til at_ ms vs bs he hR ht) (fun hb _ _ hok => mute_ok hb hok) h hn he hR hp ht
  rw [HZ.out] at cc
  go_at_call 63; refine cc.mono ?_; rintro e W3 ⟨B1, m1, d1, B2, m2, d2, B3, m3, d3, rfl, hO, hb3, hnn⟩
  have k1 := k1.below hb3 z1
  have hOx := hO.mono (Nat.succ_le_of_lt z1)
  have hb0 := hb0.trans (hb3.mono hb0.size)
  clear hb3 hO cc
  have r0 := k1.cell 0; have r1 := k1.cell 1; have r2 := k1.cell 2; have r3 := k1.cell 3
  have f0 := k1.frozen 0; have f1 := k1.frozen 1; have f2 := k1.frozen 2; have f3 := k1.frozen 3
  go_wp2
  refine bodyPost_ret (v := .tuple #[.agg #[.bool rz.o, .slice B1 m1 d1, .slice B2 m2 d2, .slice B3 m3 d3], .bool rz.ok]) (by simp [results, Tryz.results17, go_sem, r0, r1, r2, r3]) rfl ?_
  exact ⟨_, _, _, _, _, _, _, _, _, rfl, (hOx.set4 (Nat.lt_succ_self _) _ _ _ _ _ _ _ _).mono (by omega), below_set4 hb0 (by omega) _ _ _ _ _ _ _ _, hnn⟩
end Go.Proofs.YthekkjblgnjmgaaGreatDoor
