import Derived.Test.YthekkjblgnjmgaaGreatDoorChecked
import Derived.WalkKit
import Derived.ProofKit
import Derived.OpenShut
import Derived.ShutString
import Derived.ChangeOld
import Derived.Below
import Derived.Lib.Hide
import Derived.Test.YthekkjblgnjmgaaGreatDoorJk
namespace Go.Proofs.YthekkjblgnjmgaaGreatDoor
open Go.ChangeShapes Go.WideShapes Go.ChangeAt Go.RowKit
open Go.ChangeMaps (open_string shut_string)
set_option linter.unusedVariables false
open Go.Maps
set_option maxRecDepth 100000
theorem inviting_act (t : Int) (p : Int) (til : Int) (w : World) : Calls Tryz.prog 311 #[.agg #[.int .i64 t, .int .i64 p, .int .i64 til]] w fun e w' => e = .returned (.int .i64 3) ∧ Below w.heap.size w w' := by
  go_enter Tryz.func311, Tryz.ntmps311
  go_wp2
  go_ret
  exact ⟨rfl, (Below.refl _ _).alloc (Nat.le_refl _) _⟩
theorem inviting_whom (t : Int) (p : Int) (til : Int) (w : World) : Calls Tryz.prog 313 #[.agg #[.int .i64 t, .int .i64 p, .int .i64 til]] w fun e w' => e = .returned (.int .i64 t) ∧ Below w.heap.size w w' := by
  go_enter Tryz.func313, Tryz.ntmps313
  go_wp2
  go_ret
  exact ⟨rfl, (Below.refl _ _).alloc (Nat.le_refl _) _⟩
theorem invite_ok {o : Bool} {ms : List Mb} {vs : List Iv} {bs : List Bn} {p t til at_ : Int} (hb : roomB ms vs bs = true) (ht : (Lit.int .i64 t).wf = true) (hok : (inviteF o ms vs bs p t til at_).ok = true) : ROk (inviteF o ms vs bs p t til at_) := by
  have hv := roomB_iff.1 hb
  have h0 : ROk ⟨o, ms, vs, bs, true⟩ := hv.ok
  by_cases h : t ∈ mids ms ∨ til < at_ ∨ t ∈ bids bs
  · rw [inviteF, if_pos h] at hok; cases hok
  · rw [inviteF, if_neg h]
    exact ⟨h0.r1, put_rise h0.r2, h0.r3, h0.n1, Nat.le_trans (put_le _ _) (Nat.succ_le_of_lt (Nat.lt_of_le_of_lt hv.l2 (by decide))), h0.n3, h0.w1, fun x hx => by
      rcases put_mem.1 hx with rfl | ⟨hx, _⟩
      · exact ht
      · exact h0.w2 x hx, h0.w3⟩
set_option maxHeartbeats 1600000 in
theorem inviting_change (o : Bool) (t p til at_ : Int) (ms : List Mb) (vs : List Iv) (bs : List Bn) {a b : Addr} {w : World} (he : ErrN w a) (hR : ErrR w b) (hw : (Lit.int .i64 t).wf = true) : Does 312 (.agg #[.int .i64 t, .int .i64 p, .int .i64 til]) at_ o ms vs bs (inviteF o ms vs bs p t til at_) w := by
  intro W g base hbase hbW hbel hB
  have he := he.below hbel
  have hR := hR.below hbel
  obtain ⟨q0, hb0⟩ := one_box W 110 #[.int .i64 t, .int .i64 p, .int .i64 til]
  have hB := hB.below hb0
  have he := he.below hb0
  have hR := hR.below hb0
  have hb0 := hb0.mono hbW
  have zW := Nat.le_trans hbW hb0.size
  have d0 := q0.cell 0
  have d2 := q0.cell 2
  have hM := member_any g base 100 o ms vs bs t a _ hB hw
  cases hf : findM ms t with
  | some m =>
    have HF := Lib.hid (show inviteF o ms vs bs p t til at_ = rNo by rw [inviteF, if_pos (.inl (findM_mem hf))])
    have hm := hM.1 m hf
    clear hM hf
    unfold ErrN at he
    unfold ErrR at hR
    go_enter Tryz.func312, Tryz.ntmps312
    go_wp2_with fail
    generalize W.alloc (.cells #[.int .i64 t, .int .i64 p, .int .i64 til] 110) = W0 at *
    go_at_call 48; refine hm.mono ?_; rintro e W1 ⟨rfl, hb1⟩
    obtain ⟨qm, hb2⟩ := one_box W1 82 #[.int .i64 m.id, .int .i64 m.role, .int .i64 m.since, .int .i64 m.quiet]
    have hb1 := hb1.trans (hb2.mono hb1.size)
    clear hb2 qm
    have he1 := (hb1.cell (World.block_lt_of_cell? W0 _ he)).trans he
    have hR1 := (hb1.cell (World.block_lt_of_cell? W0 _ hR)).trans hR
    have hb0 := hb0.trans (hb1.mono zW)
    clear hb1 hm he hR hB d0 d2 q0
    go_wp2_with fail
    go_wp2_with (go_at_call 109; refine (is_nil _ _).mono ?_; rintro e w' ⟨rfl, rfl⟩)
    go_ret
    rw [HF.out]
    exact ⟨.inr ⟨rfl, _, _, rfl⟩, hb0⟩
  | none =>
    have hnm := findM_none.1 hf
    have hm := hM.2 hf he
    clear hM hf
    by_cases hl : til < at_
    · have HF := Lib.hid (show inviteF o ms vs bs p t til at_ = rNo by rw [inviteF, if_pos (.inr (.inl hl))])
      have hl' : decide (til < at_) = true := decide_eq_true hl
      clear hl hnm
      unfold ErrN at he
      unfold ErrR at hR
      go_enter Tryz.func312, Tryz.ntmps312
      go_wp2_with fail
      generalize W.alloc (.cells #[.int .i64 t, .int .i64 p, .int .i64 til] 110) = W0 at *
      go_at_call 48; refine hm.mono ?_; rintro e W1 ⟨rfl, hb1⟩
      obtain ⟨qm, hb2⟩ := one_box W1 82 #[.int .i64 0, .int .i64 0, .int .i64 0, .int .i64 0]
      have hb1 := hb1.trans (hb2.mono hb1.size)
      clear hb2 qm
      have he1 := (hb1.cell (World.block_lt_of_cell? W0 _ he)).trans he
      have hR1 := (hb1.cell (World.block_lt_of_cell? W0 _ hR)).trans hR
      have e2 : (W1.alloc (.cells #[.int .i64 0, .int .i64 0, .int .i64 0, .int .i64 0] 82)).cell? ⟨W.heap.size, 2, none⟩ = some (.int .i64 til) := (q0.below hb1 q0.lt).cell 2
      have hb0 := hb0.trans (hb1.mono zW)
      clear hb1 hm he hR hB d0 d2 q0
      go_wp2_with fail
      go_wp2_with (go_at_call 109; refine (is_same _ _).mono ?_; rintro e w' ⟨rfl, rfl⟩)
      go_ret
      rw [HF.out]
      exact ⟨.inr ⟨rfl, _, _, rfl⟩, hb0⟩
    · have hl' : decide (til < at_) = false := decide_eq_false hl
      cases hc : decide (t ∈ bids bs) with
      | true =>
        have HF := Lib.hid (show inviteF o ms vs bs p t til at_ = rNo by rw [inviteF, if_pos (.inr (.inr (of_decide_eq_true hc)))])
        clear hl hnm
        unfold ErrN at he
        go_enter Tryz.func312, Tryz.ntmps312
        go_wp2_with fail
        generalize W.alloc (.cells #[.int .i64 t, .int .i64 p, .int .i64 til] 110) = W0 at *
        go_at_call 48; refine hm.mono ?_; rintro e W1 ⟨rfl, hb1⟩
        obtain ⟨qm, hb2⟩ := one_box W1 82 #[.int .i64 0, .int .i64 0, .int .i64 0, .int .i64 0]
        have hb1 := hb1.trans (hb2.mono hb1.size)
        clear hb2 qm
        have he1 := (hb1.cell (World.block_lt_of_cell? W0 _ he)).trans he
        have hR1 := hR.below hb1
        have q1 := q0.below hb1 q0.lt
        have e0 : (W1.alloc (.cells #[.int .i64 0, .int .i64 0, .int .i64 0, .int .i64 0] 82)).cell? ⟨W.heap.size, 0, none⟩ = some (.int .i64 t) := q1.cell 0
        have e2 : (W1.alloc (.cells #[.int .i64 0, .int .i64 0, .int .i64 0, .int .i64 0] 82)).cell? ⟨W.heap.size, 2, none⟩ = some (.int .i64 til) := q1.cell 2
        have hb0 := hb0.trans (hb1.mono zW)
        have hB1 := hB.below hb1
        have z1 := Nat.le_trans zW hb1.size
        clear hb1 hm he hR hB d0 d2 q0 q1
        go_wp2_with fail
        go_wp2_with (go_at_call 109; refine (is_same _ _).mono ?_; rintro e w' ⟨rfl, rfl⟩)
        go_at_call 110; refine (isBanned_any g base 100 o ms vs bs t _ hB1 hw).mono ?_; rw [hc]; rintro e W2 ⟨rfl, hb1⟩
        have hR2 := hR1.below hb1
        unfold ErrR at hR2
        have hb0 := hb0.trans (hb1.mono z1)
        clear hb1 hR1 hB1 he1
        go_wp2
        go_ret
        rw [HF.out]
        exact ⟨.inr ⟨rfl, _, _, rfl⟩, hb0⟩
      | false =>
        have HF := Lib.hid (show inviteF o ms vs bs p t til at_ = ⟨o, ms, putK Iv.id ⟨t, p, til⟩ vs, bs, true⟩ by rw [inviteF, if_neg (by rintro (h | h | h); exact hnm h; exact hl h; exact of_decide_eq_false hc h)])
        clear hl hnm hR
        unfold ErrN at he
        go_enter Tryz.func312, Tryz.ntmps312
        go_wp2_with fail
        generalize W.alloc (.cells #[.int .i64 t, .int .i64 p, .int .i64 til] 110) = W0 at *
        go_at_call 48; refine hm.mono ?_; rintro e W1 ⟨rfl, hb1⟩
        obtain ⟨qm, hb2⟩ := one_box W1 82 #[.int .i64 0, .int .i64 0, .int .i64 0, .int .i64 0]
        have hb1 := hb1.trans (hb2.mono hb1.size)
        clear hb2 qm
        have he1 := (hb1.cell (World.block_lt_of_cell? W0 _ he)).trans he
        have q1 := q0.below hb1 q0.lt
        have e0 : (W1.alloc (.cells #[.int .i64 0, .int .i64 0, .int .i64 0, .int .i64 0] 82)).cell? ⟨W.heap.size, 0, none⟩ = some (.int .i64 t) := q1.cell 0
        have e2 : (W1.alloc (.cells #[.int .i64 0, .int .i64 0, .int .i64 0, .int .i64 0] 82)).cell? ⟨W.heap.size, 2, none⟩ = some (.int .i64 til) := q1.cell 2
        have hb0 := hb0.trans (hb1.mono zW)
        have hB1 := hB.below hb1
        have z1 := Nat.le_trans zW hb1.size
        clear hb1 hm he hB d0 d2 q0
        go_wp2_with fail
        go_wp2_with (go_at_call 109; refine (is_same _ _).mono ?_; rintro e w' ⟨rfl, rfl⟩)
        go_at_call 110; refine (isBanned_any g base 100 o ms vs bs t _ hB1 hw).mono ?_; rw [hc]; rintro e W2 ⟨rfl, hb1⟩
        have q2 := q1.below hb1 q1.lt
        obtain ⟨b1, b2, b3, hX⟩ := (hB1.below hb1).x
        have hb0 := hb0.trans (hb1.mono z1)
        clear hb1 hB1 he1 e0 e2 q1
        obtain ⟨w7, hrun7, hX7, ht7⟩ := hX.drew.putI (by unfold maxLen; decide) ⟨t, p, til⟩ hw
        simp only [ivV] at hrun7
        have k2 : W2.cell? ⟨g, 2, none⟩ = some (.map (some b2)) := hX.1.cell 2
        have e0 := q2.cell 0
        have e1 := q2.cell 1
        have e2 := q2.cell 2
        have hb7 := below_map hb0.drew ht7 hX.drew.base_le hX.2.2.2.2.2.2.1
        clear hX q2 ht7
        go_wp2_with fail
        go_region
        go_wp2
        go_ret
        rw [HF.out]
        exact ⟨.inl ⟨rfl, rfl, _, hX7.at_⟩, hb7⟩
set_option maxHeartbeats 1600000 in
theorem impl_InviteTo_any (o : Bool) (A1 A2 A3 : Option Addr) (n1 c1 n2 c2 n3 c3 : Nat) (ms : List Mb) (vs : List Iv) (bs : List Bn) (p : Int) (t : Int) (til : Int) (at_ : Int) {a b : Addr} (w : World)
    (h : RoomAt w w.heap.size A1 n1 A2 n2 A3 n3 ms vs bs) (hn : n1 + n2 + n3 ≤ 1048576) (he : ErrN w a) (hR : ErrR w b) (hp : (Lit.int .i64 p).wf = true) (ht : (Lit.int .i64 t).wf = true) :
    Calls Tryz.prog 22 #[.agg #[.bool o, .slice A1 n1 c1, .slice A2 n2 c2, .slice A3 n3 c3], .int .i64 p, .int .i64 t, .int .i64 til, .int .i64 at_] w (RoomOut (inviteS o ms vs bs p t til at_) w) := by
  rw [← invite_same]
  obtain ⟨rz, hrz⟩ : ∃ z, carryR o ms vs bs p 3 t at_ (inviteF o ms vs bs p t til at_) = z := ⟨_, rfl⟩
  have HZ := Lib.hid hrz
  rw [hrz]
  clear hrz
  go_enter Tryz.func22, Tryz.ntmps22
  go_wp2_with fail
  obtain ⟨k0, k1, hb0⟩ := two_boxes w 28 28 #[.bool o, .slice A1 n1 c1, .slice A2 n2 c2, .slice A3 n3 c3] #[.bool false, .slice none 0 0, .slice none 0 0, .slice none 0 0]
  generalize ((w.alloc (.cells #[.bool o, .slice A1 n1 c1, .slice A2 n2 c2, .slice A3 n3 c3] 28)).alloc (.cells #[.bool false, .slice none 0 0, .slice none 0 0, .slice none 0 0] 28)) = W at *
  have h := (h.below hb0).more hb0.size
  have he := he.below hb0
  have hR := hR.below hb0
  have z1 := k1.lt
  have cc := carryOut_any 110 311 313 312 (.agg #[.int .i64 t, .int .i64 p, .int .i64 til]) p t 3 at_ a b o A1 A2 A3 n1 c1 n2 c2 n3 c3 ms vs bs (inviteF o ms vs bs p t til at_) W
    (fun _ => by kernel_rfl) (enters_of Tryz.func311 (by kernel_rfl) rfl) (inviting_act t p til)
    (fun _ => by kernel_rfl) (enters_of Tryz.func313 (by kernel_rfl) rfl) (inviting_whom t p til)
    (fun _ => by kernel_rfl) (enters_of Tryz.func312 (by kernel_rfl) rfl)
    (fun _ _ _ => inviting_change o t p til at_ ms vs bs he hR ht) (fun hb _ _ hok => invite_ok hb ht hok) h hn he hR hp ht
  rw [HZ.out] at cc
  go_at_call 63; refine cc.mono ?_; rintro e W3 ⟨B1, m1, d1, B2, m2, d2, B3, m3, d3, rfl, hO, hb3, hnn⟩
  have k1 := k1.below hb3 z1
  have hOx := hO.mono (Nat.succ_le_of_lt z1)
  have hb0 := hb0.trans (hb3.mono hb0.size)
  clear hb3 hO cc
  have r0 := k1.cell 0; have r1 := k1.cell 1; have r2 := k1.cell 2; have r3 := k1.cell 3
  have f0 := k1.frozen 0; have f1 := k1.frozen 1; have f2 := k1.frozen 2; have f3 := k1.frozen 3
  go_wp2
  refine bodyPost_ret (v := .tuple #[.agg #[.bool rz.o, .slice B1 m1 d1, .slice B2 m2 d2, .slice B3 m3 d3], .bool rz.ok]) (by simp [results, Tryz.results22, go_sem, r0, r1, r2, r3]) rfl ?_
  exact ⟨_, _, _, _, _, _, _, _, _, rfl, (hOx.set4 (Nat.lt_succ_self _) _ _ _ _ _ _ _ _).mono (by omega), below_set4 hb0 (by omega) _ _ _ _ _ _ _ _, hnn⟩
end Go.Proofs.YthekkjblgnjmgaaGreatDoor
