import Derived.Test.YtmnmmjobplbflaaGreatDoorChecked
import Derived.WalkKit
import Derived.ProofKit
import Derived.OpenShut
import Derived.ShutString
import Derived.ChangeOld
import Derived.Below
import Derived.Lib.Hide
import Derived.Test.YtmnmmjobplbflaaGreatDoorJk
namespace Go.Proofs.YtmnmmjobplbflaaGreatDoor
open Go.ChangeShapes Go.WideShapes Go.ChangeAt Go.RowKit
open Go.ChangeMaps (open_string shut_string)
set_option linter.unusedVariables false
open Go.Maps
set_option maxRecDepth 100000
theorem join_ok {o : Bool} {ms : List Mb} {vs : List Iv} {bs : List Bn} {t at_ : Int} (hb : roomB ms vs bs = true) (ht : (Lit.int .i64 t).wf = true) (hok : (joinF o ms vs bs t at_).ok = true) : ROk (joinF o ms vs bs t at_) := by
  have hv := roomB_iff.1 hb
  have h0 : ROk ⟨o, ms, vs, bs, true⟩ := hv.ok
  by_cases h : t ∈ mids ms ∨ doorB o vs t at_ = false ∨ t ∈ bids bs
  · rw [joinF, if_pos h] at hok; cases hok
  · rw [joinF, if_neg h]
    exact ⟨put_rise h0.r1, drop_rise h0.r2, h0.r3, Nat.le_trans (put_le _ _) (Nat.succ_le_of_lt (Nat.lt_of_le_of_lt hv.l1 (by decide))), Nat.le_trans drop_len h0.n2, h0.n3, fun x hx => by
      rcases put_mem.1 hx with rfl | ⟨hx, _⟩
      · exact ht
      · exact h0.w1 x hx, fun x hx => h0.w2 x (drop_mem.1 hx).1, h0.w3⟩
theorem door_split (o : Bool) (vs : List Iv) (t at_ : Int) {b2 N : Nat} {V : World} (hm : mI V b2 N vs) (hw : (Lit.int .i64 t).wf = true) :
    ∃ (y : Iv) (c : Bool), (Instr.lookup 113 (.map (some b2)) (.int .i64 t) true).run Tryz.prog V = .ok (.tuple #[.agg #[.int .i64 y.id, .int .i64 y.byy, .int .i64 y.til], .bool c]) V ∧ doorB o vs t at_ = (o || (c && decide (at_ ≤ y.til))) := by
  have hl := look_tab kInt Tryz.underlying113 Tryz.underlying2 (zeroI V) hm t hw
  cases hf : vs.find? (fun x => decide (x.id = t)) with
  | none => exact ⟨⟨0, 0, 0⟩, false, (hl.2 hf).1, by simp [doorB, findI, hf]⟩
  | some x => exact ⟨x, true, (hl.1 x hf).1, by simp [doorB, findI, hf]⟩
set_option maxHeartbeats 3200000 in
theorem admit_any (o : Bool) (t at_ : Int) (ms : List Mb) (vs : List Iv) (bs : List Bn) {a b : Addr} (w : World) (g base : Nat) (hbase : base ≤ w.heap.size) (hB : BookAt w g base 100 o ms vs bs) (he : ErrN w a) (hR : ErrR w b) (hw : (Lit.int .i64 t).wf = true) :
    Calls Tryz.prog 29 #[.pointer (some ⟨g, 0, none⟩), .int .i64 t, .int .i64 at_] w (Left g base (joinF o ms vs bs t at_) w) := by
  have hM := member_any g base 100 o ms vs bs t a _ hB hw
  cases hf : findM ms t with
  | some m =>
    have HF := Lib.hid (show joinF o ms vs bs t at_ = rNo by rw [joinF, if_pos (.inl (findM_mem hf))])
    have hm := hM.1 m hf
    clear hM hf hB
    unfold ErrN at he
    unfold ErrR at hR
    go_enter Tryz.func29, Tryz.ntmps29
    go_wp2_with fail
    go_at_call 31; refine hm.mono ?_; rintro e W1 ⟨rfl, hb1⟩
    obtain ⟨qm, hb2⟩ := one_box W1 66 #[.int .i64 m.id, .int .i64 m.role, .int .i64 m.since, .int .i64 m.quiet]
    have hb1 := hb1.trans (hb2.mono hb1.size)
    have he1 := (hb1.cell (World.block_lt_of_cell? w _ he)).trans he
    have hR1 := (hb1.cell (World.block_lt_of_cell? w _ hR)).trans hR
    have hb0 := hb1.mono hbase
    clear hb1 hb2 qm hm he hR
    go_wp2_with (go_at_call 78; refine (is_nil _ _).mono ?_; rintro e w' ⟨rfl, rfl⟩)
    go_ret
    rw [HF.out]
    exact ⟨.inr ⟨rfl, _, _, rfl⟩, hb0⟩
  | none =>
    have hnm := findM_none.1 hf
    have hm := hM.2 hf he
    clear hM hf
    have DS := Lib.hid (fun (V : World) (b2 : Nat) (hm : mI V b2 100 vs) => door_split o vs t at_ hm hw)
    unfold ErrN at he
    go_enter Tryz.func29, Tryz.ntmps29
    go_wp2_with fail
    go_at_call 31; refine hm.mono ?_; rintro e W1 ⟨rfl, hb1⟩
    obtain ⟨qm, hb2⟩ := one_box W1 66 #[.int .i64 0, .int .i64 0, .int .i64 0, .int .i64 0]
    have hb1 := hb1.trans (hb2.mono hb1.size)
    have he1 := (hb1.cell (World.block_lt_of_cell? w _ he)).trans he
    obtain ⟨b1, b2, b3, hX⟩ := (hB.below hb1).x
    have hR1 := hR.below hb1
    have hb0 := hb1.mono hbase
    have hsz := Nat.le_trans hbase hb1.size
    have k2 := hX.1.cell 2
    have k0 := hX.1.cell 0
    obtain ⟨y, c, hrun, hd⟩ := DS.out _ b2 hX.2.2.1
    have hXa := hX.alloc (.cells #[.int .i64 y.id, .int .i64 y.byy, .int .i64 y.til] 36)
    have k0a := hXa.1.cell 0
    have hba := hb0.alloc hsz (.cells #[.int .i64 y.id, .int .i64 y.byy, .int .i64 y.til] 36)
    have hRa := hR1.below ((Below.refl _ _).alloc (Nat.le_refl _) (.cells #[.int .i64 y.id, .int .i64 y.byy, .int .i64 y.til] 36))
    have hsa := Nat.le_trans hsz (Nat.le_succ _)
    have hisb := isBanned_any g base 100 o ms vs bs t _ hXa.at_ hw
    clear hb1 hb2 qm hm hB hR he hX DS hb0 hR1
    cases o with
    | true =>
      have hdo : doorB true vs t at_ = true := by rw [hd]; rfl
      cases hc : decide (t ∈ bids bs) with
      | true =>
        have HF := Lib.hid (show joinF true ms vs bs t at_ = rNo by rw [joinF, if_pos (.inr (.inr (of_decide_eq_true hc)))])
        rw [hc] at hisb
        clear hd
        go_wp2_with (first | (go_at_call 78; refine (is_same _ _).mono ?_; rintro e w' ⟨rfl, rfl⟩) | fail)
        go_at_call 79; refine hisb.mono ?_; rintro e W2 ⟨rfl, hb1⟩
        have hR2 := hRa.below hb1
        unfold ErrR at hR2
        have hb0 := hba.trans (hb1.mono (by simpa using hsa))
        clear hb1 hRa hXa hisb he1
        go_wp2
        go_ret
        rw [HF.out]
        exact ⟨.inr ⟨rfl, _, _, rfl⟩, hb0⟩
      | false =>
        have HF := Lib.hid (show joinF true ms vs bs t at_ = ⟨true, putK Mb.id ⟨t, 1, at_, 0⟩ ms, dropK Iv.id t vs, bs, true⟩ by rw [joinF, if_neg (by rintro (h | h | h); exact hnm h; rw [hdo] at h; cases h; exact of_decide_eq_false hc h)])
        rw [hc] at hisb
        clear hd
        go_wp2_with (first | (go_at_call 78; refine (is_same _ _).mono ?_; rintro e w' ⟨rfl, rfl⟩) | fail)
        go_at_call 79; refine hisb.mono ?_; rintro e W2 ⟨rfl, hb1⟩
        have hX := hXa.below hb1
        have hb0 := hba.trans (hb1.mono (by simpa using hsa))
        clear hb1 hRa hXa hisb he1 k0 k2 k0a
        obtain ⟨w5, hrun5, hX5, ht5⟩ := hX.dropI t hw 0
        obtain ⟨w6, hrun6, hX6, ht6⟩ := hX5.putM (by unfold maxLen; decide) ⟨t, 1, at_, 0⟩ hw
        simp only [mbV] at hrun6
        have k2 : W2.cell? ⟨g, 2, none⟩ = some (.map (some b2)) := hX.1.cell 2
        have k1 : w5.cell? ⟨g, 1, none⟩ = some (.map (some b1)) := hX5.1.cell 1
        have hb5 := below_map hb0 ht5 hX.base_le hX.2.2.2.2.2.2.1
        have hb6 := below_map hb5 ht6 hX5.base_le hX5.2.2.2.2.2.1
        clear hX hX5 ht5 ht6 hb5 hrun
        go_wp2
        go_ret
        rw [HF.out]
        exact ⟨.inl ⟨rfl, rfl, _, hX6.at_⟩, hb6⟩
    | false =>
      cases c with
      | false =>
        have hdo : doorB false vs t at_ = false := by rw [hd]; rfl
        have HF := Lib.hid (show joinF false ms vs bs t at_ = rNo by rw [joinF, if_pos (.inr (.inl hdo))])
        unfold ErrR at hRa
        clear hisb hXa hd
        go_wp2_with (first | (go_at_call 78; refine (is_same _ _).mono ?_; rintro e w' ⟨rfl, rfl⟩) | fail)
        go_ret
        rw [HF.out]
        exact ⟨.inr ⟨rfl, _, _, rfl⟩, hba⟩
      | true =>
        by_cases hge : at_ ≤ y.til
        · have hge' : decide (at_ ≤ y.til) = true := decide_eq_true hge
          have hdo : doorB false vs t at_ = true := by rw [hd, hge']; rfl
          clear hge
          cases hc : decide (t ∈ bids bs) with
          | true =>
            have HF := Lib.hid (show joinF false ms vs bs t at_ = rNo by rw [joinF, if_pos (.inr (.inr (of_decide_eq_true hc)))])
            rw [hc] at hisb
            clear hd
            go_wp2_with (first | (go_at_call 78; refine (is_same _ _).mono ?_; rintro e w' ⟨rfl, rfl⟩) | fail)
            go_at_call 79; refine hisb.mono ?_; rintro e W2 ⟨rfl, hb1⟩
            have hR2 := hRa.below hb1
            unfold ErrR at hR2
            have hb0 := hba.trans (hb1.mono (by simpa using hsa))
            clear hb1 hRa hXa hisb he1
            go_wp2
            go_ret
            rw [HF.out]
            exact ⟨.inr ⟨rfl, _, _, rfl⟩, hb0⟩
          | false =>
            have HF := Lib.hid (show joinF false ms vs bs t at_ = ⟨false, putK Mb.id ⟨t, 1, at_, 0⟩ ms, dropK Iv.id t vs, bs, true⟩ by rw [joinF, if_neg (by rintro (h | h | h); exact hnm h; rw [hdo] at h; cases h; exact of_decide_eq_false hc h)])
            rw [hc] at hisb
            clear hd
            go_wp2_with (first | (go_at_call 78; refine (is_same _ _).mono ?_; rintro e w' ⟨rfl, rfl⟩) | fail)
            go_at_call 79; refine hisb.mono ?_; rintro e W2 ⟨rfl, hb1⟩
            have hX := hXa.below hb1
            have hb0 := hba.trans (hb1.mono (by simpa using hsa))
            clear hb1 hRa hXa hisb he1 k0 k2 k0a
            obtain ⟨w5, hrun5, hX5, ht5⟩ := hX.dropI t hw 0
            obtain ⟨w6, hrun6, hX6, ht6⟩ := hX5.putM (by unfold maxLen; decide) ⟨t, 1, at_, 0⟩ hw
            simp only [mbV] at hrun6
            have k2 : W2.cell? ⟨g, 2, none⟩ = some (.map (some b2)) := hX.1.cell 2
            have k1 : w5.cell? ⟨g, 1, none⟩ = some (.map (some b1)) := hX5.1.cell 1
            have hb5 := below_map hb0 ht5 hX.base_le hX.2.2.2.2.2.2.1
            have hb6 := below_map hb5 ht6 hX5.base_le hX5.2.2.2.2.2.1
            clear hX hX5 ht5 ht6 hb5 hrun
            go_wp2
            go_ret
            rw [HF.out]
            exact ⟨.inl ⟨rfl, rfl, _, hX6.at_⟩, hb6⟩
        · have hge' : decide (at_ ≤ y.til) = false := decide_eq_false hge
          have hdo : doorB false vs t at_ = false := by rw [hd, hge']; rfl
          clear hge
          have HF := Lib.hid (show joinF false ms vs bs t at_ = rNo by rw [joinF, if_pos (.inr (.inl hdo))])
          unfold ErrR at hRa
          clear hisb hXa hd
          go_wp2_with (first | (go_at_call 78; refine (is_same _ _).mono ?_; rintro e w' ⟨rfl, rfl⟩) | fail)
          go_ret
          rw [HF.out]
          exact ⟨.inr ⟨rfl, _, _, rfl⟩, hba⟩
theorem join1_any (t at_ : Int) (a b : Addr) (o : Bool) (ms : List Mb) (vs : List Iv) (bs : List Bn) (w : World) (x1 x2 : Nat) (he : ErrN w a) (hR : ErrR w b) (ht : (Lit.int .i64 t).wf = true)
    (cb : w.cell? ⟨x1, 0, none⟩ = some (.int .i64 t)) (ca : w.cell? ⟨x2, 0, none⟩ = some (.int .i64 at_)) :
    Change 28 #[.pointer (some ⟨x1, 0, none⟩), .pointer (some ⟨x2, 0, none⟩)] o ms vs bs (joinF o ms vs bs t at_) w := by
  intro W g base hbase hbW hbel hB
  have he := he.below hbel
  have hR := hR.below hbel
  have cb := (hbel.cell (World.block_lt_of_cell? w _ cb)).trans cb
  have ca := (hbel.cell (World.block_lt_of_cell? w _ ca)).trans ca
  have hA := admit_any o t at_ ms vs bs W g base hbW hB he hR ht
  show Calls Tryz.prog 28 #[.pointer (some ⟨g, 0, none⟩), .pointer (some ⟨x1, 0, none⟩), .pointer (some ⟨x2, 0, none⟩)] W _
  clear hB he hR hbel
  go_enter Tryz.func28, Tryz.ntmps28
  go_wp2_with fail
  go_at_call 29; refine hA.mono ?_; rintro e W1 ⟨hy, hb1⟩
  rcases hy with ⟨hok, rfl, hN⟩ | ⟨hok, t', v', rfl⟩
  · go_wp2
    go_ret
    exact ⟨.inl ⟨hok, rfl, hN⟩, hb1⟩
  · go_wp2
    go_ret
    exact ⟨.inr ⟨hok, _, _, rfl⟩, hb1⟩
theorem four_boxes (w : World) (t0 t1 t2 t3 : TypeId) (c0 c1 c2 c3 : Array Value) :
    Blk ((((w.alloc (.cells c0 t0)).alloc (.cells c1 t1)).alloc (.cells c2 t2)).alloc (.cells c3 t3)) w.heap.size t0 c0 ∧
    Blk ((((w.alloc (.cells c0 t0)).alloc (.cells c1 t1)).alloc (.cells c2 t2)).alloc (.cells c3 t3)) (w.heap.size + 1) t1 c1 ∧
    Blk ((((w.alloc (.cells c0 t0)).alloc (.cells c1 t1)).alloc (.cells c2 t2)).alloc (.cells c3 t3)) (w.heap.size + 1 + 1) t2 c2 ∧
    Blk ((((w.alloc (.cells c0 t0)).alloc (.cells c1 t1)).alloc (.cells c2 t2)).alloc (.cells c3 t3)) (w.heap.size + 1 + 1 + 1) t3 c3 ∧
    Below w.heap.size w ((((w.alloc (.cells c0 t0)).alloc (.cells c1 t1)).alloc (.cells c2 t2)).alloc (.cells c3 t3)) := by
  have e1 := Blk.new (w.alloc (.cells c0 t0)) t1 c1
  have e2 := Blk.new ((w.alloc (.cells c0 t0)).alloc (.cells c1 t1)) t2 c2
  have e3 := Blk.new (((w.alloc (.cells c0 t0)).alloc (.cells c1 t1)).alloc (.cells c2 t2)) t3 c3
  simp only [alloc_sz] at e1 e2 e3
  refine ⟨(((Blk.new _ _ _).alloc _).alloc _).alloc _, (e1.alloc _).alloc _, e2.alloc _, e3, ?_⟩
  exact ((((Below.refl _ _).alloc (Nat.le_refl _) _).alloc (by simp) _).alloc (by simp; omega) _).alloc (by simp; omega) _
set_option maxHeartbeats 1600000 in
theorem impl_JoinRoom_any (o : Bool) (A1 A2 A3 : Option Addr) (n1 c1 n2 c2 n3 c3 : Nat) (ms : List Mb) (vs : List Iv) (bs : List Bn) (t : Int) (at_ : Int) {a b : Addr} (w : World)
    (h : RoomAt w w.heap.size A1 n1 A2 n2 A3 n3 ms vs bs) (hn : n1 + n2 + n3 ≤ 1048576) (he : ErrN w a) (hR : ErrR w b) (ht : (Lit.int .i64 t).wf = true) :
    Calls Tryz.prog 9 #[.agg #[.bool o, .slice A1 n1 c1, .slice A2 n2 c2, .slice A3 n3 c3], .int .i64 t, .int .i64 at_] w (RoomOut (joinS o ms vs bs t at_) w) := by
  rw [← join_same]
  obtain ⟨rz, hrz⟩ : ∃ z, changeR ms vs bs (joinF o ms vs bs t at_) = z := ⟨_, rfl⟩
  have HZ := Lib.hid hrz
  rw [hrz]
  clear hrz
  go_enter Tryz.func9, Tryz.ntmps9
  go_wp2_with fail
  obtain ⟨k0, k1, k2, k3, hb0⟩ := four_boxes w 28 2 2 28 #[.bool o, .slice A1 n1 c1, .slice A2 n2 c2, .slice A3 n3 c3] #[.int .i64 t] #[.int .i64 at_] #[.bool false, .slice none 0 0, .slice none 0 0, .slice none 0 0]
  generalize ((((w.alloc (.cells #[.bool o, .slice A1 n1 c1, .slice A2 n2 c2, .slice A3 n3 c3] 28)).alloc (.cells #[.int .i64 t] 2)).alloc (.cells #[.int .i64 at_] 2)).alloc (.cells #[.bool false, .slice none 0 0, .slice none 0 0, .slice none 0 0] 28)) = W at *
  have h := (h.below hb0).more hb0.size
  have he := he.below hb0
  have hR := hR.below hb0
  have z1 := k3.lt
  have cc := changed_any 28 #[.pointer (some ⟨w.heap.size + 1, 0, none⟩), .pointer (some ⟨w.heap.size + 1 + 1, 0, none⟩)] (enters_of Tryz.func28 (by kernel_rfl) rfl) o A1 A2 A3 n1 c1 n2 c2 n3 c3 ms vs bs (joinF o ms vs bs t at_) W h hn
    (fun _ => join1_any t at_ a b o ms vs bs W _ _ he hR ht (k1.cell 0) (k2.cell 0)) (fun hb hok => join_ok hb ht hok)
  rw [HZ.out] at cc
  go_at_call 27; refine cc.mono ?_; rintro e W3 ⟨B1, m1, d1, B2, m2, d2, B3, m3, d3, rfl, hO, hb3, hnn⟩
  have k1 := k3.below hb3 z1
  have hOx := hO.mono (Nat.succ_le_of_lt z1)
  have hb0 := hb0.trans (hb3.mono hb0.size)
  clear hb3 hO cc k2 k3
  have r0 := k1.cell 0; have r1 := k1.cell 1; have r2 := k1.cell 2; have r3 := k1.cell 3
  have f0 := k1.frozen 0; have f1 := k1.frozen 1; have f2 := k1.frozen 2; have f3 := k1.frozen 3
  go_wp2
  refine bodyPost_ret (v := .tuple #[.agg #[.bool rz.o, .slice B1 m1 d1, .slice B2 m2 d2, .slice B3 m3 d3], .bool rz.ok]) (by simp [results, Tryz.results9, go_sem, r0, r1, r2, r3]) rfl ?_
  exact ⟨_, _, _, _, _, _, _, _, _, rfl, (hOx.set4 (Nat.lt_succ_self _) _ _ _ _ _ _ _ _).mono (by omega), below_set4 hb0 (by omega) _ _ _ _ _ _ _ _, hnn⟩
end Go.Proofs.YtmnmmjobplbflaaGreatDoor
