import Derived.Test.YtmnmmjobplbflaaGreatDoorChecked
import Derived.WalkKit
import Derived.ProofKit
import Derived.OpenShut
import Derived.ShutString
import Derived.ChangeOld
import Derived.Below
import Derived.Lib.Hide
import Derived.Test.YtmnmmjobplbflaaGreatDoorZDelW
import Derived.Test.YtmnmmjobplbflaaGreatDoorJs
namespace Go.Proofs.YtmnmmjobplbflaaGreatDoor
open Go.ChangeShapes Go.WideShapes Go.ChangeAt Go.RowKit
open Go.ChangeMaps (open_string shut_string)
set_option linter.unusedVariables false
open Go.Maps
set_option maxRecDepth 100000
theorem sweep_ok {o : Bool} {ms : List Mb} {vs : List Iv} {bs : List Bn} {at_ : Int} (hb : roomB ms vs bs = true) (hok : (sweepF o ms vs bs at_).ok = true) : ROk (sweepF o ms vs bs at_) := by
  unfold sweepF at hok ⊢
  split at hok
  · rename_i h
    rw [if_pos h]
    exact (sweep_valid (roomB_iff.1 hb) at_ _ _).ok
  · cases hok
section
variable {w w' : World} {g base N b1 b2 b3 : Nat} {o : Bool} {ms : List Mb} {vs vs' : List Iv} {bs bs' : List Bn}
theorem blk_no_map {t : TypeId} {cs : Array Value} {D : DataW Value} (hk : Blk w g t cs) (hm : w.ownsMap Tryz.prog 2 heldR b1 N D) : g ≠ b1 := by
  intro e
  obtain ⟨es, cl, hb, _⟩ := hm
  unfold Blk at hk
  rw [e, hb] at hk
  cases hk
theorem BookX.delI (h : BookX w g base N b1 b2 b3 o ms vs bs) (hm : mI w' b2 N vs') (hg : w.grownBy w' (some b2)) : BookX w' g base N b1 b2 b3 o ms vs' bs := by
  have hgb := blk_no_map h.1 h.2.2.1
  obtain ⟨hk, h1, h2, h3, r1, r2⟩ := h
  exact ⟨hk.grown hg (by intro e; cases e; exact hgb rfl), h1.kept hg (by intro e; cases e; exact r1.1 rfl), hm, h3.kept hg (by intro e; cases e; exact r1.2.2 rfl), r1, r2⟩
theorem BookX.delB (h : BookX w g base N b1 b2 b3 o ms vs bs) (hm : mB w' b3 N bs') (hg : w.grownBy w' (some b3)) : BookX w' g base N b1 b2 b3 o ms vs bs' := by
  have hgb := blk_no_map h.1 h.2.2.2.1
  obtain ⟨hk, h1, h2, h3, r1, r2⟩ := h
  exact ⟨hk.grown hg (by intro e; cases e; exact hgb rfl), h1.kept hg (by intro e; cases e; exact r1.2.1 rfl), h2.kept hg (by intro e; cases e; exact r1.2.2 rfl), hm, r1, r2⟩
end
theorem cell_no_map {w : World} {b o b1 N : Nat} {u : Value} {D : DataW Value} (hc : w.cell? ⟨b, o, none⟩ = some u) (hm : w.ownsMap Tryz.prog 2 heldR b1 N D) : b ≠ b1 := by
  intro e
  obtain ⟨es, cl, hb, _⟩ := hm
  rw [e] at hc
  simp [World.cell?, hb] at hc
theorem grown_drew {w w' : World} {row : Option Nat} (h : w.grownBy w' row) : w.grownBy w'.drew row := ⟨h.os, h.tape, h.output, h.size, h.block⟩
set_option maxHeartbeats 3200000 in
theorem sweep_any (o : Bool) (at_ : Int) (ms : List Mb) (vs : List Iv) (bs : List Bn) {b : Addr} (w : World) (g base : Nat) (hbase : base ≤ w.heap.size) (hB : BookAt w g base 100 o ms vs bs) (hR : ErrR w b) (hv : RoomV ms vs bs) :
    Calls Tryz.prog 45 #[.pointer (some ⟨g, 0, none⟩), .int .i64 at_] w (Left g base (sweepF o ms vs bs at_) w) := by
  obtain ⟨b1, b2, b3, hX⟩ := hB.x
  obtain ⟨q0, hb0⟩ := one_box w 2 #[.int .i64 at_]
  have c0 := q0.cell 0
  have hR := hR.below hb0
  have hX := hX.below hb0
  clear hB
  cases hT : tickB at_ with
  | false =>
    have HF := Lib.hid (show sweepF o ms vs bs at_ = rNo by rw [sweepF, if_neg (by simp [hT])])
    unfold ErrR at hR
    clear hX q0
    go_enter Tryz.func45, Tryz.ntmps45
    go_wp2_with (go_at_call 50; refine (isTick_b _ _ _ hT).mono ?_; rintro e w' ⟨rfl, rfl⟩)
    go_ret
    rw [HF.out]
    exact ⟨.inr ⟨rfl, _, _, rfl⟩, hb0.mono hbase⟩
  | true =>
    have HF := Lib.hid (show sweepF o ms vs bs at_ = ⟨o, ms.map (hush at_), vs.filter fun x => !decide (x.til < at_), bs.filter fun x => !decide (x.til < at_), true⟩ by rw [sweepF, if_pos hT])
    have HV := Lib.hid hv
    have k2 := hX.1.cell 2
    have hbA := hb0.mono hbase
    have qb : b1 ≠ w.heap.size ∧ b2 ≠ w.heap.size ∧ b3 ≠ w.heap.size := ⟨fun e => blk_no_map q0 hX.2.1 e.symm, fun e => blk_no_map q0 hX.2.2.1 e.symm, fun e => blk_no_map q0 hX.2.2.2.1 e.symm⟩
    have QB := Lib.hid qb
    clear hR hv qb hb0
    go_enter Tryz.func45, Tryz.ntmps45
    go_wp2_with (first | (go_at_call 50; refine (isTick_b _ _ _ hT).mono ?_; rintro e w' ⟨rfl, rfl⟩) | fail)
    generalize w.alloc (.cells #[.int .i64 at_] 2) = W0 at *
    go_at_call 89; refine (delI_any at_ b2 100 _ vs _ hX.2.2.1 c0).mono ?_; rintro e W1 ⟨rfl, hm2, hg1⟩
    have hX1 := hX.delI hm2 hg1
    have q1 := q0.grown hg1 (by intro e; cases e; exact QB.out.2.1 rfl)
    have hb1 := hbA.grown hg1 (hX.base_le) (fun j hj => by cases hj; exact hX.2.2.2.2.2.2.1)
    have c1 := q1.cell 0
    have k3 := hX1.1.cell 3
    clear hX hm2 hg1 q0 c0 k2 hbA
    go_wp2_with fail
    go_at_call 91; refine (delB_any at_ b3 100 _ bs _ hX1.2.2.2.1 c1).mono ?_; rintro e W2 ⟨rfl, hm3, hg2⟩
    have hX2 := hX1.delB hm3 hg2
    have q2 := q1.grown hg2 (by intro e; cases e; exact QB.out.2.2 rfl)
    have hb2 := hb1.grown hg2 (hX1.base_le) (fun j hj => by cases hj; exact hX1.2.2.2.2.2.2.2.1)
    have k1 := hX2.1.cell 1
    clear hX1 hm3 hg2 q1 c1 k3 hb1
    go_wp2_with fail
    go_at_call 83; refine (inOrderM_any b1 100 ms _ hX2.2.1 HV.out.r1 (Nat.le_trans HV.out.l1 (by decide)) (fun x hx => wf_id (HV.out.s1 x hx).2)).mono ?_; rintro e W3 ⟨g9, c9, rfl, ho9, hb9⟩
    have hX3 := hX2.below hb9
    have q3 := q2.below hb9 q2.lt
    have hb3 := hb2.trans (hb9.mono hX2.base_le)
    have hS := SRow.of_own mbC_len (by decide) ho9
    have HS3 := Lib.hid hS
    have HM3 := Lib.hid hX3.2.1
    have hl32 : ms.length ≤ 32 := HV.out.l1
    have HQ3 := Lib.hid q3
    clear hX2 hb9 q2 k1 hb2 ho9 hS
    have hX4 : BookX W3 g base 100 b1 b2 b3 o (hushK at_ 0 ms) (vs.filter fun x => !decide (x.til < at_)) (bs.filter fun x => !decide (x.til < at_)) := by rw [hushK_zero]; exact hX3
    clear hX3
    go_wp2
    go_loopw [29] (fun i wr => ∃ (k N : Nat), k ≤ ms.length ∧ i = .int .i64 k ∧ N ≤ 100 + k ∧ BookX wr g base N b1 b2 b3 o (hushK at_ k ms) (vs.filter fun x => !decide (x.til < at_)) (bs.filter fun x => !decide (x.til < at_)) ∧ W3.grownBy wr (some b1) ∧ Below base w wr) (fun i _ => ms.length - (intOf i).toNat)
    case atStart => exact ⟨0, 100, by omega, rfl, by omega, hX4, World.grownBy.refl _ _, hb3⟩
    case round =>
      obtain ⟨k, N, hk, rfl, hN, hX, hgw, hbel⟩ := hrel
      clear hX4 hb3 q3
      have hbs := hX.base_le
      have ca := hgw.cell (HQ3.out.cell 0) (by intro e; cases e; exact QB.out.1 rfl)
      by_cases hlt : k < ms.length
      · obtain ⟨b9, off, z, ha, hb9, hz, c0, c1, c2, c3⟩ := HS3.out.atm hlt
        injection ha with ha
        injection ha with ha1 ha2
        subst ha1 ha2
        have n9 := cell_no_map c0 HM3.out
        have d0 := hgw.cell c0 (by intro e; cases e; exact n9 rfl)
        have d1 := hgw.cell c1 (by intro e; cases e; exact n9 rfl)
        have d2 := hgw.cell c2 (by intro e; cases e; exact n9 rfl)
        have d3 := hgw.cell c3 (by intro e; cases e; exact n9 rfl)
        simp only [Nat.zero_add] at d0 d1 d2 d3
        have i0' : (0 : Int) ≤ (k : Int) := Int.natCast_nonneg _
        have i1' : (k : Int) < (ms.length : Int) := by omega
        clear c0 c1 c2 c3 n9
        by_cases he : z.quiet ≤ at_
        · have he' : decide (z.quiet ≤ at_) = true := decide_eq_true he
          have hwf : (Lit.int .i64 z.id).wf = true := wf_id (HV.out.s1 z (List.mem_of_getElem? hz)).2
          obtain ⟨r0, hbr⟩ := one_box wr 66 #[.int .i64 z.id, .int .i64 z.role, .int .i64 z.since, .int .i64 0]
          obtain ⟨s0, hbs0⟩ := one_box wr 66 #[.int .i64 z.id, .int .i64 z.role, .int .i64 z.since, .int .i64 z.quiet]
          have s3 := s0.cell 3
          have caS := (hbs0.cell (World.block_lt_of_cell? wr _ ca)).trans ca
          have hXa := hX.alloc (.cells #[.int .i64 z.id, .int .i64 z.role, .int .i64 z.since, .int .i64 0] 66)
          have e0 := r0.cell 0; have e1 := r0.cell 1; have e2 := r0.cell 2; have e3 := r0.cell 3
          have k1 := hXa.1.cell 1
          obtain ⟨w5, hrun, hX5, ht5⟩ := hXa.drew.putM (by unfold maxLen; omega) { z with quiet := 0 } hwf
          simp only [mbV] at hrun
          have HU := Lib.hid (show putK Mb.id { z with quiet := 0 } (hushK at_ k ms) = hushK at_ (k + 1) ms by rw [← hushK_put HV.out.r1 hz]; simp [hush, he])
          have hg5 := (grown_drew (hgw.andThen (World.grownBy_alloc wr (.cells #[.int .i64 z.id, .int .i64 z.role, .int .i64 z.since, .int .i64 0] 66) none) (fun j hj => by cases hj))).andThen ht5.grown (fun j hj => by cases hj; exact Or.inr rfl)
          have hb5 := below_map (hbel.alloc hbs (.cells #[.int .i64 z.id, .int .i64 z.role, .int .i64 z.since, .int .i64 0] 66)).drew ht5 hXa.drew.base_le hXa.2.2.2.2.2.1
          clear r0 hbr s0 hbs0 hXa ht5 hz he hX
          go_wp2_with fail
          generalize wr.alloc (.cells #[.int .i64 z.id, .int .i64 z.role, .int .i64 z.since, .int .i64 0] 66) = V at *
          go_region
          go_wp2
          go_roundw
          case rel => exact ⟨k + 1, N + 1, by omega, by go_num, by omega, by rw [← HU.out]; exact hX5, hg5, hb5⟩
          case measure => simp [intOf]; omega
        · have he' : decide (z.quiet ≤ at_) = false := decide_eq_false he
          obtain ⟨s0, hbs0⟩ := one_box wr 66 #[.int .i64 z.id, .int .i64 z.role, .int .i64 z.since, .int .i64 z.quiet]
          have s3 := s0.cell 3
          have caS := (hbs0.cell (World.block_lt_of_cell? wr _ ca)).trans ca
          have hXa := hX.alloc (.cells #[.int .i64 z.id, .int .i64 z.role, .int .i64 z.since, .int .i64 z.quiet] 66)
          have HU := Lib.hid (hushK_same hz he)
          have hg5 := hgw.andThen (World.grownBy_alloc wr (.cells #[.int .i64 z.id, .int .i64 z.role, .int .i64 z.since, .int .i64 z.quiet] 66) none) (fun j hj => by cases hj)
          have hb5 := hbel.alloc hbs (.cells #[.int .i64 z.id, .int .i64 z.role, .int .i64 z.since, .int .i64 z.quiet] 66)
          clear s0 hbs0 hz he hX
          go_wp2
          go_roundw
          case rel => exact ⟨k + 1, N, by omega, by go_num, by omega, by rw [HU.out]; exact hXa, hg5, hb5⟩
          case measure => simp [intOf]; omega
      · have hkn : k = ms.length := by omega
        subst hkn
        rw [hushK_all] at hX
        go_wp2
        go_ret
        rw [HF.out]
        exact ⟨.inl ⟨rfl, rfl, _, hX.at_⟩, hbel⟩
theorem sweep1_change (at_ : Int) (b : Addr) (o : Bool) (ms : List Mb) (vs : List Iv) (bs : List Bn) (w : World) (x1 : Nat) (hR : ErrR w b) (hv : RoomV ms vs bs) (ca : w.cell? ⟨x1, 0, none⟩ = some (.int .i64 at_)) :
    Change 44 #[.pointer (some ⟨x1, 0, none⟩)] o ms vs bs (sweepF o ms vs bs at_) w := by
  intro W g base hbase hbW hbel hB
  have hR := hR.below hbel
  have ca := (hbel.cell (World.block_lt_of_cell? w _ ca)).trans ca
  have hA := sweep_any o at_ ms vs bs W g base hbW hB hR hv
  show Calls Tryz.prog 44 #[.pointer (some ⟨g, 0, none⟩), .pointer (some ⟨x1, 0, none⟩)] W _
  clear hB hR hbel
  go_enter Tryz.func44, Tryz.ntmps44
  go_wp2_with fail
  go_at_call 45; refine hA.mono ?_; rintro e W1 ⟨hy, hb1⟩
  rcases hy with ⟨hok, rfl, hN⟩ | ⟨hok, t', v', rfl⟩
  · go_wp2
    go_ret
    exact ⟨.inl ⟨hok, rfl, hN⟩, hb1⟩
  · go_wp2
    go_ret
    exact ⟨.inr ⟨hok, _, _, rfl⟩, hb1⟩
theorem three_boxes (w : World) (t0 t1 t2 : TypeId) (c0 c1 c2 : Array Value) :
    Blk (((w.alloc (.cells c0 t0)).alloc (.cells c1 t1)).alloc (.cells c2 t2)) w.heap.size t0 c0 ∧
    Blk (((w.alloc (.cells c0 t0)).alloc (.cells c1 t1)).alloc (.cells c2 t2)) (w.heap.size + 1) t1 c1 ∧
    Blk (((w.alloc (.cells c0 t0)).alloc (.cells c1 t1)).alloc (.cells c2 t2)) (w.heap.size + 1 + 1) t2 c2 ∧
    Below w.heap.size w (((w.alloc (.cells c0 t0)).alloc (.cells c1 t1)).alloc (.cells c2 t2)) := by
  have e1 := Blk.new (w.alloc (.cells c0 t0)) t1 c1
  have e2 := Blk.new ((w.alloc (.cells c0 t0)).alloc (.cells c1 t1)) t2 c2
  simp only [alloc_sz] at e1 e2
  refine ⟨((Blk.new _ _ _).alloc _).alloc _, e1.alloc _, e2, ?_⟩
  exact (((Below.refl _ _).alloc (Nat.le_refl _) _).alloc (by simp) _).alloc (by simp; omega) _
set_option maxHeartbeats 1600000 in
theorem impl_SweepRoom_any (o : Bool) (A1 A2 A3 : Option Addr) (n1 c1 n2 c2 n3 c3 : Nat) (ms : List Mb) (vs : List Iv) (bs : List Bn) (at_ : Int) {b : Addr} (w : World)
    (h : RoomAt w w.heap.size A1 n1 A2 n2 A3 n3 ms vs bs) (hn : n1 + n2 + n3 ≤ 1048576) (hR : ErrR w b) :
    Calls Tryz.prog 14 #[.agg #[.bool o, .slice A1 n1 c1, .slice A2 n2 c2, .slice A3 n3 c3], .int .i64 at_] w (RoomOut (sweepS o ms vs bs at_) w) := by
  rw [← sweep_same]
  obtain ⟨rz, hrz⟩ : ∃ z, changeR ms vs bs (sweepF o ms vs bs at_) = z := ⟨_, rfl⟩
  have HZ := Lib.hid hrz
  rw [hrz]
  clear hrz
  go_enter Tryz.func14, Tryz.ntmps14
  go_wp2_with fail
  obtain ⟨k0, k1, k3, hb0⟩ := three_boxes w 28 2 28 #[.bool o, .slice A1 n1 c1, .slice A2 n2 c2, .slice A3 n3 c3] #[.int .i64 at_] #[.bool false, .slice none 0 0, .slice none 0 0, .slice none 0 0]
  generalize (((w.alloc (.cells #[.bool o, .slice A1 n1 c1, .slice A2 n2 c2, .slice A3 n3 c3] 28)).alloc (.cells #[.int .i64 at_] 2)).alloc (.cells #[.bool false, .slice none 0 0, .slice none 0 0, .slice none 0 0] 28)) = W at *
  have h := (h.below hb0).more hb0.size
  have hR := hR.below hb0
  have z1 := k3.lt
  have cc := changed_any 44 #[.pointer (some ⟨w.heap.size + 1, 0, none⟩)] (enters_of Tryz.func44 (by kernel_rfl) rfl) o A1 A2 A3 n1 c1 n2 c2 n3 c3 ms vs bs (sweepF o ms vs bs at_) W h hn
    (fun hb => sweep1_change at_ b o ms vs bs W _ hR (roomB_iff.1 hb) (k1.cell 0)) (fun hb hok => sweep_ok hb hok)
  rw [HZ.out] at cc
  go_at_call 27; refine cc.mono ?_; rintro e W3 ⟨B1, m1, d1, B2, m2, d2, B3, m3, d3, rfl, hO, hb3, hnn⟩
  have k1 := k3.below hb3 z1
  have hOx := hO.mono (Nat.succ_le_of_lt z1)
  have hb0 := hb0.trans (hb3.mono hb0.size)
  clear hb3 hO cc k3
  have r0 := k1.cell 0; have r1 := k1.cell 1; have r2 := k1.cell 2; have r3 := k1.cell 3
  have f0 := k1.frozen 0; have f1 := k1.frozen 1; have f2 := k1.frozen 2; have f3 := k1.frozen 3
  go_wp2
  refine bodyPost_ret (v := .tuple #[.agg #[.bool rz.o, .slice B1 m1 d1, .slice B2 m2 d2, .slice B3 m3 d3], .bool rz.ok]) (by simp [results, Tryz.results14, go_sem, r0, r1, r2, r3]) rfl ?_
  exact ⟨_, _, _, _, _, _, _, _, _, rfl, (hOx.set4 (Nat.lt_succ_self _) _ _ _ _ _ _ _ _).mono (by omega), below_set4 hb0 (by omega) _ _ _ _ _ _ _ _, hnn⟩
end Go.Proofs.YtmnmmjobplbflaaGreatDoor
