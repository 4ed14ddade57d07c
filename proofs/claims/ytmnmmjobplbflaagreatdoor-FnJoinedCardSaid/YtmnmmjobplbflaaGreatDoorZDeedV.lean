import Derived.Test.YtmnmmjobplbflaaGreatDoorChecked
import Derived.WalkKit
import Derived.ProofKit
import Derived.OpenShut
import Derived.ShutString
import Derived.ChangeOld
import Derived.Below
import Derived.Lib.Hide
import Derived.Test.YtmnmmjobplbflaaGreatDoorZDeedW
import Derived.Test.YtmnmmjobplbflaaGreatDoorZRankD
import Derived.Test.YtmnmmjobplbflaaGreatDoorJq
namespace Go.Proofs.YtmnmmjobplbflaaGreatDoor
open Go.ChangeShapes Go.WideShapes Go.ChangeAt Go.RowKit
open Go.ChangeMaps (open_string shut_string)
set_option linter.unusedVariables false
open Go.Maps
set_option maxRecDepth 100000
set_option maxHeartbeats 3200000 in
theorem release_any (o : Bool) (t : Int) (ms : List Mb) (vs : List Iv) (bs : List Bn) {a b : Addr} (w : World) (g base : Nat) (hbase : base ≤ w.heap.size) (hB : BookAt w g base 100 o ms vs bs) (hv : RoomV ms vs bs) (he : ErrN w a) (hR : ErrR w b) (hw : (Lit.int .i64 t).wf = true) :
    Calls Tryz.prog 33 #[.pointer (some ⟨g, 0, none⟩), .int .i64 t] w (Left g base (leaveF o ms vs bs t) w) := by
  have hM := member_any g base 100 o ms vs bs t a _ hB hw
  cases hf : findM ms t with
  | none =>
    have HF := Lib.hid (show leaveF o ms vs bs t = rNo by rw [leaveF, if_neg (findM_none.1 hf)])
    have hm := hM.2 hf he
    clear hM hf hB
    go_enter Tryz.func33, Tryz.ntmps33
    go_wp2_with fail
    go_at_call 31; refine hm.mono ?_; rintro e W1 ⟨rfl, hb1⟩
    have hb0 := (hb1.mono hbase).alloc (Nat.le_trans hbase hb1.size) (.cells #[.int .i64 0, .int .i64 0, .int .i64 0, .int .i64 0] 66)
    clear hm hb1
    go_wp2
    go_ret
    rw [HF.out]
    exact ⟨.inr ⟨rfl, _, _, rfl⟩, hb0⟩
  | some m =>
    have hmem := findM_mem hf
    have HM := Lib.hid hmem
    have hm := hM.1 m hf
    have HV := Lib.hid hv
    clear hM hf hv hmem he
    go_enter Tryz.func33, Tryz.ntmps33
    go_wp2_with fail
    go_at_call 31; refine hm.mono ?_; rintro e W1 ⟨rfl, hb1⟩
    obtain ⟨b1, b2, b3, hX⟩ := (hB.below hb1).x
    have hX := hX.alloc (.cells #[.int .i64 m.id, .int .i64 m.role, .int .i64 m.since, .int .i64 m.quiet] 66)
    have hR := (hR.below hb1).below ((Below.refl _ _).alloc (Nat.le_refl _) (.cells #[.int .i64 m.id, .int .i64 m.role, .int .i64 m.since, .int .i64 m.quiet] 66))
    have hb0 := (hb1.mono hbase).alloc (Nat.le_trans hbase hb1.size) (.cells #[.int .i64 m.id, .int .i64 m.role, .int .i64 m.since, .int .i64 m.quiet] 66)
    clear hm hb1 hB
    obtain ⟨w2, hrun2, hX2, ht2⟩ := hX.dropM t hw 0
    have k1 := hX.1.cell 1
    have k2 := hX2.1.cell 1
    have hb2 := below_map hb0 ht2 hX.base_le hX.2.2.2.2.2.1
    have hR2 : ErrR w2 b := ht2.grown.cell hR (by intro e; cases e; exact cell_no_map hR hX.2.1 rfl)
    clear hX ht2 hb0 hR
    go_wp2_with fail
    go_at_call 83; refine (inOrderM_any b1 100 (dropK Mb.id t ms) _ hX2.2.1 (drop_rise HV.out.r1) (Nat.le_trans drop_len (Nat.le_trans HV.out.l1 (by decide))) (fun x hx => wf_id (HV.out.s1 x (drop_mem.1 hx).1).2)).mono ?_; rintro e W3 ⟨g9, c9, rfl, ho9, hb9⟩
    have hX3 := hX2.below hb9
    have hR3 := hR2.below hb9
    have hb3 := hb2.trans (hb9.mono hX2.base_le)
    have hS := SRow.of_own mbC_len (by decide) ho9
    have HLD := Lib.hid (show (dropK Mb.id t ms).length ≤ 1048576 from Nat.le_trans drop_len (Nat.le_trans HV.out.l1 (by decide)))
    clear hX2 hb9 k1 k2 hb2 ho9 hrun2 hR2
    go_wp2_with fail
    go_at_call 46; refine (ranked_any _ _ _ _ _ HLD.out hS).mono ?_; rintro e W4 ⟨v, ys, rfl, hp, hs, ho4, hb9⟩
    have hX4 := hX3.below hb9
    have hR4 := hR3.below hb9
    have hb4 := hb3.trans (hb9.mono hX3.base_le)
    clear hX3 hb9 hS hb3 hR3
    have hle := hp.length_eq
    rcases ho4.2 with ⟨rfl, hn0⟩ | ⟨g5, cap5, cur5, rfl, hb5, hg5, hcn, hcap, hcs, htk⟩
    · have hd : dropK Mb.id t ms = [] := List.length_eq_zero_iff.1 hn0
      have HF := Lib.hid (show leaveF o ms vs bs t = rNo by rw [leaveF, if_pos HM.out, hd]; rfl)
      unfold ErrR at hR4
      clear hX4 ho4 hd hn0 hp hs hle
      go_wp2
      go_ret
      rw [HF.out]
      exact ⟨.inr ⟨rfl, _, _, rfl⟩, hb4⟩
    · by_cases hz : (dropK Mb.id t ms).length = 0
      · have hd : dropK Mb.id t ms = [] := List.length_eq_zero_iff.1 hz
        have HF := Lib.hid (show leaveF o ms vs bs t = rNo by rw [leaveF, if_pos HM.out, hd]; rfl)
        unfold ErrR at hR4
        have hz' : (((dropK Mb.id t ms).length : Int) == 0) = true := by simp [hd]
        clear hX4 ho4 hd hp hs hle hg5 hcn hcap hcs htk
        go_wp2
        go_ret
        rw [HF.out]
        exact ⟨.inr ⟨rfl, _, _, rfl⟩, hb4⟩
      · have hz' : (((dropK Mb.id t ms).length : Int) == 0) = false := beq_eq_false_iff_ne.2 (by omega)
        have hz'' : (0 : Int) < ((dropK Mb.id t ms).length : Int) := by omega
        have hS := SRow.of_own mbC_len (by decide) ho4
        obtain ⟨b9, off, z, ha, hb9, hzz, c0, c1, c2, c3⟩ := hS.atm (show 0 < (dropK Mb.id t ms).length by omega)
        injection ha with ha
        injection ha with ha1 ha2
        subst ha1 ha2
        simp only [Nat.zero_add, Nat.zero_mul] at c0 c1 c2 c3
        obtain ⟨r, hyr⟩ : ∃ r, ys = z :: r := by
          cases ys with
          | nil => simp at hzz
          | cons y r => simp at hzz; exact ⟨r, by rw [hzz]⟩
        have hbest := best_sorted (rise_ne (drop_rise HV.out.r1)) hp hs hyr
        have HF := Lib.hid (show leaveF o ms vs bs t = ⟨o, putK Mb.id (asOwner z) (dropK Mb.id t ms), vs, bs, true⟩ by rw [leaveF, if_pos HM.out, hbest])
        have hzm : z ∈ dropK Mb.id t ms := hp.mem_iff.1 (by rw [hyr]; simp)
        have hwf : (Lit.int .i64 z.id).wf = true := wf_id (HV.out.s1 z (drop_mem.1 hzm).1).2
        obtain ⟨r0, hbr⟩ := one_box W4 66 #[.int .i64 z.id, .int .i64 3, .int .i64 z.since, .int .i64 z.quiet]
        have hXb := hX4.alloc (.cells #[.int .i64 z.id, .int .i64 3, .int .i64 z.since, .int .i64 z.quiet] 66)
        have e0 := r0.cell 0; have e1 := r0.cell 1; have e2 := r0.cell 2; have e3 := r0.cell 3
        have k4 := hX4.1.cell 1
        have k5 := hXb.1.cell 1
        obtain ⟨w5, hrun, hX5, ht5⟩ := hXb.drew.putM (by unfold maxLen; decide) (asOwner z) hwf
        simp only [mbV, asOwner] at hrun
        have hb5 := below_map (hb4.alloc hX4.base_le (.cells #[.int .i64 z.id, .int .i64 3, .int .i64 z.since, .int .i64 z.quiet] 66)).drew ht5 hXb.drew.base_le hXb.2.2.2.2.2.1
        clear r0 hbr hXb ht5 hS ho4 hp hs hle hbest hzm hyr hzz htk hX4 hb4 hR4 hg5
        go_wp2_with fail
        generalize W4.alloc (.cells #[.int .i64 z.id, .int .i64 3, .int .i64 z.since, .int .i64 z.quiet] 66) = V at *
        go_region
        go_wp2
        go_ret
        rw [HF.out]
        exact ⟨.inl ⟨rfl, rfl, _, hX5.at_⟩, hb5⟩
theorem leave_ok {o : Bool} {ms : List Mb} {vs : List Iv} {bs : List Bn} {t : Int} (hb : roomB ms vs bs = true) (hok : (leaveF o ms vs bs t).ok = true) : ROk (leaveF o ms vs bs t) := by
  have hv := roomB_iff.1 hb
  have h0 : ROk ⟨o, ms, vs, bs, true⟩ := hv.ok
  unfold leaveF at hok ⊢
  split at hok
  · rename_i ht
    rw [if_pos ht]
    cases hbst : bestM (dropK Mb.id t ms) with
    | none => rw [hbst] at hok; cases hok
    | some m =>
      have hm := (best_spec (rise_ne (drop_rise hv.r1)) hbst).1
      exact ⟨put_rise (drop_rise h0.r1), h0.r2, h0.r3, Nat.le_trans (put_le _ _) (Nat.succ_le_of_lt (Nat.lt_of_le_of_lt (Nat.le_trans drop_len hv.l1) (by decide))), h0.n2, h0.n3, fun x hx => by
        rcases put_mem.1 hx with rfl | ⟨hx, _⟩
        · exact h0.w1 m (drop_mem.1 hm).1
        · exact h0.w1 x (drop_mem.1 hx).1, h0.w2, h0.w3⟩
  · cases hok
theorem leave1_change (at_ : Int) (a b : Addr) (o : Bool) (ms : List Mb) (vs : List Iv) (bs : List Bn) (w : World) (x1 : Nat) (he : ErrN w a) (hR : ErrR w b) (hv : RoomV ms vs bs) (hw : (Lit.int .i64 at_).wf = true) (ca : w.cell? ⟨x1, 0, none⟩ = some (.int .i64 at_)) :
    Change 32 #[.pointer (some ⟨x1, 0, none⟩)] o ms vs bs (leaveF o ms vs bs at_) w := by
  intro W g base hbase hbW hbel hB
  have hR := hR.below hbel
  have he := he.below hbel
  have ca := (hbel.cell (World.block_lt_of_cell? w _ ca)).trans ca
  have hA := release_any o at_ ms vs bs W g base hbW hB hv he hR hw
  show Calls Tryz.prog 32 #[.pointer (some ⟨g, 0, none⟩), .pointer (some ⟨x1, 0, none⟩)] W _
  clear hB hR he hbel
  go_enter Tryz.func32, Tryz.ntmps32
  go_wp2_with fail
  go_at_call 33; refine hA.mono ?_; rintro e W1 ⟨hy, hb1⟩
  rcases hy with ⟨hok, rfl, hN⟩ | ⟨hok, t', v', rfl⟩
  · go_wp2
    go_ret
    exact ⟨.inl ⟨hok, rfl, hN⟩, hb1⟩
  · go_wp2
    go_ret
    exact ⟨.inr ⟨hok, _, _, rfl⟩, hb1⟩
set_option maxHeartbeats 1600000 in
theorem impl_LeaveRoom_any (o : Bool) (A1 A2 A3 : Option Addr) (n1 c1 n2 c2 n3 c3 : Nat) (ms : List Mb) (vs : List Iv) (bs : List Bn) (at_ : Int) {a b : Addr} (w : World)
    (h : RoomAt w w.heap.size A1 n1 A2 n2 A3 n3 ms vs bs) (hn : n1 + n2 + n3 ≤ 1048576) (he : ErrN w a) (hR : ErrR w b) (hw : (Lit.int .i64 at_).wf = true) :
    Calls Tryz.prog 11 #[.agg #[.bool o, .slice A1 n1 c1, .slice A2 n2 c2, .slice A3 n3 c3], .int .i64 at_] w (RoomOut (leaveS o ms vs bs at_) w) := by
  rw [← leave_same]
  obtain ⟨rz, hrz⟩ : ∃ z, changeR ms vs bs (leaveF o ms vs bs at_) = z := ⟨_, rfl⟩
  have HZ := Lib.hid hrz
  rw [hrz]
  clear hrz
  go_enter Tryz.func11, Tryz.ntmps11
  go_wp2_with fail
  obtain ⟨k0, k1, k3, hb0⟩ := three_boxes w 28 2 28 #[.bool o, .slice A1 n1 c1, .slice A2 n2 c2, .slice A3 n3 c3] #[.int .i64 at_] #[.bool false, .slice none 0 0, .slice none 0 0, .slice none 0 0]
  generalize (((w.alloc (.cells #[.bool o, .slice A1 n1 c1, .slice A2 n2 c2, .slice A3 n3 c3] 28)).alloc (.cells #[.int .i64 at_] 2)).alloc (.cells #[.bool false, .slice none 0 0, .slice none 0 0, .slice none 0 0] 28)) = W at *
  have h := (h.below hb0).more hb0.size
  have hR := hR.below hb0
  have he := he.below hb0
  have z1 := k3.lt
  have cc := changed_any 32 #[.pointer (some ⟨w.heap.size + 1, 0, none⟩)] (enters_of Tryz.func32 (by kernel_rfl) rfl) o A1 A2 A3 n1 c1 n2 c2 n3 c3 ms vs bs (leaveF o ms vs bs at_) W h hn
    (fun hb => leave1_change at_ a b o ms vs bs W _ he hR (roomB_iff.1 hb) hw (k1.cell 0)) (fun hb hok => leave_ok hb hok)
  rw [HZ.out] at cc
  go_at_call 27; refine cc.mono ?_; rintro e W3 ⟨B1, m1, d1, B2, m2, d2, B3, m3, d3, rfl, hO, hb3, hnn⟩
  have k1 := k3.below hb3 z1
  have hOx := hO.mono (Nat.succ_le_of_lt z1)
  have hb0 := hb0.trans (hb3.mono hb0.size)
  clear hb3 hO cc k3
  have r0 := k1.cell 0; have r1 := k1.cell 1; have r2 := k1.cell 2; have r3 := k1.cell 3
  have f0 := k1.frozen 0; have f1 := k1.frozen 1; have f2 := k1.frozen 2; have f3 := k1.frozen 3
  go_wp2
  refine bodyPost_ret (v := .tuple #[.agg #[.bool rz.o, .slice B1 m1 d1, .slice B2 m2 d2, .slice B3 m3 d3], .bool rz.ok]) (by simp [results, Tryz.results11, go_sem, r0, r1, r2, r3]) rfl ?_
  exact ⟨_, _, _, _, _, _, _, _, _, rfl, (hOx.set4 (Nat.lt_succ_self _) _ _ _ _ _ _ _ _).mono (by omega), below_set4 hb0 (by omega) _ _ _ _ _ _ _ _, hnn⟩
end Go.Proofs.YtmnmmjobplbflaaGreatDoor
