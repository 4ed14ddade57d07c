import Derived.Test.YtmnmmjobplbflaaGreatDoorChecked
import Derived.WalkKit
import Derived.ProofKit
import Derived.OpenShut
import Derived.ShutString
import Derived.ChangeOld
import Derived.Below
import Derived.Lib.Hide
import Derived.Deep.QuietTactic
import Derived.BigQuiet
import Derived.Deep.RegionHeld3
import Derived.Test.YtmnmmjobplbflaaGreatDoorZSpecLv
import Derived.Test.YtmnmmjobplbflaaGreatDoorZSpecW
namespace Go.Proofs.YtmnmmjobplbflaaGreatDoor
open Go.ChangeShapes Go.WideShapes Go.ChangeAt Go.RowKit
open Go.ChangeMaps (open_string shut_string)
set_option linter.unusedVariables false
set_option maxRecDepth 100000
theorem drop_lone {ms : List Mb} {t : Int} (hp : ms.Pairwise fun a b => a.id ≠ b.id) (ht : t ∈ mids ms) (hl : ms.length < 2) : dropK Mb.id t ms = [] := by
  match ms, hl with
  | [], _ => rfl
  | [x], _ =>
    simp [mids] at ht
    simp [dropK, ht]
theorem drop_some {ms : List Mb} {t : Int} (hp : ms.Pairwise fun a b => a.id ≠ b.id) (hl : 2 ≤ ms.length) : 0 < (dropK Mb.id t ms).length := by
  match ms, hp, hl with
  | x :: y :: r, hp, _ =>
    have hxy : x.id ≠ y.id := (List.pairwise_cons.1 hp).1 y (by simp)
    by_cases hx : x.id = t
    · have hy : y ∈ dropK Mb.id t (x :: y :: r) := drop_mem.2 ⟨by simp, fun e => hxy (hx.trans e.symm)⟩
      exact List.length_pos_of_mem hy
    · have hy : x ∈ dropK Mb.id t (x :: y :: r) := drop_mem.2 ⟨by simp, hx⟩
      exact List.length_pos_of_mem hy
theorem Calls.quiet_atS {P : Program} {f : FuncId} {args : Array Value} {w : World} {n : Nat} {v : Value}
    (h : Calls P f args (w.drewN n) fun e w' => e = .returned v ∧ ∃ q, w' = (w.drewN n).drewN q) : Calls P f args (w.drewN n) fun e w'' => e = .returned v ∧ ∃ m, w'' = w.drewN m :=
  h.mono fun _ _ ⟨he, q, hm⟩ => ⟨he, n + q, by rw [hm, World.drewN_drewN]⟩

theorem range_dN {w : World} {b o q : Nat} {vs : List Value} (h : w.rangeAt b o vs) : (w.drewN q).rangeAt b o vs := h
theorem exN {w wr : World} {q m : Nat} (h : wr = w.drewN q) : ∃ q', wr.drewN m = w.drewN q' := by
  subst h; exact ⟨_, World.drewN_drewN ..⟩
theorem rowS_range {w : World} {B n g k : Nat} {ls : List Mb} {z : Mb} (h : SRow 4 mbC w B (some ⟨g, 0, none⟩) n ls) (hz : ls[k]? = some z) : w.rangeAt g (k * 4) (mbC z) := by
  have hk : k < n := by rw [← h.1]; exact (List.getElem?_eq_some_iff.1 hz).1
  obtain ⟨b, off, z', ha, _, hz', hc⟩ := h.at_ hk
  injection ha with ha
  injection ha with h1 h2
  subst h1 h2
  rw [hz] at hz'; cases hz'
  rw [Nat.zero_add] at hc
  exact hc
set_option maxHeartbeats 6400000 in
theorem spec_LeaveRoom_any (o : Bool) (a1 a2 a3 : Addr) (n1 c1 n2 c2 n3 c3 : Nat) (ms : List Mb) (vs : List Iv) (bs : List Bn) (t : Int) (w : World)
    (h : RoomAt w w.heap.size (some a1) n1 (some a2) n2 (some a3) n3 ms vs bs) (hn : n1 + n2 + n3 ≤ 1048576) :
    Calls Tryz.prog 20 #[.agg #[.bool o, .slice (some a1) n1 c1, .slice (some a2) n2 c2, .slice (some a3) n3 c3], .int .i64 t] w (RoomOut (leaveS o ms vs bs t) w) := by
  obtain ⟨rz, hrz⟩ : ∃ z, leaveS o ms vs bs t = z := ⟨_, rfl⟩
  have HZ := Lib.hid hrz
  rw [hrz]
  clear hrz
  go_enter Tryz.func20, Tryz.ntmps20
  go_wp2_with fail
  obtain ⟨k0, k1, hb0⟩ := two_boxes w 28 28 #[.bool o, .slice (some a1) n1 c1, .slice (some a2) n2 c2, .slice (some a3) n3 c3] #[.bool false, .slice none 0 0, .slice none 0 0, .slice none 0 0]
  generalize ((w.alloc (.cells #[.bool o, .slice (some a1) n1 c1, .slice (some a2) n2 c2, .slice (some a3) n3 c3] 28)).alloc (.cells #[.bool false, .slice none 0 0, .slice none 0 0, .slice none 0 0] 28)) = W at *
  have h := h.to hb0
  have HN1 := Lib.hid h.1.1
  have cI := l02Is_any w.heap.size _ _ _ n1 c1 n2 c2 n3 c3 W.heap.size ms vs bs W (k0.cell 1) (k0.cell 2) (k0.cell 3) h hn
  have fin : ∀ q, Below w.heap.size w (W.drewN q) := fun q => hb0.trans (Below.mono (drew_below ⟨q, rfl⟩) hb0.size)
  have HF := Lib.hid fin
  clear fin
  cases hA : roomB ms vs bs with
  | false =>
    rw [hA] at cI
    have HR := Lib.hid (show rz = rNo by rw [← HZ.out, leaveS, if_neg (by simp [hA])])
    have k1q := fun q => k1.drewN q
    have r0 : ∀ q, (W.drewN q).cell? ⟨w.heap.size + 1, 0, none⟩ = some (.bool false) := fun q => (k1q q).cell 0
    have r1 : ∀ q, (W.drewN q).cell? ⟨w.heap.size + 1, 1, none⟩ = some (.slice none 0 0) := fun q => (k1q q).cell 1
    have r2 : ∀ q, (W.drewN q).cell? ⟨w.heap.size + 1, 2, none⟩ = some (.slice none 0 0) := fun q => (k1q q).cell 2
    have r3 : ∀ q, (W.drewN q).cell? ⟨w.heap.size + 1, 3, none⟩ = some (.slice none 0 0) := fun q => (k1q q).cell 3
    have f0 := k1.frozen 0; have f1 := k1.frozen 1; have f2 := k1.frozen 2; have f3 := k1.frozen 3
    go_wp2_with (first | (go_at_call 55; refine cI.mono ?_; rintro e w' ⟨rfl, q, rfl⟩))
    refine bodyPost_ret (v := .tuple #[.agg #[.bool false, .slice none 0 0, .slice none 0 0, .slice none 0 0], .bool false]) (by simp [results, Tryz.results20, go_sem, r0, r1, r2, r3]) rfl ?_
    rw [HR.out]
    exact roomOut_no (((((HF.out q).setCell (by simp) _).setCell (by simp) _).setCell (by simp) _).setCell (by simp) _)
  | true =>
    rw [hA] at cI
    have HV := Lib.hid (roomB_iff.1 hA)
    by_cases hm : t ∈ mids ms
    rotate_left
    · have HNM := Lib.hid hm
      have HR := Lib.hid (show rz = rNo by rw [← HZ.out, leaveS, if_neg (by simp [hm])])
      have k1q := fun q => k1.drewN q
      have r0 : ∀ q, (W.drewN q).cell? ⟨w.heap.size + 1, 0, none⟩ = some (.bool false) := fun q => (k1q q).cell 0
      have r1 : ∀ q, (W.drewN q).cell? ⟨w.heap.size + 1, 1, none⟩ = some (.slice none 0 0) := fun q => (k1q q).cell 1
      have r2 : ∀ q, (W.drewN q).cell? ⟨w.heap.size + 1, 2, none⟩ = some (.slice none 0 0) := fun q => (k1q q).cell 2
      have r3 : ∀ q, (W.drewN q).cell? ⟨w.heap.size + 1, 3, none⟩ = some (.slice none 0 0) := fun q => (k1q q).cell 3
      have f0 := k1.frozen 0; have f1 := k1.frozen 1; have f2 := k1.frozen 2; have f3 := k1.frozen 3
      go_wp2_with (first | (go_at_call 55; refine cI.mono ?_; rintro e w' ⟨rfl, q, rfl⟩) | (go_at_call 56; refine (l02Find_no w.heap.size _ n1 c1 W.heap.size ms t (W.drewN q) ((k0.drewN q).cell 1) (h.1.drewN q) (by omega) HNM.out).mono ?_; rintro e w' ⟨rfl, rfl⟩))
      refine bodyPost_ret (v := .tuple #[.agg #[.bool false, .slice none 0 0, .slice none 0 0, .slice none 0 0], .bool false]) (by simp [results, Tryz.results20, go_sem, r0, r1, r2, r3]) rfl ?_
      rw [HR.out]
      exact roomOut_no (((((HF.out q).setCell (by simp) _).setCell (by simp) _).setCell (by simp) _).setCell (by simp) _)
    · obtain ⟨KB, hK, hKf⟩ := first_at hm
      have HKB := Lib.hid (And.intro hK hKf)
      have HM := Lib.hid hm
      have HC := Lib.hid (show (roomB ms vs bs && decide (t ∈ mids ms)) = true by simp [hA, hm])
      have eb0 : ¬ ((KB : Int) < 0) := by omega
      clear hK hKf hm
      have p1q : ∀ q, (W.drewN q).cell? ⟨w.heap.size, 1, none⟩ = some (.slice (some a1) n1 c1) := fun q => (k0.drewN q).cell 1
      by_cases hn2 : n1 < 2
      · have hl2 : decide ((n1 : Int) < 2) = true := decide_eq_true (by omega)
        have HR := Lib.hid (show rz = rNo by rw [← HZ.out, leaveS, if_pos HC.out, drop_lone (rise_ne HV.out.r1) HM.out (by have := HN1.out; omega)]; rfl)
        have k1q := fun q => k1.drewN q
        have r0 : ∀ q, (W.drewN q).cell? ⟨w.heap.size + 1, 0, none⟩ = some (.bool false) := fun q => (k1q q).cell 0
        have r1 : ∀ q, (W.drewN q).cell? ⟨w.heap.size + 1, 1, none⟩ = some (.slice none 0 0) := fun q => (k1q q).cell 1
        have r2 : ∀ q, (W.drewN q).cell? ⟨w.heap.size + 1, 2, none⟩ = some (.slice none 0 0) := fun q => (k1q q).cell 2
        have r3 : ∀ q, (W.drewN q).cell? ⟨w.heap.size + 1, 3, none⟩ = some (.slice none 0 0) := fun q => (k1q q).cell 3
        have f0 := k1.frozen 0; have f1 := k1.frozen 1; have f2 := k1.frozen 2; have f3 := k1.frozen 3
        go_wp2_with (first | (go_at_call 55; refine cI.mono ?_; rintro e w' ⟨rfl, q, rfl⟩) | (go_at_call 56; refine (l02Find_at w.heap.size _ n1 c1 W.heap.size ms t (W.drewN q) ((k0.drewN q).cell 1) (h.1.drewN q) (by omega) KB HKB.out.1 HKB.out.2).mono ?_; rintro e w' ⟨rfl, rfl⟩))
        refine bodyPost_ret (v := .tuple #[.agg #[.bool false, .slice none 0 0, .slice none 0 0, .slice none 0 0], .bool false]) (by simp [results, Tryz.results20, go_sem, r0, r1, r2, r3]) rfl ?_
        rw [HR.out]
        exact roomOut_no (((((HF.out q).setCell (by simp) _).setCell (by simp) _).setCell (by simp) _).setCell (by simp) _)
      · have hl2 : decide ((n1 : Int) < 2) = false := decide_eq_false (by omega)
        have HPOS := Lib.hid (drop_some (t := t) (rise_ne HV.out.r1) (show 2 ≤ ms.length by have := HN1.out; omega))
        go_wp2_with (first | (go_at_call 55; refine cI.mono ?_; rintro e w' ⟨rfl, q, rfl⟩) | (go_at_call 56; refine (l02Find_at w.heap.size _ n1 c1 W.heap.size ms t (W.drewN q) ((k0.drewN q).cell 1) (h.1.drewN q) (by omega) KB HKB.out.1 HKB.out.2).mono ?_; rintro e w' ⟨rfl, rfl⟩))
        have z1 := k1.lt
        have hD : RoomAt (W.drewN q) (W.drewN q).heap.size (some a1) n1 (some a2) n2 (some a3) n3 ms vs bs := h
        have kD := k0.drewN q
        have k1D := k1.drewN q
        have hbD : Below w.heap.size w (W.drewN q) := HF.out q
        have zD : w.heap.size + 1 < (W.drewN q).heap.size := z1
        clear h k0 k1 hb0 z1 cI HF hn2 hl2 eb0 p1q
        generalize W.drewN q = W1 at *
        go_at_call 57; refine (l02Copy_any w.heap.size n1 c1 n2 c2 n3 c3 a1 a2 a3 o ms vs bs W1 kD hD hn).mono ?_; rintro e W2 ⟨B1, d1, B2, d2, B3, d3, rfl, hO, hb1⟩
        have k0 := kD.below hb1 kD.lt
        have k1 := k1D.below hb1 zD
        have h := hD.to hb1
        have hb0 := hbD.trans (hb1.mono hbD.size)
        have zE := k1.lt
        have hO := hO.mono (Nat.succ_le_of_lt zD)
        clear hb1 kD k1D hbD hD
        obtain ⟨q1, hb1⟩ := one_box W2 28 #[.bool o, .slice B1 n1 d1, .slice B2 n2 d2, .slice B3 n3 d3]
        have hO2 := hO.below hb1 (Nat.le_refl _)
        have hY : OutAt (W2.alloc (.cells #[.bool o, .slice B1 n1 d1, .slice B2 n2 d2, .slice B3 n3 d3] 28)) W2.heap.size (w.heap.size + 1).succ (w.heap.size + 1).succ (w.heap.size + 1).succ o (.slice B1 n1 d1) (.slice B2 n2 d2) (.slice B3 n3 d3) n1 n2 n3 ms vs bs := ⟨q1, hO2.1, hO2.2.1, hO2.2.2⟩
        have k0 := k0.below hb1 k0.lt
        have k1 := k1.below hb1 k1.lt
        have h := h.to hb1
        have hb0 := hb0.trans (hb1.mono hb0.size)
        have p1 := k0.cell 1
        have lk0 := k0.lt
        have hz3 := q1.lt
        clear q1 hb1 hO hO2
        go_wp2_with fail
        generalize W2.alloc (.cells #[.bool o, .slice B1 n1 d1, .slice B2 n2 d2, .slice B3 n3 d3] 28) = W3 at *
        go_at_call 58; refine (l02Rest_any _ n1 c1 ms t W3 h.1 (by omega)).mono ?_; rintro e W4 ⟨A5, m5, c5, rfl, hm5, ho5, hb1⟩
        subst hm5
        have hY := hY.below hb1
        have k1 := k1.below hb1 k1.lt
        have hb0 := hb0.trans (hb1.mono hb0.size)
        obtain ⟨g5, rfl, hg5⟩ := own_some ho5 HPOS.out
        have gx := hY.1.cell 1
        have gf := hY.1.frozen 1
        have hY := hY.setM (ms' := dropK Mb.id t ms) ho5
        have kz := k1.far (p := ⟨W2.heap.size, 1, none⟩) (Nat.ne_of_lt zE) (.slice (some ⟨g5, 0, none⟩) (dropK Mb.id t ms).length c5)
        have hbz := hb0.setCell (p := ⟨W2.heap.size, 1, none⟩) (show w.heap.size ≤ W2.heap.size by omega) (.slice (some ⟨g5, 0, none⟩) (dropK Mb.id t ms).length c5)
        clear k0 k1 hb0 h hb1 ho5 p1
        go_wp2_with fail
        generalize W4.setCell ⟨W2.heap.size, 1, none⟩ (.slice (some ⟨g5, 0, none⟩) (dropK Mb.id t ms).length c5) = W5 at *
        have hsr := SRow.of_own mbC_len (by decide) hY.2.1
        have HXS := Lib.hid hsr
        have gx := hY.1.cell 1
        have HRS := Lib.hid (show Rise Mb.id (dropK Mb.id t ms) from drop_rise HV.out.r1)
        have HRO := Lib.hid (show ∀ x ∈ dropK Mb.id t ms, 0 ≤ x.role ∧ x.role ≤ 3 from fun x hx => by
          have := (HV.out.s1 x (drop_mem.1 hx).1).1
          simp only [mbB, roleB, Bool.and_eq_true, decide_eq_true_eq] at this
          exact this.1)
        have HLN := Lib.hid (show (dropK Mb.id t ms).length ≤ n1 by have := drop_len (k := Mb.id) (t := t) (xs := ms); have := HN1.out; omega)
        have HLS2 := Lib.hid (show ∀ m, bestM (dropK Mb.id t ms) = some m → rz = ⟨o, alter m.id asOwner (dropK Mb.id t ms), vs, bs, true⟩ from fun m hb => by rw [← HZ.out, leaveS, if_pos HC.out, hb])
        clear hsr HZ HC HM HKB gf
        have HP := Lib.hid HPOS.out
        clear HPOS
        generalize dropK Mb.id t ms = ls at *
        have hlz := HP.out
        have hls : ls.length ≤ 1048576 := by have := HLN.out; omega
        go_loopw [7, 8] (fun b i wr => ∃ (k j : Nat), b = .int .i64 k ∧ i = .int .i64 j ∧ 1 ≤ j ∧ j ≤ ls.length ∧ Hid (BestAt ls j k) ∧ Hid (∃ q, wr = W5.drewN q)) (fun _ i _ => ls.length - (intOf i).toNat)
        case atStart => exact ⟨0, 1, rfl, rfl, by omega, by omega, Lib.hid (BestAt.one (List.getElem?_eq_getElem hlz)), Lib.hid ⟨0, rfl⟩⟩
        case round =>
          obtain ⟨k, j, rfl, rfl, hj1, hj2, HBK, HW⟩ := hrel
          have l1 : wr.cell? ⟨W2.heap.size, 1, none⟩ = some (.slice (some ⟨g5, 0, none⟩) ls.length c5) := by obtain ⟨q, hq⟩ := HW.out; rw [hq]; exact gx
          have hSw : SRow 4 mbC wr W5.heap.size (some ⟨g5, 0, none⟩) ls.length ls := by obtain ⟨q, hq⟩ := HW.out; rw [hq]; exact HXS.out
          by_cases hlt : j < ls.length
          · have hlt' : decide ((j : Int) < (ls.length : Int)) = true := decide_eq_true (by omega)
            obtain ⟨m, hkm, hbm⟩ := HBK.out
            have hkl : k < ls.length := (List.getElem?_eq_some_iff.1 hkm).1
            obtain ⟨z, hz⟩ : ∃ z, ls[j]? = some z := ⟨_, List.getElem?_eq_getElem hlt⟩
            have XZZ := Lib.hid (rowS_range hSw hz)
            have XMM := Lib.hid (rowS_range hSw hkm)
            have hp1 : (0 : Int) ≤ (j : Int) := by omega
            have hp2 : (j : Int) < (ls.length : Int) := by omega
            have hp3 : (0 : Int) ≤ (k : Int) := by omega
            have hp4 : (k : Int) < (ls.length : Int) := by omega
            cases hr : rankLt z m with
            | true =>
              have HS := Lib.hid (HBK.out.yes hkm hz hr)
              clear hkm hbm hz hSw
              go_wp2
              go_quiet ((go_at_call 59; exact Calls.quiet_atS (l02Before_any g5 (j * 4) g5 (k * 4) z m _ _ (range_dN XZZ.out) (range_dN XMM.out) hr)))
              go_wp2
              go_roundw
              case rel => exact ⟨j, j + 1, rfl, by go_num, by omega, by omega, HS, Lib.hid (by obtain ⟨q, hq⟩ := HW.out; exact exN hq)⟩
              case measure => simp [intOf]; omega
            | false =>
              have HS := Lib.hid (HBK.out.no hkm hz hr)
              clear hkm hbm hz hSw
              go_wp2
              go_quiet ((go_at_call 59; exact Calls.quiet_atS (l02Before_any g5 (j * 4) g5 (k * 4) z m _ _ (range_dN XZZ.out) (range_dN XMM.out) hr)))
              go_wp2
              go_roundw
              case rel => exact ⟨k, j + 1, rfl, by go_num, by omega, by omega, HS, Lib.hid (by obtain ⟨q, hq⟩ := HW.out; exact exN hq)⟩
              case measure => simp [intOf]; omega
          · have hlt' : decide ((j : Int) < (ls.length : Int)) = false := decide_eq_false (by omega)
            obtain ⟨m, hkm, hbm⟩ := HBK.out.full (by omega)
            have hkl : k < ls.length := (List.getElem?_eq_some_iff.1 hkm).1
            have HMX := Lib.hid (heir_max (rise_ne HRS.out) hbm HRO.out)
            have HR := Lib.hid (HLS2.out m hbm)
            have hRM := rowS_range hSw hkm
            have rc : wr.cell? ⟨g5, k * 4 + 1, none⟩ = some (.int .i64 m.role) := hRM 1 _ rfl
            have hYw : OutAt wr.drew W2.heap.size W3.heap.size (w.heap.size + 1).succ (w.heap.size + 1).succ o (.slice (some ⟨g5, 0, none⟩) ls.length c5) (.slice B2 n2 d2) (.slice B3 n3 d3) ls.length n2 n3 ls vs bs := by obtain ⟨q, hq⟩ := HW.out; rw [hq]; exact hY
            have kw : Blk wr.drew (w.heap.size + 1) 28 #[.bool false, .slice none 0 0, .slice none 0 0, .slice none 0 0] := by obtain ⟨q, hq⟩ := HW.out; rw [hq]; exact kz
            have hbw : Below w.heap.size w wr.drew := by obtain ⟨q, hq⟩ := HW.out; rw [hq]; exact (hbz.trans (Below.mono (drew_below ⟨q, rfl⟩) hbz.size)).drew
            have fz : wr.frozen? ⟨g5, k * 4 + 1, none⟩ = false := hYw.2.1.frozenAt _
            have HSW := Lib.hid (show SRow 4 mbC wr.drew W5.heap.size (some ⟨g5, 0, none⟩) ls.length ls from hSw)
            have hZ := hYw.stored (i := 1) (z' := asOwner m) (u := .int .i64 3) hkm (by decide) (by simp [asOwner, mbC])
            rw [set_alter asOwner HRS.out hkm] at hZ
            have kZ := kw.far (p := ⟨g5, k * 4 + 1, none⟩) (show w.heap.size + 1 ≠ g5 by omega) (.int .i64 3)
            have hbZ := hbw.setCell (p := ⟨g5, k * 4 + 1, none⟩) (show w.heap.size ≤ g5 by omega) (.int .i64 3)
            have HZZ := Lib.hid (And.intro hZ (And.intro kZ hbZ))
            have hp3 : (0 : Int) ≤ (k : Int) := by omega
            have hp4 : (k : Int) < (ls.length : Int) := by omega
            clear hYw kw hbw hZ kZ hbZ hkm hbm hSw hRM hY kz hbz
            go_wp2
            refine wp_region_held_drew (S := fun w' => w'.cell? ⟨W2.heap.size, 1, none⟩ = some (.slice (some ⟨g5, 0, none⟩) ls.length c5)) (by kernel_rfl) ?_ (fun hHeld => ?_)
            · exact l1
            refine wpAnyH_take (i := 0) (v := ?_) rfl (by kernel_rfl) (by kernel_rfl) (by kernel_rfl) (fun _ _ _ h => h) (Or.inl ⟨by rfl, ?_⟩) (by assumption) ?_
            rotate_left
            · (intro w hSw; (try dsimp only at hSw); go_simp; try with_reducible rfl)
            (try simp only [Act.put, List.setIfInBounds_toArray])
            refine wpAnyH_take (i := 1) (v := ?_) rfl (by kernel_rfl) (by kernel_rfl) (by kernel_rfl) (fun _ _ _ h => h) (Or.inl ⟨by rfl, ?_⟩) (by assumption) ?_
            rotate_left
            · (intro w hSw; (try dsimp only at hSw); go_simp; try with_reducible rfl)
            (try simp only [Act.put])
            refine wpAnyH_take (i := 2) (v := ?_) rfl (by kernel_rfl) (by kernel_rfl) (by kernel_rfl) (fun _ _ _ h => h) (Or.inl ⟨by rfl, ?_⟩) (by assumption) ?_
            rotate_left
            · (intro w hSw; (try dsimp only at hSw); go_simp; try with_reducible rfl)
            (try simp only [Act.put])
            refine wpAnyH_take (i := 3) (v := ?_) rfl (by kernel_rfl) (by kernel_rfl) (by kernel_rfl) (fun _ _ _ h => h) (Or.inl ⟨by rfl, ?_⟩) (by assumption) ?_
            rotate_left
            · (intro w hSw; (try dsimp only at hSw); go_simp; try with_reducible rfl)
            (try simp only [Act.put])
            refine wpAnyH_take (i := 4) (v := ?_) rfl (by kernel_rfl) (by kernel_rfl) (by kernel_rfl) (fun _ _ _ h => h) (Or.inl ⟨by rfl, ?_⟩) (by assumption) ?_
            rotate_left
            · (intro w hSw; (try dsimp only at hSw); go_simp; try with_reducible rfl)
            (try simp only [Act.put])
            refine wpAnyH_take (i := 5) (v := ?_) rfl (by kernel_rfl) (by kernel_rfl) (by kernel_rfl) (fun _ _ _ h => h) (Or.inl ⟨by rfl, ?_⟩) (by assumption) ?_
            rotate_left
            · (intro w hSw; (try dsimp only at hSw); go_simp; try with_reducible rfl)
            (try simp only [Act.put])
            refine wpAnyH_take (i := 6) (v := ?_) rfl (by kernel_rfl) (by kernel_rfl) (by kernel_rfl) (fun _ _ _ h => h) (Or.inl ⟨by rfl, ?_⟩) (by assumption) ?_
            rotate_left
            · (intro w hSw; (try dsimp only at hSw); go_simp; try with_reducible rfl)
            (try simp only [Act.put])
            refine wpAnyH_take (i := 7) (v := ?_) rfl (by kernel_rfl) (by kernel_rfl) (by kernel_rfl) (fun _ _ _ h => h) (Or.inl ⟨by rfl, ?_⟩) (by assumption) ?_
            rotate_left
            · (intro w hSw; (try dsimp only at hSw); go_simp; try with_reducible rfl)
            (try simp only [Act.put])
            refine wpAnyH_take (i := 9) (v := ?_) rfl (by kernel_rfl) (by kernel_rfl) (by kernel_rfl) (fun _ _ _ h => h) (Or.inl ⟨by rfl, ?_⟩) (by assumption) ?_
            rotate_left
            · (intro w hSw; (try dsimp only at hSw); go_simp; try with_reducible rfl)
            (try simp only [Act.put])
            refine wpAnyH_take (i := 10) (v := ?_) rfl (by kernel_rfl) (by kernel_rfl) (by kernel_rfl) (fun _ _ _ h => h) (Or.inl ⟨by rfl, ?_⟩) (by assumption) ?_
            rotate_left
            · (intro w hSw; (try dsimp only at hSw); go_simp; try with_reducible rfl)
            (try simp only [Act.put])
            refine wpAnyH_ready (rs := [8, 11]) (by kernel_rfl) (by simp) ?_
            refine AllReadyH.cons rfl (fun K hK => ?_) (AllReadyH.cons rfl (fun K hK => ?_) AllReadyH.nil)
            rotate_left
            · go_simp
              try (go_at_call 61; refine (l02Heir_any _ _ _ _ _ _ HSW.out hls).mono ?_; rintro e w' ⟨rfl, rfl⟩)
              try go_wp2_with fail
              refine hK.out _ _ ?_ (fun hHeld => ?_)
              · exact l1
              clear hK K
              (try simp only [Act.put, List.setIfInBounds_toArray, List.set_cons_zero, List.set_cons_succ])
              refine wpAnyH_ready (rs := [8]) (by kernel_rfl) (by simp) ?_
              refine AllReadyH.cons rfl (fun K hK => ?_) AllReadyH.nil
              go_simp
              refine hK.out _ _ ?_ (fun hHeld => ?_)
              · exact l1
              clear hK K
              (try simp only [Act.put, List.setIfInBounds_toArray, List.set_cons_zero, List.set_cons_succ])
              refine wpAnyH_ready (rs := [12]) (by kernel_rfl) (by simp) ?_
              refine AllReadyH.cons rfl (fun K hK => ?_) AllReadyH.nil
              go_simp
              try (go_at_call 60; refine (l00Max_any _ _ _).mono ?_; rw [HMX.out]; rintro e w' ⟨rfl, rfl⟩)
              try go_wp2_with fail
              refine hK.out _ _ ?_ (fun hHeld => ?_)
              · exact l1
              clear hK K
              (try simp only [Act.put, List.setIfInBounds_toArray, List.set_cons_zero, List.set_cons_succ])
              refine wpAnyH_take (i := 13) (v := ?_) rfl (by kernel_rfl) (by kernel_rfl) (by kernel_rfl) (fun _ _ _ h => h) (Or.inl ⟨by rfl, ?_⟩) (by assumption) ?_
              rotate_left
              · (intro w hSw; (try dsimp only at hSw); go_simp; try with_reducible rfl)
              (try simp only [Act.put, List.setIfInBounds_toArray])
              refine wpAnyH_take (i := 14) (v := ?_) rfl (by kernel_rfl) (by kernel_rfl) (by kernel_rfl) (fun _ _ _ h => h) (Or.inl ⟨by rfl, ?_⟩) (by assumption) ?_
              rotate_left
              · (intro w hSw; (try dsimp only at hSw); go_simp; try with_reducible rfl)
              (try simp only [Act.put])
              refine wpAnyH_ready (rs := [15]) (by kernel_rfl) (by simp) ?_
              refine AllReadyH.cons rfl (fun K hK => ?_) AllReadyH.nil
              go_simp
              refine hK.out _ _ ?_ (fun hHeld => ?_)
              · exact HZZ.out.1.1.cell 1
              clear hK K
              (try simp only [Act.put, List.setIfInBounds_toArray, List.set_cons_zero, List.set_cons_succ])
              refine wpAnyH_done (by kernel_rfl) ?_ _
              obtain ⟨hZ, kZ, hbZ⟩ := HZZ.out
              clear HZZ HSW rc fz l1
              clear hHeld
              have eW : wr.drew.setCell ⟨g5, k * 4 + 1, none⟩ (.int .i64 3) = (wr.setCell ⟨g5, k * 4 + 1, none⟩ (.int .i64 3)).drew := rfl
              rw [eW] at hZ kZ hbZ
              clear eW
              generalize (wr.setCell ⟨g5, k * 4 + 1, none⟩ (.int .i64 3)).drew = W6 at *
              have s0 : W6.cell? ⟨W2.heap.size, 0, none⟩ = some (.bool o) := hZ.1.cell 0
              have s1 : W6.cell? ⟨W2.heap.size, 1, none⟩ = some (.slice (some ⟨g5, 0, none⟩) ls.length c5) := hZ.1.cell 1
              have s2 : W6.cell? ⟨W2.heap.size, 2, none⟩ = some (.slice B2 n2 d2) := hZ.1.cell 2
              have s3 : W6.cell? ⟨W2.heap.size, 3, none⟩ = some (.slice B3 n3 d3) := hZ.1.cell 3
              have r0 : W6.cell? ⟨w.heap.size + 1, 0, none⟩ = some (.bool false) := kZ.cell 0
              have r1 : W6.cell? ⟨w.heap.size + 1, 1, none⟩ = some (.slice none 0 0) := kZ.cell 1
              have r2 : W6.cell? ⟨w.heap.size + 1, 2, none⟩ = some (.slice none 0 0) := kZ.cell 2
              have r3 : W6.cell? ⟨w.heap.size + 1, 3, none⟩ = some (.slice none 0 0) := kZ.cell 3
              have f0 := kZ.frozen 0; have f1 := kZ.frozen 1; have f2 := kZ.frozen 2; have f3 := kZ.frozen 3
              have hRO := hZ.room (base := (w.heap.size + 1).succ) (show (w.heap.size + 1).succ ≤ W3.heap.size by omega) (Nat.le_refl _) (Nat.le_refl _)
              have hnn : ls.length + n2 + n3 ≤ 1048576 := by have := HLN.out; omega
              clear hZ
              go_wp2
              refine bodyPost_ret (v := .tuple #[.agg #[.bool o, .slice (some ⟨g5, 0, none⟩) ls.length c5, .slice B2 n2 d2, .slice B3 n3 d3], .bool true]) (by simp [results, Tryz.results20, go_sem, r0, r1, r2, r3]) rfl ?_
              rw [HR.out]
              exact roomOut_yes (r := ⟨o, alter m.id asOwner ls, vs, bs, true⟩) ((hRO.far4 kZ _ _ _ _ _ _ _ _).mono (by omega)) (below_set4 hbZ (Nat.le_succ _) _ _ _ _ _ _ _ _) hnn
            · go_simp
              refine hK.out _ _ ?_ (fun hHeld => ?_)
              · exact l1
              clear hK K
              (try simp only [Act.put, List.setIfInBounds_toArray, List.set_cons_zero, List.set_cons_succ])
              refine wpAnyH_ready (rs := [11]) (by kernel_rfl) (by simp) ?_
              refine AllReadyH.cons rfl (fun K hK => ?_) AllReadyH.nil
              go_simp
              try (go_at_call 61; refine (l02Heir_any _ _ _ _ _ _ HSW.out hls).mono ?_; rintro e w' ⟨rfl, rfl⟩)
              try go_wp2_with fail
              refine hK.out _ _ ?_ (fun hHeld => ?_)
              · exact l1
              clear hK K
              (try simp only [Act.put, List.setIfInBounds_toArray, List.set_cons_zero, List.set_cons_succ])
              refine wpAnyH_ready (rs := [12]) (by kernel_rfl) (by simp) ?_
              refine AllReadyH.cons rfl (fun K hK => ?_) AllReadyH.nil
              go_simp
              try (go_at_call 60; refine (l00Max_any _ _ _).mono ?_; rw [HMX.out]; rintro e w' ⟨rfl, rfl⟩)
              try go_wp2_with fail
              refine hK.out _ _ ?_ (fun hHeld => ?_)
              · exact l1
              clear hK K
              (try simp only [Act.put, List.setIfInBounds_toArray, List.set_cons_zero, List.set_cons_succ])
              refine wpAnyH_take (i := 13) (v := ?_) rfl (by kernel_rfl) (by kernel_rfl) (by kernel_rfl) (fun _ _ _ h => h) (Or.inl ⟨by rfl, ?_⟩) (by assumption) ?_
              rotate_left
              · (intro w hSw; (try dsimp only at hSw); go_simp; try with_reducible rfl)
              (try simp only [Act.put, List.setIfInBounds_toArray])
              refine wpAnyH_take (i := 14) (v := ?_) rfl (by kernel_rfl) (by kernel_rfl) (by kernel_rfl) (fun _ _ _ h => h) (Or.inl ⟨by rfl, ?_⟩) (by assumption) ?_
              rotate_left
              · (intro w hSw; (try dsimp only at hSw); go_simp; try with_reducible rfl)
              (try simp only [Act.put])
              refine wpAnyH_ready (rs := [15]) (by kernel_rfl) (by simp) ?_
              refine AllReadyH.cons rfl (fun K hK => ?_) AllReadyH.nil
              go_simp
              refine hK.out _ _ ?_ (fun hHeld => ?_)
              · exact HZZ.out.1.1.cell 1
              clear hK K
              (try simp only [Act.put, List.setIfInBounds_toArray, List.set_cons_zero, List.set_cons_succ])
              refine wpAnyH_done (by kernel_rfl) ?_ _
              obtain ⟨hZ, kZ, hbZ⟩ := HZZ.out
              clear HZZ HSW rc fz l1
              clear hHeld
              have eW : wr.drew.setCell ⟨g5, k * 4 + 1, none⟩ (.int .i64 3) = (wr.setCell ⟨g5, k * 4 + 1, none⟩ (.int .i64 3)).drew := rfl
              rw [eW] at hZ kZ hbZ
              clear eW
              generalize (wr.setCell ⟨g5, k * 4 + 1, none⟩ (.int .i64 3)).drew = W6 at *
              have s0 : W6.cell? ⟨W2.heap.size, 0, none⟩ = some (.bool o) := hZ.1.cell 0
              have s1 : W6.cell? ⟨W2.heap.size, 1, none⟩ = some (.slice (some ⟨g5, 0, none⟩) ls.length c5) := hZ.1.cell 1
              have s2 : W6.cell? ⟨W2.heap.size, 2, none⟩ = some (.slice B2 n2 d2) := hZ.1.cell 2
              have s3 : W6.cell? ⟨W2.heap.size, 3, none⟩ = some (.slice B3 n3 d3) := hZ.1.cell 3
              have r0 : W6.cell? ⟨w.heap.size + 1, 0, none⟩ = some (.bool false) := kZ.cell 0
              have r1 : W6.cell? ⟨w.heap.size + 1, 1, none⟩ = some (.slice none 0 0) := kZ.cell 1
              have r2 : W6.cell? ⟨w.heap.size + 1, 2, none⟩ = some (.slice none 0 0) := kZ.cell 2
              have r3 : W6.cell? ⟨w.heap.size + 1, 3, none⟩ = some (.slice none 0 0) := kZ.cell 3
              have f0 := kZ.frozen 0; have f1 := kZ.frozen 1; have f2 := kZ.frozen 2; have f3 := kZ.frozen 3
              have hRO := hZ.room (base := (w.heap.size + 1).succ) (show (w.heap.size + 1).succ ≤ W3.heap.size by omega) (Nat.le_refl _) (Nat.le_refl _)
              have hnn : ls.length + n2 + n3 ≤ 1048576 := by have := HLN.out; omega
              clear hZ
              go_wp2
              refine bodyPost_ret (v := .tuple #[.agg #[.bool o, .slice (some ⟨g5, 0, none⟩) ls.length c5, .slice B2 n2 d2, .slice B3 n3 d3], .bool true]) (by simp [results, Tryz.results20, go_sem, r0, r1, r2, r3]) rfl ?_
              rw [HR.out]
              exact roomOut_yes (r := ⟨o, alter m.id asOwner ls, vs, bs, true⟩) ((hRO.far4 kZ _ _ _ _ _ _ _ _).mono (by omega)) (below_set4 hbZ (Nat.le_succ _) _ _ _ _ _ _ _ _) hnn
end Go.Proofs.YtmnmmjobplbflaaGreatDoor
