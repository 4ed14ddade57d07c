import Derived.Test.YtmnmmjobplbflaaGreatDoorChecked
import Derived.WalkKit
import Derived.ProofKit
import Derived.OpenShut
import Derived.ShutString
import Derived.ChangeOld
import Derived.Below
import Derived.Lib.Hide
import Derived.RegionTactic
import Derived.BigRegion
import Derived.BigQuiet
import Derived.Deep.QuietTactic
import Derived.Test.YtmnmmjobplbflaaGreatDoorZDrawAll
import Derived.Test.YtmnmmjobplbflaaGreatDoorZAllowC
import Derived.Test.YtmnmmjobplbflaaGreatDoorZRoomA
import Derived.Test.YtmnmmjobplbflaaGreatDoorZDeedW
import Derived.Test.YtmnmmjobplbflaaGreatDoorZSameC
import Derived.Test.YtmnmmjobplbflaaGreatDoorZCountC
import Derived.Test.YtmnmmjobplbflaaGreatDoorZRankRk
import Derived.Test.YtmnmmjobplbflaaGreatDoorZCalmQ
import Derived.Test.YtmnmmjobplbflaaGreatDoorJs
namespace Go.Proofs.YtmnmmjobplbflaaGreatDoor
open Go.ChangeShapes Go.WideShapes Go.ChangeAt Go.RowKit
open Go.ChangeMaps (open_string shut_string)
set_option linter.unusedVariables false
set_option maxRecDepth 100000
/-- four numbers that stand one behind another -/
def Four (w : World) (g off : Nat) (a b c d : Int) : Prop := g < w.heap.size ∧ w.cell? ⟨g, off, none⟩ = some (.int .i64 a) ∧ w.cell? ⟨g, off + 1, none⟩ = some (.int .i64 b) ∧ w.cell? ⟨g, off + 2, none⟩ = some (.int .i64 c) ∧ w.cell? ⟨g, off + 3, none⟩ = some (.int .i64 d)
theorem Four.to {w w' : World} {g off : Nat} {a b c d : Int} (h : Four w g off a b c d) (hb : Below w.heap.size w w') : Four w' g off a b c d :=
  ⟨Nat.lt_of_lt_of_le h.1 hb.size, (hb.cell (p := ⟨g, off, none⟩) h.1).trans h.2.1, (hb.cell (p := ⟨g, off + 1, none⟩) h.1).trans h.2.2.1, (hb.cell (p := ⟨g, off + 2, none⟩) h.1).trans h.2.2.2.1, (hb.cell (p := ⟨g, off + 3, none⟩) h.1).trans h.2.2.2.2⟩
theorem four_of {w : World} {A : Option Addr} {n : Nat} {a b c d : Int} (h : Row i64v w w.heap.size A n [a, b, c, d]) : n = 4 ∧ ∃ g off, A = some ⟨g, off, none⟩ ∧ Four w g off a b c d := by
  have hn : n = 4 := by simpa using h.1.symm
  subst hn
  obtain ⟨g, off, z0, hA, hg, hz0, d0⟩ := h.ati (k := 0) (by omega)
  obtain ⟨g1, off1, z1, hA1, _, hz1, d1⟩ := h.ati (k := 1) (by omega)
  obtain ⟨g2, off2, z2, hA2, _, hz2, d2⟩ := h.ati (k := 2) (by omega)
  obtain ⟨g3, off3, z3, hA3, _, hz3, d3⟩ := h.ati (k := 3) (by omega)
  rw [hA] at hA1 hA2 hA3
  simp only [Option.some.injEq, Addr.mk.injEq, and_true] at hA1 hA2 hA3
  obtain ⟨rfl, rfl⟩ := hA1
  obtain ⟨rfl, rfl⟩ := hA2
  obtain ⟨rfl, rfl⟩ := hA3
  simp at hz0 hz1 hz2 hz3
  subst hz0 hz1 hz2 hz3
  exact ⟨rfl, g, off, hA, hg, d0, d1, d2, d3⟩
theorem roles_len : ∀ (ms : List Mb), (∀ m ∈ ms, roleB m.role = true) → (ms.filter fun m => m.role == 0).length + (ms.filter fun m => m.role == 1).length + (ms.filter fun m => m.role == 2).length + (ms.filter fun m => m.role == 3).length = ms.length
  | [], _ => rfl
  | m :: r, h => by
    have ih := roles_len r fun x hx => h x (List.mem_cons_of_mem _ hx)
    rcases role_or (h m List.mem_cons_self) with e | e | e | e <;> simp [e] <;> omega
theorem cnt_facts {ms : List Mb} {vs : List Iv} {bs : List Bn} (h : RoomV ms vs bs) : ∃ a b c d : Int, cntL ms = [a, b, c, d] ∧ a + b + c + d = (ms.length : Nat) ∧ 0 ≤ a ∧ 0 ≤ b ∧ 0 ≤ c ∧ 1 ≤ d := by
  refine ⟨_, _, _, _, rfl, ?_, ?_, ?_, ?_, ?_⟩
  · have := roles_len ms fun m hm => by
      have := (h.s1 m hm).1
      simp only [mbB, Bool.and_eq_true] at this
      exact this.1
    unfold cR
    rw [List.take_length]
    omega
  · exact (cR_bd _ _ _).1
  · exact (cR_bd _ _ _).1
  · exact (cR_bd _ _ _).1
  · obtain ⟨m, hm, hr⟩ := h.o1
    unfold cR
    rw [List.take_length]
    have : 0 < (ms.filter fun m => m.role == 3).length := List.length_pos_of_mem (List.mem_filter.2 ⟨hm, by simp [hr]⟩)
    omega
set_option maxHeartbeats 12800000 in
theorem walk_all {w : World} {a b : Addr} (he0 : ErrN w a) (hR0 : ErrR w b) (A : Option Addr) (n c : Nat) (A' : Option Addr) (n' c' : Nat) (ys ys' : List Nat) (h : Row u8v w w.heap.size A n ys) (hz : ∀ z ∈ ys, z < 256) (h' : Row u8v w w.heap.size A' n' ys') (hz' : ∀ z ∈ ys', z < 256) :
    Calls Tryz.prog 4 #[.slice A n c, .slice A' n' c'] w fun e w' => e = .returned (.bool true) ∧ Below w.heap.size w w' := by
  by_cases hl : n ≤ 48 ∧ n' ≤ 48
  · obtain ⟨hl1, hl2⟩ := hl
    go_enter Tryz.func4, Tryz.ntmps4
    go_wp2_with fail
    go_at_call 6; refine (r8Long_no _ _ _ _ _ _ _ hl1 hl2).mono ?_; rintro e w1 ⟨rfl, rfl⟩
    go_wp2_with fail
    go_at_call 7; refine (R8Room_any A n c ys _ _ h (Nat.le_refl _) hz).mono ?_; rintro e w2 ⟨o, A1, n1, c1, A2, n2, c2, A3, n3, c3, ms, vs, bs, rfl, ho, ⟨hV, hF⟩, hb⟩
    have hr := ho.at_
    have h' := h'.to hb
    have hq1 := hr.1.1; have hq2 := hr.2.1.1; have hq3 := hr.2.2.1
    have hn : n1 + n2 + n3 ≤ 1048576 := by have := hV.l1; have := hV.l2; have := hV.l3; omega
    have hm1 : n1 ≤ 6 := by have := hF.1; omega
    have HB := Lib.hid (roomB_iff.2 hV)
    have HV := Lib.hid hV
    have HN1 := Lib.hid hq1
    clear hq1 hq2 hq3 hV hF h ho hz
    go_wp2_with fail
    obtain ⟨k0, hb1⟩ := one_box w2 28 #[.bool o, .slice A1 n1 c1, .slice A2 n2 c2, .slice A3 n3 c3]
    have hr := hr.to hb1
    have h' := h'.below hb1
    have hb := hb.trans (hb1.mono hb.size)
    generalize w2.alloc (.cells #[.bool o, .slice A1 n1 c1, .slice A2 n2 c2, .slice A3 n3 c3] 28) = w3 at *
    clear hb1
    go_at_call 8; refine (r8At_any A' n' c' _ ys' 0 40 _ h' hz' (by decide) (by decide) (by decide) hl2).mono ?_; rintro e w4 ⟨at_, rfl, at0, at1, rfl⟩
    clear h' hz'
    have HT := Lib.hid (show tickB at_ = true by simp [tickB]; omega)
    obtain ⟨r1, hr1⟩ : ∃ z, sweepS o ms vs bs at_ = z := ⟨_, rfl⟩
    have H1 := Lib.hid hr1
    have E1 := Lib.hid (show r1 = ⟨o, ms.map (hush at_), swI at_ vs, swB at_ bs, true⟩ by rw [← hr1]; exact sweep_eq HV.out HT.out)
    clear hr1
    obtain ⟨r2, hr2⟩ : ∃ z, sweepS r1.o r1.ms r1.vs r1.bs at_ = z := ⟨_, rfl⟩
    have H2 := Lib.hid hr2
    have E2 := Lib.hid (show r2 = r1 by rw [← hr2, E1.out]; exact sweep_two HV.out HT.out)
    clear hr2
    have ok1 : r1.ok = true := by rw [E1.out]
    have ok2 : r2.ok = true := by rw [E2.out, E1.out]
    have HVS := Lib.hid (show roomB r1.ms r1.vs r1.bs = true by rw [E1.out]; exact roomB_iff.2 (swept_valid HV.out))
    have HSM := Lib.hid (show sameRB r2.o r1.o r2.ms r1.ms r2.vs r1.vs r2.bs r1.bs = true by rw [E2.out]; simp [sameRB])
    obtain ⟨zs, hzs, hpm, hso⟩ := rank_list HV.out
    have HZ := Lib.hid (show rkL ms = zs.map Mb.id by unfold rkL; rw [hzs])
    have HZL := Lib.hid hpm.length_eq
    have HRK := Lib.hid (show ∀ (k : Nat) (z : Mb), zs[k]? = some z → z.id ∈ mids ms ∧ roleAt ms z.id = z.role ∧ z.role ≤ lastK zs k ∧ lastK zs (k + 1) = z.role ∧ 1 ≤ z.id ∧ z.id ≤ 1000 from fun k z hz => rank_at HV.out hpm hso hz)
    clear hzs hpm hso
    obtain ⟨ca, cb, cc, cd, hcl, hsum, ca0, cb0, cc0, cd1⟩ := cnt_facts HV.out
    have HC := Lib.hid hcl
    rw [HN1.out] at hsum
    have hw1 : IntKind.i64.wrap (ca + cb) = ca + cb := IntWalk.i64_in _ (by omega)
    have hw2 : IntKind.i64.wrap (ca + cb + cc) = ca + cb + cc := IntWalk.i64_in _ (by omega)
    have hw3 : IntKind.i64.wrap (ca + cb + cc + cd) = ca + cb + cc + cd := IntWalk.i64_in _ (by omega)
    have hcs : (ca + cb + cc + cd != (n1 : Int)) = false := by rw [hsum]; simp
    have hcd : decide (cd < 1) = false := decide_eq_false (by omega)
    have hcd' : ¬ cd < 1 := by omega
    clear hcl
    have k00 := k0.cell 0; have k01 := k0.cell 1; have k02 := k0.cell 2; have k03 := k0.cell 3; have k0t := k0.lt
    go_wp2_with fail
    clear k00 k01 k02 k03 k0t
    go_at_call 14; refine (impl_SweepRoom_any _ _ _ _ _ _ _ _ _ _ _ _ _ _ _ hr hn (hR0.below hb)).mono ?_; rw [H1.out]; rintro e v1 ⟨S1, Sn1, Sc1, S2, Sn2, Sc2, S3, Sn3, Sc3, rfl, hos, hb1, nhos⟩
    have k0 := k0.below hb1 k0.lt
    have hr := hr.to hb1
    have hb := hb.trans (hb1.mono hb.size)
    clear hb1
    go_wp2_with fail
    obtain ⟨ks, hb1⟩ := one_box v1 28 #[.bool r1.o, .slice S1 Sn1 Sc1, .slice S2 Sn2 Sc2, .slice S3 Sn3 Sc3]
    generalize v1.alloc (.cells #[.bool r1.o, .slice S1 Sn1 Sc1, .slice S2 Sn2 Sc2, .slice S3 Sn3 Sc3] 28) = v2 at *
    have k0 := k0.below hb1 k0.lt
    have hos := hos.below hb1 (Nat.le_refl _)
    have hr := hr.to hb1
    have hb := hb.trans (hb1.mono hb.size)
    clear hb1
    go_at_call 14; refine (impl_SweepRoom_any _ _ _ _ _ _ _ _ _ _ _ _ _ _ _ hos.at_ nhos (hR0.below hb)).mono ?_; rw [H2.out]; rintro e v3 ⟨Q1, Qn1, Qc1, Q2, Qn2, Qc2, Q3, Qn3, Qc3, rfl, hoq, hb1, nhoq⟩
    have k0 := k0.below hb1 k0.lt
    have ks := ks.below hb1 ks.lt
    have hos := hos.below hb1 (Nat.le_refl _)
    have hr := hr.to hb1
    have hb := hb.trans (hb1.mono hb.size)
    clear hb1
    have k00 := k0.cell 0; have k01 := k0.cell 1; have k02 := k0.cell 2; have k03 := k0.cell 3; have k0t := k0.lt
    go_wp2_with fail
    clear k00 k01 k02 k03 k0t
    obtain ⟨kq, hb1⟩ := one_box v3 28 #[.bool r2.o, .slice Q1 Qn1 Qc1, .slice Q2 Qn2 Qc2, .slice Q3 Qn3 Qc3]
    generalize v3.alloc (.cells #[.bool r2.o, .slice Q1 Qn1 Qc1, .slice Q2 Qn2 Qc2, .slice Q3 Qn3 Qc3] 28) = v4 at *
    have k0 := k0.below hb1 k0.lt
    have ks := ks.below hb1 ks.lt
    have hos := hos.below hb1 (Nat.le_refl _)
    have hoq := hoq.below hb1 (Nat.le_refl _)
    have hr := hr.to hb1
    have hb := hb.trans (hb1.mono hb.size)
    clear hb1
    go_at_call 15; refine (impl_RanksOf_any _ _ _ _ _ _ _ _ _ _ _ _ _ _ hr hn).mono ?_; rw [HB.out]; rintro e v5 ⟨V, Vn, Vc, Vz, rfl, hVz, hov, hb1⟩
    have k0 := k0.below hb1 k0.lt
    have ks := ks.below hb1 ks.lt
    have kq := kq.below hb1 kq.lt
    have hos := hos.below hb1 (Nat.le_refl _)
    have hoq := hoq.below hb1 (Nat.le_refl _)
    have hr := hr.to hb1
    have hb := hb.trans (hb1.mono hb.size)
    clear hb1
    rw [if_pos rfl, HZ.out] at hVz
    subst hVz
    have hrv := Row.of_own_any hov
    clear hov
    obtain rfl : n1 = Vn := by have e := hrv.1; rw [List.length_map, HZL.out] at e; exact HN1.out.symm.trans e
    have k00 := k0.cell 0; have k01 := k0.cell 1; have k02 := k0.cell 2; have k03 := k0.cell 3; have k0t := k0.lt
    go_wp2_with fail
    clear k00 k01 k02 k03 k0t
    go_at_call 16; refine (impl_CountRoles_any _ _ _ _ _ _ _ _ _ _ _ _ _ _ hr hn).mono ?_; rw [HB.out]; rintro e v6 ⟨C, Cn, Cc, Cz, rfl, hCz, hoc, hb1⟩
    have hrv := hrv.to hb1
    have k0 := k0.below hb1 k0.lt
    have ks := ks.below hb1 ks.lt
    have kq := kq.below hb1 kq.lt
    have hos := hos.below hb1 (Nat.le_refl _)
    have hoq := hoq.below hb1 (Nat.le_refl _)
    have hr := hr.to hb1
    have hb := hb.trans (hb1.mono hb.size)
    clear hb1
    rw [if_pos rfl, HC.out] at hCz
    subst hCz
    have hrc := Row.of_own_any hoc
    clear hoc
    obtain ⟨rfl, cg, co, rfl, hc4⟩ := four_of hrc
    clear hrc
    have C1 : ∀ s : Gr v6, Calls Tryz.prog 17 #[.agg #[.bool r2.o, .slice Q1 Qn1 Qc1, .slice Q2 Qn2 Qc2, .slice Q3 Qn3 Qc3], .agg #[.bool r1.o, .slice S1 Sn1 Sc1, .slice S2 Sn2 Sc2, .slice S3 Sn3 Sc3]] s.u fun e w' => e = .returned (.bool true) ∧ Below s.u.heap.size s.u w' := fun s => by
      have hh := impl_SameRoom_any r2.o Q1 Q2 Q3 Qn1 Qc1 Qn2 Qc2 Qn3 Qc3 r2.ms r2.vs r2.bs r1.o S1 S2 S3 Sn1 Sc1 Sn2 Sc2 Sn3 Sc3 r1.ms r1.vs r1.bs s.u (hoq.at_.to s.hb) (hos.at_.to s.hb) nhoq nhos
      rw [HSM.out] at hh
      exact hh
    have C2 : ∀ s : Gr v6, Calls Tryz.prog 12 #[.agg #[.bool r1.o, .slice S1 Sn1 Sc1, .slice S2 Sn2 Sc2, .slice S3 Sn3 Sc3]] s.u fun e w' => e = .returned (.bool true) ∧ Below s.u.heap.size s.u w' := fun s => by
      have hh := impl_ValidRoom_any r1.o S1 S2 S3 Sn1 Sc1 Sn2 Sc2 Sn3 Sc3 r1.ms r1.vs r1.bs s.u (hos.at_.to s.hb) nhos
      rw [HVS.out] at hh
      exact hh
    have HD := Lib.hid (show ∀ s : Gr v6, Four s.u cg co ca cb cc cd from fun s => hc4.to s.hb)
    have g0 := fun s : Gr v6 => (kq.below s.hb kq.lt).cell 0
    have g1 := fun s : Gr v6 => (kq.below s.hb kq.lt).cell 1
    have g2 := fun s : Gr v6 => (kq.below s.hb kq.lt).cell 2
    have g3 := fun s : Gr v6 => (kq.below s.hb kq.lt).cell 3
    have g4 := fun s : Gr v6 => (ks.below s.hb ks.lt).cell 0
    have g5 := fun s : Gr v6 => (ks.below s.hb ks.lt).cell 1
    have g6 := fun s : Gr v6 => (ks.below s.hb ks.lt).cell 2
    have g7 := fun s : Gr v6 => (ks.below s.hb ks.lt).cell 3
    have g8 := fun s : Gr v6 => (k0.below s.hb k0.lt).cell 1
    have ga := fun s : Gr v6 => (HD.out s).2.1
    have gb := fun s : Gr v6 => (HD.out s).2.2.1
    have gc := fun s : Gr v6 => (HD.out s).2.2.2.1
    have gd := fun s : Gr v6 => (HD.out s).2.2.2.2
    go_wp2_with fail
    simp only [List.append_eq, List.cons_append, List.nil_append]
    refine wp_region_calm (w0 := v6) (by kernel_rfl) (by kernel_rfl) (Below.refl _ _).drew ?_
    repeat (go_big_quiet_step ((first | (go_at_call 17; exact calm_of (C1 _)) | (go_at_call 12; exact calm_of (C2 _)))))
    refine wpQuiet_nil ?_
    intro _ hw'
    obtain ⟨s7, hw''⟩ := hw'
    subst hw''
    have hb1 := s7.hb
    clear C1 C2 HD g0 g1 g2 g3 g4 g5 g6 g7 g8 ga gb gc gd
    clear hc4
    have hrv := hrv.to hb1
    have k0 := k0.below hb1 k0.lt
    have ks := ks.below hb1 ks.lt
    have kq := kq.below hb1 kq.lt
    have hos := hos.below hb1 (Nat.le_refl _)
    have hoq := hoq.below hb1 (Nat.le_refl _)
    have hr := hr.to hb1
    have hb := hb.trans (hb1.mono hb.size)
    clear hb1
    generalize s7.u = vs7 at *
    have p2 := ks.cell 2; have p3 := ks.cell 3
    have hsv := hos.at_.2.1; have hsb := hos.at_.2.2
    go_wp2
    go_loop [15] (fun i => ∃ k : Nat, k ≤ Sn2 ∧ i = .int .i64 k) (fun i => Sn2 - (intOf i).toNat)
    case atStart => exact ⟨0, by omega, rfl⟩
    case round =>
      obtain ⟨k, hk, rfl⟩ := hrel
      by_cases hlt : k < Sn2
      · have hlt' : decide ((k : Int) < (Sn2 : Int)) = true := decide_eq_true (by omega)
        obtain ⟨b2, off2, y, rfl, _, hy, c0, c1, c2⟩ := hsv.ativ hlt
        have hnl : ¬ y.til < at_ := by have hy2 := hy; rw [E1.out] at hy2; exact swI_at hy2
        have hnl' : decide (y.til < at_) = false := decide_eq_false hnl
        have hp : (0 : Int) ≤ (k : Int) := by omega
        have hp2 : (k : Int) < (Sn2 : Int) := by omega
        clear hy
        go_wp2
        go_round
        case rel => exact ⟨k + 1, by omega, by go_num⟩
        case measure => simp [intOf]; omega
      · have hlt' : decide ((k : Int) < (Sn2 : Int)) = false := decide_eq_false (by omega)
        go_wp2
        clear hlt
        go_loop [16] (fun i => ∃ k : Nat, k ≤ Sn3 ∧ i = .int .i64 k) (fun i => Sn3 - (intOf i).toNat)
        case atStart => exact ⟨0, by omega, rfl⟩
        case round =>
          obtain ⟨k, hk, rfl⟩ := hrel
          by_cases hlt : k < Sn3
          · have hlt' : decide ((k : Int) < (Sn3 : Int)) = true := decide_eq_true (by omega)
            obtain ⟨b2, off2, y, rfl, _, hy, c0, c1⟩ := hsb.atbn hlt
            have hnl : ¬ y.til < at_ := by have hy2 := hy; rw [E1.out] at hy2; exact swB_at hy2
            have hnl' : decide (y.til < at_) = false := decide_eq_false hnl
            have hp : (0 : Int) ≤ (k : Int) := by omega
            have hp2 : (k : Int) < (Sn3 : Int) := by omega
            clear hy
            go_wp2
            go_round
            case rel => exact ⟨k + 1, by omega, by go_num⟩
            case measure => simp [intOf]; omega
          · have hlt' : decide ((k : Int) < (Sn3 : Int)) = false := decide_eq_false (by omega)
            go_wp2
            clear hlt
            clear p2 p3 hsv hsb
            go_loopw [17] (fun i wr => ∃ t : Nat, 1 ≤ t ∧ t ≤ 7 ∧ i = .int .i64 t ∧ Below vs7.heap.size vs7 wr) (fun i _ => 7 - (intOf i).toNat)
            case atStart => exact ⟨1, by omega, by omega, rfl, Below.refl _ _⟩
            case round =>
              obtain ⟨t, ht1, ht7, rfl, hb1⟩ := hrel
              by_cases ht6 : t ≤ 6
              · have ht6' : decide ((t : Int) ≤ 6) = true := decide_eq_true (by omega)
                have wft : (Lit.int .i64 (t : Int)).wf = true := by simp [Lit.wf, IntKind.min, IntKind.max, IntKind.bits, IntKind.signed]; omega
                go_wp2
                go_loopw [18] (fun i wz => ∃ ac : Nat, ac ≤ 9 ∧ i = .int .i64 ac ∧ Below vs7.heap.size vs7 wz) (fun i _ => 9 - (intOf i).toNat)
                case atStart => exact ⟨0, by omega, rfl, hb1⟩
                case round =>
                  obtain ⟨ac, hac, rfl, hb2⟩ := hrel
                  by_cases hac9 : ac < 9
                  · have hac9' : decide ((ac : Int) < 9) = true := decide_eq_true (by omega)
                    obtain ⟨q, hq⟩ : ∃ z, allowB ms (t : Int) (ac : Int) at_ = z := ⟨_, rfl⟩
                    have HQ := Lib.hid hq
                    have HQ2 := Lib.hid (show allowB r1.ms (t : Int) (ac : Int) at_ = q by rw [← hq, E1.out]; exact allow_hush HT.out)
                    clear hq
                    have hrz := hr.to hb2
                    have hsz := hos.at_.to hb2
                    have hbz := hb.trans (hb2.mono hb.size)
                    have kz := k0.below hb2 k0.lt
                    have kx := ks.below hb2 ks.lt
                    have C1 : ∀ s : Gr wr, Calls Tryz.prog 18 #[.agg #[.bool o, .slice A1 n1 c1, .slice A2 n2 c2, .slice A3 n3 c3], .int .i64 (t : Int), .int .i64 (ac : Int), .int .i64 at_] s.u fun e w' => e = .returned (.bool q) ∧ Below s.u.heap.size s.u w' := fun s => by
                      have hh := impl_IsAllowed_any o A1 A2 A3 n1 c1 n2 c2 n3 c3 ms vs bs (t : Int) (ac : Int) at_ _ s.u (hrz.to s.hb) hn (he0.below (hbz.trans (s.hb.mono hbz.size))) wft
                      rw [HB.out, Bool.true_and, HQ.out] at hh
                      exact hh
                    have C2 : ∀ s : Gr wr, Calls Tryz.prog 18 #[.agg #[.bool r1.o, .slice S1 Sn1 Sc1, .slice S2 Sn2 Sc2, .slice S3 Sn3 Sc3], .int .i64 (t : Int), .int .i64 (ac : Int), .int .i64 at_] s.u fun e w' => e = .returned (.bool q) ∧ Below s.u.heap.size s.u w' := fun s => by
                      have hh := impl_IsAllowed_any r1.o S1 S2 S3 Sn1 Sc1 Sn2 Sc2 Sn3 Sc3 r1.ms r1.vs r1.bs (t : Int) (ac : Int) at_ _ s.u (hsz.to s.hb) nhos (he0.below (hbz.trans (s.hb.mono hbz.size))) wft
                      rw [HVS.out, Bool.true_and, HQ2.out] at hh
                      exact hh
                    have g0 := fun s : Gr wr => (kz.below s.hb kz.lt).cell 0
                    have g1 := fun s : Gr wr => (kz.below s.hb kz.lt).cell 1
                    have g2 := fun s : Gr wr => (kz.below s.hb kz.lt).cell 2
                    have g3 := fun s : Gr wr => (kz.below s.hb kz.lt).cell 3
                    have g4 := fun s : Gr wr => (kx.below s.hb kx.lt).cell 0
                    have g5 := fun s : Gr wr => (kx.below s.hb kx.lt).cell 1
                    have g6 := fun s : Gr wr => (kx.below s.hb kx.lt).cell 2
                    have g7 := fun s : Gr wr => (kx.below s.hb kx.lt).cell 3
                    have hqq : (q != q) = false := by simp
                    go_wp2
                    refine wp_region_calm (w0 := wr) (by kernel_rfl) (by kernel_rfl) (Below.refl _ _).drew ?_
                    repeat (go_big_quiet_step (fail))
                    go_big_quiet_step ((go_at_call 18; exact calm_of (C1 _)))
                    repeat (go_big_quiet_step (fail))
                    go_big_quiet_step ((go_at_call 18; exact calm_of (C2 _)))
                    repeat (go_big_quiet_step (fail))
                    refine wpQuiet_nil ?_
                    intro _ hw'
                    obtain ⟨s7, hw''⟩ := hw'
                    subst hw''
                    have hb7 := hb2.trans (s7.hb.mono hb2.size)
                    clear g0 g1 g2 g3 g4 g5 g6 g7 C1 C2
                    go_wp2
                    go_roundw
                    case rel => exact ⟨ac + 1, by omega, by go_num, hb7⟩
                    case measure => simp [intOf]; omega
                  · have hac9' : decide ((ac : Int) < 9) = false := decide_eq_false (by omega)
                    go_wp2
                    go_roundw
                    case rel => exact ⟨t + 1, by omega, by omega, by go_num, hb2⟩
                    case measure => simp [intOf]; omega
              · have ht6' : decide ((t : Int) ≤ 6) = false := decide_eq_false (by omega)
                have hrv := hrv.to hb1
                have k0 := k0.below hb1 k0.lt
                have hos := hos.below hb1 (Nat.le_refl _)
                have hr := hr.to hb1
                have hb := hb.trans (hb1.mono hb.size)
                clear hb1
                go_wp2
                clear ht1 ht7 ht6
                go_loopw [19, 20] (fun l i wz => ∃ k : Nat, k ≤ n1 ∧ i = .int .i64 k ∧ l = .int .i64 (lastK zs k) ∧ Below wr.heap.size wr wz) (fun _ i _ => n1 - (intOf i).toNat)
                case atStart => exact ⟨0, by omega, rfl, rfl, Below.refl _ _⟩
                case round =>
                  obtain ⟨k, hk, rfl, rfl, hb2⟩ := hrel
                  by_cases hlt : k < n1
                  · have hlt' : decide ((k : Int) < (n1 : Int)) = true := decide_eq_true (by omega)
                    have hrz := hr.to hb2
                    have hvz := hrv.to hb2
                    have hbz := hb.trans (hb2.mono hb.size)
                    have kz := k0.below hb2 k0.lt
                    obtain ⟨b2, off2, z, rfl, hbb, hz, c0⟩ := hvz.ati hlt
                    rw [List.getElem?_map] at hz
                    obtain ⟨y, hy, rfl⟩ := Option.map_eq_some_iff.1 hz
                    obtain ⟨f1, f2, f3, f4, f5, f6⟩ := HRK.out k y hy
                    have F2 := Lib.hid f2
                    have F1 := Lib.hid (decide_eq_true f1)
                    have F4 := Lib.hid f4
                    have hgt : decide (y.role > lastK zs k) = false := decide_eq_false (by omega)
                    have hgt2 : decide (lastK zs k < y.role) = false := decide_eq_false (by omega)
                    have hp : (0 : Int) ≤ (k : Int) := by omega
                    have hp2 : (k : Int) < (n1 : Int) := by omega
                    have wfi : (Lit.int .i64 y.id).wf = true := by simp [Lit.wf, IntKind.min, IntKind.max, IntKind.bits, IntKind.signed]; omega
                    have C1 : ∀ s : Gr wr, Calls Tryz.prog 10 #[.agg #[.bool o, .slice A1 n1 c1, .slice A2 n2 c2, .slice A3 n3 c3], .int .i64 y.id] s.u fun e w' => e = .returned (.tuple #[.int .i64 y.role, .bool true]) ∧ Below s.u.heap.size s.u w' := fun s => by
                      have hh := impl_RoleOf_any o A1 A2 A3 n1 c1 n2 c2 n3 c3 ms vs bs y.id _ s.u (hrz.to s.hb) hn (he0.below (hbz.trans (s.hb.mono hbz.size))) wfi
                      rw [if_pos HB.out, HB.out, Bool.true_and, F2.out, F1.out] at hh
                      exact hh
                    have g0 := fun s : Gr wr => (kz.below s.hb kz.lt).cell 0
                    have g1 := fun s : Gr wr => (kz.below s.hb kz.lt).cell 1
                    have g2 := fun s : Gr wr => (kz.below s.hb kz.lt).cell 2
                    have g3 := fun s : Gr wr => (kz.below s.hb kz.lt).cell 3
                    have g4 : ∀ s : Gr wr, s.u.cell? ⟨b2, off2 + k, none⟩ = some (.int .i64 y.id) := fun s => (s.hb.cell (p := ⟨b2, off2 + k, none⟩) hbb).trans c0
                    clear f1 f2 f3 f4 f5 f6 hz hy c0
                    go_wp2
                    refine wp_region_calm (w0 := wr) (by kernel_rfl) (by kernel_rfl) (Below.refl _ _).drew ?_
                    repeat (go_big_quiet_step ((go_at_call 10; exact calm_of (C1 _))))
                    refine wpQuiet_nil ?_
                    intro _ hw'
                    obtain ⟨s7, hw''⟩ := hw'
                    subst hw''
                    have hb7 := hb2.trans (s7.hb.mono hb2.size)
                    clear g0 g1 g2 g3 g4 C1
                    go_wp2
                    go_roundw
                    case rel => exact ⟨k + 1, by omega, by go_num, by rw [F4.out], hb7⟩
                    case measure => simp [intOf]; omega
                  · have hlt' : decide ((k : Int) < (n1 : Int)) = false := decide_eq_false (by omega)
                    have hb7 := hb.trans (hb2.mono hb.size)
                    go_wp2
                    go_ret
                    exact ⟨rfl, hb7⟩
  · go_enter Tryz.func4, Tryz.ntmps4
    go_wp2_with fail
    go_at_call 6; refine (r8Long_yes _ _ _ _ _ _ _ hl).mono ?_; rintro e w1 ⟨rfl, rfl⟩
    go_wp2
    go_ret
    exact ⟨rfl, Below.refl _ _⟩
end Go.Proofs.YtmnmmjobplbflaaGreatDoor
