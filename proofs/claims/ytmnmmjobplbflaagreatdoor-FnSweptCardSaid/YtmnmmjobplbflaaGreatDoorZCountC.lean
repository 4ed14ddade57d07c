import Derived.Test.YtmnmmjobplbflaaGreatDoorChecked
import Derived.WalkKit
import Derived.ProofKit
import Derived.OpenShut
import Derived.ShutString
import Derived.ChangeOld
import Derived.Below
import Derived.Lib.Hide
import Derived.Deep.OwnRows
import Derived.Test.YtmnmmjobplbflaaGreatDoorZValidI
import Derived.Test.YtmnmmjobplbflaaGreatDoorJh
import Derived.Test.YtmnmmjobplbflaaGreatDoorZIsRoomC
namespace Go.Proofs.YtmnmmjobplbflaaGreatDoor
open Go.ChangeShapes Go.WideShapes Go.ChangeAt Go.RowKit
open Go.ChangeMaps (open_string shut_string)
set_option linter.unusedVariables false
set_option maxRecDepth 100000
def cR (r : Int) (xs : List Mb) (k : Nat) : Int := (((xs.take k).filter fun m => m.role == r).length : Nat)
theorem cR_zero (r : Int) (xs : List Mb) : cR r xs 0 = 0 := by simp [cR]
theorem cR_yes {r : Int} {xs : List Mb} {k : Nat} {z : Mb} (hz : xs[k]? = some z) (h : z.role = r) : cR r xs (k + 1) = cR r xs k + 1 := by
  simp [cR, take_some hz, List.filter_append, h]
theorem cR_no {r : Int} {xs : List Mb} {k : Nat} {z : Mb} (hz : xs[k]? = some z) (h : z.role ≠ r) : cR r xs (k + 1) = cR r xs k := by
  simp [cR, take_some hz, List.filter_append, h]
theorem cR_bd (r : Int) (xs : List Mb) (k : Nat) : 0 ≤ cR r xs k ∧ cR r xs k ≤ k := by
  have h1 := List.length_filter_le (fun m : Mb => m.role == r) (xs.take k)
  have h2 := List.length_take_le k xs
  unfold cR; omega
def Cn (xs : List Mb) (k : Nat) (a b c d : Int) : Prop := a = cR 0 xs k ∧ b = cR 1 xs k ∧ c = cR 2 xs k ∧ d = cR 3 xs k
theorem Cn.zero (xs : List Mb) : Cn xs 0 0 0 0 0 := ⟨(cR_zero _ _).symm, (cR_zero _ _).symm, (cR_zero _ _).symm, (cR_zero _ _).symm⟩
theorem Cn.bd {xs : List Mb} {k : Nat} {a b c d : Int} (h : Cn xs k a b c d) : (0 ≤ a ∧ a ≤ k) ∧ (0 ≤ b ∧ b ≤ k) ∧ (0 ≤ c ∧ c ≤ k) ∧ (0 ≤ d ∧ d ≤ k) := by
  obtain ⟨rfl, rfl, rfl, rfl⟩ := h
  exact ⟨cR_bd _ _ _, cR_bd _ _ _, cR_bd _ _ _, cR_bd _ _ _⟩
theorem Cn.s0 {xs : List Mb} {k : Nat} {a b c d : Int} {z : Mb} (h : Cn xs k a b c d) (hz : xs[k]? = some z) (hr : z.role = 0) : Cn xs (k + 1) (a + 1) b c d := by
  obtain ⟨rfl, rfl, rfl, rfl⟩ := h
  exact ⟨(cR_yes hz hr).symm, (cR_no hz (by omega)).symm, (cR_no hz (by omega)).symm, (cR_no hz (by omega)).symm⟩
theorem Cn.s1 {xs : List Mb} {k : Nat} {a b c d : Int} {z : Mb} (h : Cn xs k a b c d) (hz : xs[k]? = some z) (hr : z.role = 1) : Cn xs (k + 1) a (b + 1) c d := by
  obtain ⟨rfl, rfl, rfl, rfl⟩ := h
  exact ⟨(cR_no hz (by omega)).symm, (cR_yes hz hr).symm, (cR_no hz (by omega)).symm, (cR_no hz (by omega)).symm⟩
theorem Cn.s2 {xs : List Mb} {k : Nat} {a b c d : Int} {z : Mb} (h : Cn xs k a b c d) (hz : xs[k]? = some z) (hr : z.role = 2) : Cn xs (k + 1) a b (c + 1) d := by
  obtain ⟨rfl, rfl, rfl, rfl⟩ := h
  exact ⟨(cR_no hz (by omega)).symm, (cR_no hz (by omega)).symm, (cR_yes hz hr).symm, (cR_no hz (by omega)).symm⟩
theorem Cn.s3 {xs : List Mb} {k : Nat} {a b c d : Int} {z : Mb} (h : Cn xs k a b c d) (hz : xs[k]? = some z) (hr : z.role = 3) : Cn xs (k + 1) a b c (d + 1) := by
  obtain ⟨rfl, rfl, rfl, rfl⟩ := h
  exact ⟨(cR_no hz (by omega)).symm, (cR_no hz (by omega)).symm, (cR_no hz (by omega)).symm, (cR_yes hz hr).symm⟩
def cntL (ms : List Mb) : List Int := [cR 0 ms ms.length, cR 1 ms ms.length, cR 2 ms ms.length, cR 3 ms ms.length]
theorem Cn.full {xs : List Mb} {k : Nat} {a b c d : Int} (h : Cn xs k a b c d) (hk : xs.length = k) : [a, b, c, d] = cntL xs := by
  obtain ⟨rfl, rfl, rfl, rfl⟩ := h
  subst hk; rfl
theorem role_or {n : Int} (h : roleB n = true) : n = 0 ∨ n = 1 ∨ n = 2 ∨ n = 3 := by
  simp only [roleB, decide_eq_true_eq] at h; omega
theorem own_blk4 {w : World} {g base : Nat} {v0 v1 v2 v3 : Value} (h : Blk w g 2 #[v0, v1, v2, v3]) (hb : base ≤ g) : w.ownsRow base 2 1 (.slice (some ⟨g, 0, none⟩) 4 4) 4 [v0, v1, v2, v3] :=
  ⟨rfl, .inr ⟨g, 4, #[v0, v1, v2, v3], rfl, hb, h, by omega, by decide, rfl, rfl⟩⟩
theorem mk4 (w : World) : (Instr.makeSlice 42 (.int .i64 4) (.int .i64 4)).run Tryz.prog w = .ok (.slice (some ⟨w.heap.size, 0, none⟩) 4 4) (w.alloc (.cells #[.int .i64 0, .int .i64 0, .int .i64 0, .int .i64 0] 2)) :=
  (by
    have h := run_make_row' (P := Tryz.prog) 42 2 (.int .i64 0) 8 Tryz.underlying42 Tryz.info_i64 rfl .i64 .i64 4 (by decide) (by decide) w
    have e : madeCells #[(Value.int .i64 0)] 4 = #[.int .i64 0, .int .i64 0, .int .i64 0, .int .i64 0] := by kernel_rfl
    rw [e] at h
    exact h)
/-- a list of numbers and a bool: what CountRoles answers -/
def CntOut (r : Bool) (ms : List Mb) (w : World) (e : Ending) (w' : World) : Prop :=
  ∃ A n c zs, e = .returned (.tuple #[.slice A n c, .bool r]) ∧ zs = (if r = true then cntL ms else []) ∧ w'.ownsRow w.heap.size 2 1 (.slice A n c) n (zs.map i64v) ∧ Below w.heap.size w w'
set_option maxHeartbeats 1600000 in
theorem impl_CountRoles_any (o : Bool) (A1 A2 A3 : Option Addr) (n1 c1 n2 c2 n3 c3 : Nat) (ms : List Mb) (vs : List Iv) (bs : List Bn) (w : World)
    (h : RoomAt w w.heap.size A1 n1 A2 n2 A3 n3 ms vs bs) (hn : n1 + n2 + n3 ≤ 1048576) :
    Calls Tryz.prog 16 #[.agg #[.bool o, .slice A1 n1 c1, .slice A2 n2 c2, .slice A3 n3 c3]] w fun e w' => CntOut (roomB ms vs bs) ms w e w' := by
  go_enter Tryz.func16, Tryz.ntmps16
  go_wp2_with fail
  obtain ⟨k0, hb0⟩ := one_box w 28 #[.bool o, .slice A1 n1 c1, .slice A2 n2 c2, .slice A3 n3 c3]
  generalize w.alloc (.cells #[.bool o, .slice A1 n1 c1, .slice A2 n2 c2, .slice A3 n3 c3] 28) = W at *
  have h := (h.below hb0).more hb0.size
  have HL1 := Lib.hid h.1.1
  cases hb : roomB ms vs bs with
  | false =>
    go_at_call 12; refine (impl_ValidRoom_any _ _ _ _ _ _ _ _ _ _ _ _ _ _ h hn).mono ?_; rw [hb]; rintro e w1 ⟨rfl, hb1⟩
    have hb0 := hb0.trans (hb1.mono hb0.size)
    go_wp2
    all_goals exact bodyPost_ret (v := .tuple #[.slice none 0 0, .bool false]) (by simp [results, Tryz.results16, go_sem]) rfl (by rw [hb]; exact ⟨none, 0, 0, [], rfl, by simp, World.ownsRow_nil _ _ _ _, hb0⟩)
  | true =>
    have HV := Lib.hid (roomB_iff.1 hb)
    go_at_call 12; refine (impl_ValidRoom_any _ _ _ _ _ _ _ _ _ _ _ _ _ _ h hn).mono ?_; rw [hb]; rintro e w1 ⟨rfl, hb1⟩
    have h1 := (h.to hb1).1
    have k0 := k0.below hb1 k0.lt
    have hb0 := hb0.trans (hb1.mono hb0.size)
    clear hb1 h
    have l1 := k0.cell 1
    have klt := k0.lt
    have hmk := mk4 w1
    go_wp2
    have hb2 := hb0.alloc hb0.size (.cells #[.int .i64 0, .int .i64 0, .int .i64 0, .int .i64 0] 2)
    have kg := Blk.new w1 2 #[.int .i64 0, .int .i64 0, .int .i64 0, .int .i64 0]
    have h2 := h1.alloc (Nat.le_refl _) (.cells #[.int .i64 0, .int .i64 0, .int .i64 0, .int .i64 0] 2)
    have g0 := hb0.size
    generalize hW2 : w1.alloc (.cells #[.int .i64 0, .int .i64 0, .int .i64 0, .int .i64 0] 2) = w2 at *
    go_loopw [14] (fun i wr => ∃ (k : Nat) (a b c d : Int), k ≤ n1 ∧ i = .int .i64 k ∧ Blk wr w1.heap.size 2 #[.int .i64 a, .int .i64 b, .int .i64 c, .int .i64 d] ∧ Hid (Cn ms k a b c d) ∧ Below w.heap.size w wr ∧ (∀ p : Addr, p.block < w1.heap.size → wr.cell? p = w2.cell? p)) (fun i _ => n1 - (intOf i).toNat)
    case atStart => exact ⟨0, 0, 0, 0, 0, by omega, rfl, kg, Lib.hid (Cn.zero ms), hb2, fun _ _ => rfl⟩
    case round =>
      obtain ⟨k, a, b, c, d, hk, rfl, kr, HC, hbel, hke⟩ := hrel
      have hbs := hbel.size
      by_cases hlt : k < n1
      · obtain ⟨bk, off, z, rfl, hbk, hz, c0, c1', c2', c3'⟩ := h2.atm hlt
        have d0 := (hke ⟨bk, off + k * 4, none⟩ hbk).trans c0
        have d1 := (hke ⟨bk, off + k * 4 + 1, none⟩ hbk).trans c1'
        have d2 := (hke ⟨bk, off + k * 4 + 2, none⟩ hbk).trans c2'
        have d3 := (hke ⟨bk, off + k * 4 + 3, none⟩ hbk).trans c3'
        have hbd := HC.out.bd
        have HZ := Lib.hid hz
        have hrole := role_or (show roleB z.role = true by have := (HV.out.s1 z (List.mem_of_getElem? hz)).1; simp only [mbB, Bool.and_eq_true] at this; exact this.1)
        clear hz c0 c1' c2' c3'
        have krl := kr.lt
        have e0 : wr.cell? ⟨w1.heap.size, 0, none⟩ = some (.int .i64 a) := kr.cell 0
        have e1 : wr.cell? ⟨w1.heap.size, 1, none⟩ = some (.int .i64 b) := kr.cell 1
        have e2 : wr.cell? ⟨w1.heap.size, 2, none⟩ = some (.int .i64 c) := kr.cell 2
        have e3 : wr.cell? ⟨w1.heap.size, 3, none⟩ = some (.int .i64 d) := kr.cell 3
        have f0 := kr.frozen 0; have f1 := kr.frozen 1; have f2 := kr.frozen 2; have f3 := kr.frozen 3
        have HKE := Lib.hid hke
        clear hke
        rcases hrole with hr | hr | hr | hr
        · have HN := Lib.hid (HC.out.s0 HZ.out hr)
          rw [hr] at d1
          go_wp2
          refine ⟨⟨k + 1, a + 1, b, c, d, by omega, by go_num, ?_, HN, ?_, fun p hp => ?_⟩, by simp [intOf]; omega⟩
          · exact (kr.set_ 0 _).alloc _
          · exact (hbel.setCell (by simp; omega) _).alloc (by simpa using hbs) _
          · exact ((World.cell?_alloc_lt _ _ p (by simp; omega)).trans (World.cell?_setCell_far _ _ _ _ (by simp; omega))).trans (HKE.out p hp)
        · have HN := Lib.hid (HC.out.s1 HZ.out hr)
          rw [hr] at d1
          go_wp2
          refine ⟨⟨k + 1, a, b + 1, c, d, by omega, by go_num, ?_, HN, ?_, fun p hp => ?_⟩, by simp [intOf]; omega⟩
          · exact (kr.set_ 1 _).alloc _
          · exact (hbel.setCell (by simp; omega) _).alloc (by simpa using hbs) _
          · exact ((World.cell?_alloc_lt _ _ p (by simp; omega)).trans (World.cell?_setCell_far _ _ _ _ (by simp; omega))).trans (HKE.out p hp)
        · have HN := Lib.hid (HC.out.s2 HZ.out hr)
          rw [hr] at d1
          go_wp2
          refine ⟨⟨k + 1, a, b, c + 1, d, by omega, by go_num, ?_, HN, ?_, fun p hp => ?_⟩, by simp [intOf]; omega⟩
          · exact (kr.set_ 2 _).alloc _
          · exact (hbel.setCell (by simp; omega) _).alloc (by simpa using hbs) _
          · exact ((World.cell?_alloc_lt _ _ p (by simp; omega)).trans (World.cell?_setCell_far _ _ _ _ (by simp; omega))).trans (HKE.out p hp)
        · have HN := Lib.hid (HC.out.s3 HZ.out hr)
          rw [hr] at d1
          go_wp2
          refine ⟨⟨k + 1, a, b, c, d + 1, by omega, by go_num, ?_, HN, ?_, fun p hp => ?_⟩, by simp [intOf]; omega⟩
          · exact (kr.set_ 3 _).alloc _
          · exact (hbel.setCell (by simp; omega) _).alloc (by simpa using hbs) _
          · exact ((World.cell?_alloc_lt _ _ p (by simp; omega)).trans (World.cell?_setCell_far _ _ _ _ (by simp; omega))).trans (HKE.out p hp)
      · have hkn : k = n1 := by omega
        subst hkn
        have HF := Lib.hid (HC.out.full HL1.out)
        have hown := own_blk4 kr g0
        go_wp2
        all_goals refine bodyPost_ret (v := .tuple #[.slice (some ⟨w1.heap.size, 0, none⟩) 4 4, .bool true]) (by simp [results, Tryz.results16, go_sem]) rfl ?_
        all_goals rw [hb]; exact ⟨_, _, _, [a, b, c, d], rfl, by rw [if_pos rfl]; exact HF.out, hown, hbel⟩
end Go.Proofs.YtmnmmjobplbflaaGreatDoor
