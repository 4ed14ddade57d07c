import Derived.Test.YtbamhnbmddopgaaGreatDoorChecked
import Derived.WalkKit
import Derived.ProofKit
import Derived.OpenShut
import Derived.ShutString
import Derived.ChangeOld
import Derived.Below
import Derived.Lib.Hide
import Derived.Test.YtbamhnbmddopgaaGreatDoorZOutC
namespace Go.Proofs.YtbamhnbmddopgaaGreatDoor
open Go.ChangeShapes Go.WideShapes Go.ChangeAt Go.RowKit
open Go.ChangeMaps (open_string shut_string)
set_option linter.unusedVariables false
set_option maxRecDepth 100000
set_option maxHeartbeats 3200000 in
theorem l02Add_any (A : Option Addr) (n c : Nat) (xs : List Mb) (x : Mb) (w : World) (h : SRow 4 mbC w w.heap.size A n xs) (hn : n ≤ 1048576) :
    Calls Tryz.prog 76 #[.slice A n c, .agg #[.int .i64 x.id, .int .i64 x.role, .int .i64 x.since, .int .i64 x.quiet]] w fun e w' => ∃ A' m c', e = .returned (.slice A' m c') ∧ m = (insK Mb.id x xs).length ∧ w'.ownsRow w.heap.size 89 4 (.slice A' m c') m ((insK Mb.id x xs).flatMap mbC) ∧ Below w.heap.size w w' := by
  obtain ⟨i0, hi, hz0, hz1, hz2⟩ := info_parts Tryz.info_Member
  have HL := Lib.hid h.1
  obtain ⟨kx, hbx⟩ := one_box w 89 #[.int .i64 x.id, .int .i64 x.role, .int .i64 x.since, .int .i64 x.quiet]
  have ho := World.ownsRow_made (w.alloc (.cells #[.int .i64 x.id, .int .i64 x.role, .int .i64 x.since, .int .i64 x.quiet] 89)) (base := w.heap.size + 1) (e := 89) (size := 4) #[] 0 (by simp) (by decide) rfl
  have hb0 := hbx.alloc hbx.size (.cells #[] 89)
  have k0 := kx.alloc (.cells #[] 89)
  go_enter Tryz.func76, Tryz.ntmps76
  simp only [alloc_sz'] at ho
  go_wp2
  go_loopw [5, 6, 7] (fun v pv i wr => ∃ (k : Nat) (pb : Bool), k ≤ n ∧ pv = .bool pb ∧ i = .int .i64 k ∧ Blk wr w.heap.size 89 #[.int .i64 x.id, .int .i64 x.role, .int .i64 x.since, .int .i64 x.quiet] ∧ wr.ownsRow (w.heap.size + 1) 89 4 v (addL Mb.id x pb (xs.take k)).length ((addL Mb.id x pb (xs.take k)).flatMap mbC) ∧ addM Mb.id x pb (xs.take k) ∧ Below w.heap.size w wr) (fun _ _ i _ => n - (intOf i).toNat)
  case atStart => exact ⟨0, false, by omega, rfl, rfl, k0, ho, by simp [addM], hb0⟩
  case round =>
    obtain ⟨k, pb, hk, rfl, rfl, hB, hown, hM, hbel⟩ := hrel
    clear ho hb0 k0 kx hbx
    have hbs := hbel.size
    have hbs1 : w.heap.size + 1 ≤ wr.heap.size := hB.lt
    have x0 := hB.cell 0; have x1 := hB.cell 1; have x2 := hB.cell 2; have x3 := hB.cell 3
    by_cases hlt : k < n
    · obtain ⟨b, off, z, rfl, hb, hz, c0, c1, c2, c3⟩ := h.atm hlt
      have d0 : wr.cell? ⟨b, off + k * 4, none⟩ = some (.int .i64 z.id) := (hbel.cell hb).trans c0
      have d1 : wr.cell? ⟨b, off + k * 4 + 1, none⟩ = some (.int .i64 z.role) := (hbel.cell hb).trans c1
      have d2 : wr.cell? ⟨b, off + k * 4 + 2, none⟩ = some (.int .i64 z.since) := (hbel.cell hb).trans c2
      have d3 : wr.cell? ⟨b, off + k * 4 + 3, none⟩ = some (.int .i64 z.quiet) := (hbel.cell hb).trans c3
      have HC := Lib.hid (And.intro c0 (And.intro c1 (And.intro c2 c3)))
      have hln := addL_len (k := Mb.id) (x := x) (put := pb) (xs := xs) (n := k)
      have i0' : (0 : Int) ≤ (k : Int) := Int.natCast_nonneg _
      have i1' : (k : Int) < (n : Int) := by omega
      have HM := Lib.hid hM
      clear c0 c1 c2 c3 h hM
      have APP : ∀ (V : World) (u : Value) (L : List Mb) (y : Mb), Blk V w.heap.size 89 #[.int .i64 x.id, .int .i64 x.role, .int .i64 x.since, .int .i64 x.quiet] → V.ownsRow (w.heap.size + 1) 89 4 u L.length (L.flatMap mbC) → Below w.heap.size w V →
          ∀ (v2 : Value) (w2 : World), w2.ownsRow (w.heap.size + 1) 89 4 v2 (L.length + 1) (L.flatMap mbC ++ [.int .i64 y.id, .int .i64 y.role, .int .i64 y.since, .int .i64 y.quiet]) → (V.alloc (.cells #[.int .i64 y.id, .int .i64 y.role, .int .i64 y.since, .int .i64 y.quiet] 89)).grownBy w2 u.ownBlock →
          Blk w2 w.heap.size 89 #[.int .i64 x.id, .int .i64 x.role, .int .i64 x.since, .int .i64 x.quiet] ∧ w2.ownsRow (w.heap.size + 1) 89 4 v2 (L ++ [y]).length ((L ++ [y]).flatMap mbC) ∧ Below w.heap.size w w2 := by
        intro V u L y kV oV bV v2 w2 ho2 hg2
        refine ⟨(kV.alloc _).grown hg2 (fun e => ?_), by rw [List.flatMap_append, List.length_append]; exact ho2, (bV.alloc bV.size _).grown hg2 (bV.alloc bV.size _).size (fun g hg => Nat.le_of_lt (oV.lt g hg).1)⟩
        have := (oV.lt _ e.symm).1
        omega
      have HA := Lib.hid APP
      clear APP
      have kD : Blk wr.drew w.heap.size 89 #[.int .i64 x.id, .int .i64 x.role, .int .i64 x.since, .int .i64 x.quiet] := hB
      have oD : wr.drew.ownsRow (w.heap.size + 1) 89 4 _ (addL Mb.id x pb (xs.take k)).length ((addL Mb.id x pb (xs.take k)).flatMap mbC) := hown
      have HD := Lib.hid (And.intro kD (And.intro oD hbel.drew))
      clear kD oD hown
      cases pb with
      | true =>
        have HM2 := Lib.hid (addM_put HM.out)
        have HS := Lib.hid (add_put_step (k := Mb.id) (x := x) hz (show ∃ y ∈ xs.take k, Mb.id x < Mb.id y by simpa [addM] using HM.out))
        clear hz
        go_wp2_with fail
        go_region
        generalize wr.drew = V at *
        obtain ⟨kV, oV, bV⟩ := HD.out
        have dV0 := (bV.cell hb).trans HC.out.1; have dV1 := (bV.cell hb).trans HC.out.2.1; have dV2 := (bV.cell hb).trans HC.out.2.2.1; have dV3 := (bV.cell hb).trans HC.out.2.2.2
        have hVs : w.heap.size + 1 ≤ V.heap.size := kV.lt
        clear d0 d1 d2 d3 x0 x1 x2 x3 hB hbel
        go_wp2_with (at_builtin; refine wpList_append_own _ rfl (.tmp 31) (.tmp 36) 28 rfl (w.heap.size + 1) 89 i0 (.agg #[.int .i64 0, .int .i64 0, .int .i64 0, .int .i64 0]) 4 32 Tryz.underlying28 hi hz0 hz1 hz2 rfl (by decide) _ _ _ rfl (oV.alloc _) ⟨V.heap.size, 0, none⟩ 1 1 [.int .i64 z.id, .int .i64 z.role, .int .i64 z.since, .int .i64 z.quiet] rfl rfl (one_cells V _ _) (by intro u hu; simp at hu; rcases hu with rfl | rfl | rfl | rfl <;> rfl) (by unfold maxLen; omega) (by omega) (by simp; omega) ?_; intro v2 w2 ho2 hg2 _)
        obtain ⟨k2, o2, b2⟩ := HA.out V _ _ z kV oV bV v2 w2 ho2 hg2
        clear ho2 hg2 kV oV bV
        go_roundw
        case rel => exact ⟨k + 1, true, by omega, rfl, by go_num, k2, by rw [HS.out]; exact o2, HM2.out, b2⟩
        case measure => simp [intOf]; omega
      | false =>
        by_cases hge : x.id < z.id
        · have hge' : decide (x.id < z.id) = true := decide_eq_true hge
          have HM2 := Lib.hid (addM_now (k := Mb.id) (x := x) hz hge)
          have HS := Lib.hid (add_now_step (k := Mb.id) (x := x) hz (show ∀ y ∈ xs.take k, ¬ Mb.id x < Mb.id y by simpa [addM] using HM.out) hge)
          clear hz hge
          go_wp2_with fail
          go_region
          generalize wr.drew = V at *
          obtain ⟨kV, oV, bV⟩ := HD.out
          have y0 := kV.cell 0; have y1 := kV.cell 1; have y2 := kV.cell 2; have y3 := kV.cell 3
          have dV0 := (bV.cell hb).trans HC.out.1; have dV1 := (bV.cell hb).trans HC.out.2.1; have dV2 := (bV.cell hb).trans HC.out.2.2.1; have dV3 := (bV.cell hb).trans HC.out.2.2.2
          have hVs : w.heap.size + 1 ≤ V.heap.size := kV.lt
          clear d0 d1 d2 d3 x0 x1 x2 x3 hB hbel
          go_wp2_with (first
            | (at_builtin; refine wpList_append_own _ rfl (.tmp 27) (.tmp 29) 28 rfl (w.heap.size + 1) 89 i0 (.agg #[.int .i64 0, .int .i64 0, .int .i64 0, .int .i64 0]) 4 32 Tryz.underlying28 hi hz0 hz1 hz2 rfl (by decide) _ _ _ rfl (oV.alloc _) ⟨V.heap.size, 0, none⟩ 1 1 [.int .i64 x.id, .int .i64 x.role, .int .i64 x.since, .int .i64 x.quiet] rfl rfl (one_cells V _ _) (by intro u hu; simp at hu; rcases hu with rfl | rfl | rfl | rfl <;> rfl) (by unfold maxLen; omega) (by omega) (by simp; omega) ?_; intro v2 w2 ho2 hg2 _; obtain ⟨k2, o2, b2⟩ := HA.out V _ _ x kV oV bV v2 w2 ho2 hg2; have eV0 := (b2.cell hb).trans HC.out.1; have eV1 := (b2.cell hb).trans HC.out.2.1; have eV2 := (b2.cell hb).trans HC.out.2.2.1; have eV3 := (b2.cell hb).trans HC.out.2.2.2; have h2s : w.heap.size + 1 ≤ w2.heap.size := k2.lt)
            | (at_builtin; refine wpList_append_own _ rfl (.tmp 31) (.tmp 36) 28 rfl (w.heap.size + 1) 89 i0 (.agg #[.int .i64 0, .int .i64 0, .int .i64 0, .int .i64 0]) 4 32 Tryz.underlying28 hi hz0 hz1 hz2 rfl (by decide) _ _ _ rfl (o2.alloc _) ⟨w2.heap.size, 0, none⟩ 1 1 [.int .i64 z.id, .int .i64 z.role, .int .i64 z.since, .int .i64 z.quiet] rfl rfl (one_cells w2 _ _) (by intro u hu; simp at hu; rcases hu with rfl | rfl | rfl | rfl <;> rfl) (by unfold maxLen; simp; omega) (by simp; omega) (by simp; omega) ?_; intro v4 w4 ho4 hg4 _))
          obtain ⟨k4, o4, b4⟩ := HA.out w2 _ _ z k2 o2 b2 v4 w4 ho4 hg4
          clear ho2 hg2 kV oV bV ho4 hg4 k2 o2 b2
          go_roundw
          case rel => exact ⟨k + 1, true, by omega, rfl, by go_num, k4, by rw [HS.out]; exact o4, HM2.out, b4⟩
          case measure => simp [intOf]; omega
        · have hge' : decide (x.id < z.id) = false := decide_eq_false hge
          have HM2 := Lib.hid (addM_no (k := Mb.id) (x := x) hz HM.out hge)
          have HS := Lib.hid (add_no_step (k := Mb.id) (x := x) hz)
          clear hz hge
          go_wp2_with fail
          go_region
          generalize wr.drew = V at *
          obtain ⟨kV, oV, bV⟩ := HD.out
          have dV0 := (bV.cell hb).trans HC.out.1; have dV1 := (bV.cell hb).trans HC.out.2.1; have dV2 := (bV.cell hb).trans HC.out.2.2.1; have dV3 := (bV.cell hb).trans HC.out.2.2.2
          have hVs : w.heap.size + 1 ≤ V.heap.size := kV.lt
          clear d0 d1 d2 d3 x0 x1 x2 x3 hB hbel
          go_wp2_with (at_builtin; refine wpList_append_own _ rfl (.tmp 31) (.tmp 36) 28 rfl (w.heap.size + 1) 89 i0 (.agg #[.int .i64 0, .int .i64 0, .int .i64 0, .int .i64 0]) 4 32 Tryz.underlying28 hi hz0 hz1 hz2 rfl (by decide) _ _ _ rfl (oV.alloc _) ⟨V.heap.size, 0, none⟩ 1 1 [.int .i64 z.id, .int .i64 z.role, .int .i64 z.since, .int .i64 z.quiet] rfl rfl (one_cells V _ _) (by intro u hu; simp at hu; rcases hu with rfl | rfl | rfl | rfl <;> rfl) (by unfold maxLen; omega) (by omega) (by simp; omega) ?_; intro v2 w2 ho2 hg2 _)
          obtain ⟨k2, o2, b2⟩ := HA.out V _ _ z kV oV bV v2 w2 ho2 hg2
          clear ho2 hg2 kV oV bV
          go_roundw
          case rel => exact ⟨k + 1, false, by omega, rfl, by go_num, k2, by rw [HS.out]; exact o2, HM2.out, b2⟩
          case measure => simp [intOf]; omega
    · have hkn : k = n := by omega
      subst hkn
      rw [List.take_of_length_le (by have := HL.out; omega)] at hown hM
      have hlen : xs.length = k := HL.out
      cases pb with
      | true =>
        rw [addL_done hM] at hown
        go_wp2
        go_ret
        obtain ⟨A', c', rfl⟩ := own_form hown
        exact ⟨A', _, c', rfl, rfl, World.ownsRow.mono hown (Nat.le_succ _), hbel⟩
      | false =>
        have HS := Lib.hid (addL_rest hM)
        have hl2 : (addL Mb.id x false xs).length ≤ 1048576 := by rw [show addL Mb.id x false xs = xs from rfl]; omega
        go_wp2_with (at_builtin; refine wpList_append_own _ rfl (.tmp 40) (.tmp 42) 28 rfl (w.heap.size + 1) 89 i0 (.agg #[.int .i64 0, .int .i64 0, .int .i64 0, .int .i64 0]) 4 32 Tryz.underlying28 hi hz0 hz1 hz2 rfl (by decide) _ _ _ rfl (hown.alloc _) ⟨wr.heap.size, 0, none⟩ 1 1 [.int .i64 x.id, .int .i64 x.role, .int .i64 x.since, .int .i64 x.quiet] rfl rfl (one_cells wr _ _) (by intro u hu; simp at hu; rcases hu with rfl | rfl | rfl | rfl <;> rfl) (by unfold maxLen; omega) (by omega) (by simp; omega) ?_; intro v2 w2 ho2 hg2 _)
        have hb2 : Below w.heap.size w w2 := (hbel.alloc hbs _).grown hg2 (hbel.alloc hbs _).size (fun g hg => Nat.le_of_lt (hown.lt g hg).1)
        have ho3 : w2.ownsRow (w.heap.size + 1) 89 4 v2 (insK Mb.id x xs).length ((insK Mb.id x xs).flatMap mbC) := by rw [← HS.out, List.flatMap_append, List.length_append]; exact ho2
        clear ho2 hg2
        go_ret
        obtain ⟨A', c', rfl⟩ := own_form ho3
        exact ⟨A', _, c', rfl, rfl, World.ownsRow.mono ho3 (Nat.le_succ _), hb2⟩
end Go.Proofs.YtbamhnbmddopgaaGreatDoor
