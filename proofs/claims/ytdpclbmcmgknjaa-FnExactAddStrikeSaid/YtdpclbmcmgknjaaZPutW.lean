import Derived.Test.YtdpclbmcmgknjaaChecked
import Derived.WalkKit
import Derived.ProofKit
import Derived.OpenShut
import Derived.ShutString
import Derived.ChangeOld
import Derived.Below
import Derived.Lib.Hide
import Derived.Laws.AppendOwn
import Derived.Test.YtdpclbmcmgknjaaZOwnE
import Derived.Test.YtdpclbmcmgknjaaJp
namespace Go.Proofs.Ytdpclbmcmgknjaa
open Go.ChangeShapes Go.WideShapes Go.ChangeAt Go.RowKit
open Go.ChangeMaps (open_string shut_string)
set_option linter.unusedVariables false
set_option maxRecDepth 100000
theorem l00Max_any (a b : Int) (w : World) : Calls Try.prog 141 #[.int .i64 a, .int .i64 b] w fun e w' => e = .returned (.int .i64 (max a b)) ∧ w' = w := by
  rw [← max_if]
  by_cases h : b < a
  · rw [if_pos h]
    have h' : decide (b < a) = true := decide_eq_true h
    go_enter Try.func141, Try.ntmps141
    go_wp2
    go_ret
    exact ⟨rfl, rfl⟩
  · rw [if_neg h]
    have h' : decide (b < a) = false := decide_eq_false h
    go_enter Try.func141, Try.ntmps141
    go_wp2
    go_ret
    exact ⟨rfl, rfl⟩
theorem one_cells (w : World) (t : TypeId) (cs : List Value) : ∀ (j : Nat) (u : Value), cs[j]? = some u → (w.alloc (.cells cs.toArray t)).cell? ((⟨w.heap.size, 0, none⟩ : Addr).add j) = some u := by
  intro j u hu
  have := (Blk.new w t cs.toArray).cell j
  simp only [List.getElem?_toArray, hu] at this
  cases j <;> simpa [Addr.add] using this
theorem one_cellsG (w : World) (t : TypeId) (cs : List Value) (g : Nat) (hg : g = w.heap.size) : ∀ (j : Nat) (u : Value), cs[j]? = some u → (w.alloc (.cells cs.toArray t)).cell? ((⟨g, 0, none⟩ : Addr).add j) = some u := by subst hg; exact one_cells w t cs
theorem bnC_ne (z : Bn) : ∀ u ∈ ([.int .i64 z.id, .int .i64 z.til] : List Value), u.oneCell' = true := by intro u hu; simp at hu; rcases hu with rfl | rfl <;> rfl
/-- an append of one entry to a row of one's own -/
theorem app_one {w V w2 : World} {e B : Nat} {u v2 : Value} {L : List Bn} {y : Bn} (hB : B ≤ w.heap.size) (hw : w.heap.size = B) (oV : V.ownsRow B e 2 u L.length (L.flatMap bnC)) (bV : Below B w V)
    (ho2 : w2.ownsRow B e 2 v2 (L.length + 1) (L.flatMap bnC ++ [.int .i64 y.id, .int .i64 y.til])) (hg2 : (V.alloc (.cells #[.int .i64 y.id, .int .i64 y.til] e)).grownBy w2 u.ownBlock) :
    w2.ownsRow B e 2 v2 (L ++ [y]).length ((L ++ [y]).flatMap bnC) ∧ Below B w w2 :=
  ⟨by rw [List.flatMap_append, List.length_append]; exact ho2, (bV.alloc (Nat.le_trans hB bV.size) _).grown hg2 (Nat.le_trans hB (bV.alloc (Nat.le_trans hB bV.size) _).size) (fun g hg => (oV.lt g hg).1)⟩
theorem app_blk {V w2 : World} {e g et : Nat} {u : Value} {cs : List Value} {ys : Array Value} (k : Blk V g et ys) (hne : some g ≠ u.ownBlock) (hg2 : (V.alloc (.cells cs.toArray e)).grownBy w2 u.ownBlock) : Blk w2 g et ys := (k.alloc _).grown hg2 hne
set_option maxHeartbeats 6400000 in
theorem l05Put_any (A : Option Addr) (n c : Nat) (xs : List Bn) (t m : Int) (w : World) (h : SRow 2 bnC w w.heap.size A n xs) (hr : Rise Bn.id xs) (hn : n ≤ 1048576) :
    Calls Try.prog 96 #[.slice A n c, .int .i64 t, .int .i64 m] w fun e w' => ∃ A' k c', e = .returned (.slice A' k c') ∧ k = (tellB xs t m).length ∧ w'.ownsRow w.heap.size 136 2 (.slice A' k c') k ((tellB xs t m).flatMap bnC) ∧ Below w.heap.size w w' := by
  rw [tellB_til]
  obtain ⟨i0, hi, hz0, hz1, hz2⟩ := info_parts Try.info_Lease
  obtain ⟨M, hM⟩ : ∃ z, tilB xs t m = z := ⟨_, rfl⟩
  have HMV := Lib.hid hM
  have HR := Lib.hid hr
  rw [hM]
  clear hM hr
  have HL := Lib.hid h.1
  have ho := World.ownsRow_made w (base := w.heap.size) (e := 136) (size := 2) #[] 0 (Nat.le_refl _) (by decide) rfl
  have hb0 := (Below.refl w.heap.size w).alloc (Nat.le_refl _) (.cells #[] 136)
  go_enter Try.func96, Try.ntmps96
  go_wp2
  go_loopw [7, 8, 14] (fun v pv i wr => ∃ (k : Nat) (pb : Bool), k ≤ n ∧ pv = .bool pb ∧ i = .int .i64 k ∧ wr.ownsRow w.heap.size 136 2 v (banL Bn.id (⟨t, M⟩ : Bn) pb (xs.take k)).length ((banL Bn.id (⟨t, M⟩ : Bn) pb (xs.take k)).flatMap bnC) ∧ banM Bn.id (⟨t, M⟩ : Bn) pb (xs.take k) ∧ Below w.heap.size w wr) (fun _ _ i _ => n - (intOf i).toNat)
  case atStart => exact ⟨0, false, by omega, rfl, rfl, ho, by simp [banM], hb0⟩
  case round =>
    obtain ⟨k, pb, hk, rfl, rfl, hown, hM, hbel⟩ := hrel
    clear ho hb0
    have hbs := hbel.size
    by_cases hlt : k < n
    · obtain ⟨b, off, z, rfl, hb, hz, c0, c1⟩ := h.atbn hlt
      have d0 : wr.cell? ⟨b, off + k * 2, none⟩ = some (.int .i64 z.id) := (hbel.cell hb).trans c0
      have d1 : wr.cell? ⟨b, off + k * 2 + 1, none⟩ = some (.int .i64 z.til) := (hbel.cell hb).trans c1
      have hln := banL_len (k := Bn.id) (x := (⟨t, M⟩ : Bn)) (put := pb) (xs := xs) (n := k)
      have i0' : (0 : Int) ≤ (k : Int) := Int.natCast_nonneg _
      have i1' : (k : Int) < (n : Int) := by omega
      have HM := Lib.hid hM
      clear c0 c1 h hM
      obtain ⟨B0, q0, rfl⟩ := own_form hown
      have hX : some wr.heap.size ≠ (Value.slice B0 (banL Bn.id (⟨t, M⟩ : Bn) pb (xs.take k)).length q0).ownBlock := fun e => Nat.lt_irrefl _ (hown.lt _ e.symm).2
      cases pb with
      | true =>
        have hgt := ban_no_put HR.out hz HM.out
        have HM2 := Lib.hid (banM_put HM.out)
        have HS := Lib.hid (ban_put_step HR.out hz HM.out)
        clear hz
        go_wp2_with (first | (at_builtin; refine wpList_append_own _ rfl (.tmp 44) (.tmp 46) 68 rfl w.heap.size 136 i0 (.agg #[.int .i64 0, .int .i64 0]) 2 16 Try.underlying68 hi hz0 hz1 hz2 rfl (by decide) _ _ _ rfl ((hown.alloc _).alloc _) ⟨wr.heap.size + 1, 0, none⟩ 1 1 [.int .i64 z.id, .int .i64 z.til] rfl rfl (one_cellsG (wr.alloc (.cells #[.int .i64 z.id, .int .i64 z.til] 136)) _ _ _ (by simp)) (bnC_ne ⟨z.id, z.til⟩) (by unfold maxLen; (try simp); omega) (by (try simp); omega) (by simp; omega) ?_; intro v2 w2 ho2 hg2 _))
        obtain ⟨o2, b2⟩ := app_one (V := (wr.alloc (.cells #[.int .i64 z.id, .int .i64 z.til] 136))) (y := (⟨z.id, z.til⟩ : Bn)) (Nat.le_refl _) rfl (hown.alloc _) (hbel.alloc hbs _) ho2 hg2
        clear ho2 hg2
        go_roundw
        case rel => exact ⟨k + 1, true, by omega, rfl, by go_num, by rw [HS.out]; exact o2, HM2.out, b2⟩
        case measure => simp [intOf]; omega
      | false =>
        by_cases hge : t ≤ z.id
        · have hge' : decide (t ≤ z.id) = true := decide_eq_true hge
          have HM2 := Lib.hid (banM_now (x := (⟨t, M⟩ : Bn)) hz hge)
          by_cases hsame : z.id = t
          · have hs' : (z.id == t) = true := by simpa using hsame
            have HS := Lib.hid (ban_now_same (x := (⟨t, M⟩ : Bn)) hz HM.out hsame)
            have HT := Lib.hid ((til_same (m := m) HR.out hz hsame).symm.trans HMV.out)
            clear hz hge
            subst hsame
            go_wp2_with (first | (go_at_call 141; refine (l00Max_any _ _ _).mono ?_; rw [HT.out]; rintro e w' ⟨rfl, rfl⟩) | (at_builtin; refine wpList_append_own _ rfl (.tmp 44) (.tmp 46) 68 rfl w.heap.size 136 i0 (.agg #[.int .i64 0, .int .i64 0]) 2 16 Try.underlying68 hi hz0 hz1 hz2 rfl (by decide) _ _ _ rfl ((hown.alloc _).alloc _) ⟨wr.heap.size + 1, 0, none⟩ 1 1 [.int .i64 z.id, .int .i64 M] rfl rfl (one_cellsG (wr.alloc (.cells #[.int .i64 z.id, .int .i64 M] 136)) _ _ _ (by simp)) (bnC_ne ⟨z.id, M⟩) (by unfold maxLen; (try simp); omega) (by (try simp); omega) (by simp; omega) ?_; intro v2 w2 ho2 hg2 _))
            obtain ⟨o2, b2⟩ := app_one (V := (wr.alloc (.cells #[.int .i64 z.id, .int .i64 M] 136))) (y := (⟨z.id, M⟩ : Bn)) (Nat.le_refl _) rfl (hown.alloc _) (hbel.alloc hbs _) ho2 hg2
            clear ho2 hg2
            go_roundw
            case rel => exact ⟨k + 1, true, by omega, rfl, by go_num, by rw [HS.out]; exact o2, HM2.out, b2⟩
            case measure => simp [intOf]; omega
          · have hs' : (z.id == t) = false := by simpa using hsame
            have hlt2 : t < z.id := by omega
            have HS := Lib.hid (ban_now_more (x := (⟨t, M⟩ : Bn)) hz HM.out hlt2)
            have HT := Lib.hid ((til_more (m := m) HR.out hz HM.out hlt2).symm.trans HMV.out)
            clear hz hge
            go_wp2_with (first | (at_builtin; refine wpList_append_own _ rfl (.tmp 38) (.tmp 42) 68 rfl w.heap.size 136 i0 (.agg #[.int .i64 0, .int .i64 0]) 2 16 Try.underlying68 hi hz0 hz1 hz2 rfl (by decide) _ _ _ rfl ((hown.alloc _).alloc _) ⟨wr.heap.size + 1, 0, none⟩ 1 1 [.int .i64 t, .int .i64 m] rfl rfl (one_cellsG (wr.alloc (.cells #[.int .i64 z.id, .int .i64 z.til] 136)) _ _ _ (by simp)) (bnC_ne ⟨t, m⟩) (by unfold maxLen; (try simp); omega) (by (try simp); omega) (by simp; omega) ?_; intro v2 w2 ho2 hg2 _; obtain ⟨o2, b2⟩ := app_one (V := (wr.alloc (.cells #[.int .i64 z.id, .int .i64 z.til] 136))) (y := (⟨t, m⟩ : Bn)) (Nat.le_refl _) rfl (hown.alloc _) (hbel.alloc hbs _) ho2 hg2; have kx := app_blk (et := 136) (cs := [.int .i64 t, .int .i64 m]) (Blk.new wr 136 #[.int .i64 z.id, .int .i64 z.til]) hX hg2; have y0 := kx.cell 0; have y1 := kx.cell 1; have hsz2 := b2.size) | (at_builtin; refine wpList_append_own _ rfl (.tmp 44) (.tmp 46) 68 rfl w.heap.size 136 i0 (.agg #[.int .i64 0, .int .i64 0]) 2 16 Try.underlying68 hi hz0 hz1 hz2 rfl (by decide) _ _ _ rfl (o2.alloc _) ⟨w2.heap.size, 0, none⟩ 1 1 [.int .i64 z.id, .int .i64 z.til] rfl rfl (one_cellsG w2 _ _ _ (by simp)) (bnC_ne ⟨z.id, z.til⟩) (by unfold maxLen; (try simp); omega) (by (try simp); omega) (by simp; omega) ?_; intro v3 w3 ho3 hg3 _))
            obtain ⟨o3, b3⟩ := app_one (V := w2) (y := (⟨z.id, z.til⟩ : Bn)) (Nat.le_refl _) rfl o2 b2 ho3 hg3
            clear ho2 hg2 ho3 hg3
            go_roundw
            case rel => exact ⟨k + 1, true, by omega, rfl, by go_num, by rw [HS.out, ← HT.out]; exact o3, HM2.out, b3⟩
            case measure => simp [intOf]; omega
        · have hge' : decide (t ≤ z.id) = false := decide_eq_false hge
          have HM2 := Lib.hid (banM_no (x := (⟨t, M⟩ : Bn)) hz HM.out hge)
          have HS := Lib.hid (ban_no_step (k := Bn.id) (x := (⟨t, M⟩ : Bn)) hz)
          clear hz hge
          go_wp2_with (first | (at_builtin; refine wpList_append_own _ rfl (.tmp 44) (.tmp 46) 68 rfl w.heap.size 136 i0 (.agg #[.int .i64 0, .int .i64 0]) 2 16 Try.underlying68 hi hz0 hz1 hz2 rfl (by decide) _ _ _ rfl ((hown.alloc _).alloc _) ⟨wr.heap.size + 1, 0, none⟩ 1 1 [.int .i64 z.id, .int .i64 z.til] rfl rfl (one_cellsG (wr.alloc (.cells #[.int .i64 z.id, .int .i64 z.til] 136)) _ _ _ (by simp)) (bnC_ne ⟨z.id, z.til⟩) (by unfold maxLen; (try simp); omega) (by (try simp); omega) (by simp; omega) ?_; intro v2 w2 ho2 hg2 _))
          obtain ⟨o2, b2⟩ := app_one (V := (wr.alloc (.cells #[.int .i64 z.id, .int .i64 z.til] 136))) (y := (⟨z.id, z.til⟩ : Bn)) (Nat.le_refl _) rfl (hown.alloc _) (hbel.alloc hbs _) ho2 hg2
          clear ho2 hg2
          go_roundw
          case rel => exact ⟨k + 1, false, by omega, rfl, by go_num, by rw [HS.out]; exact o2, HM2.out, b2⟩
          case measure => simp [intOf]; omega
    · have hkn : k = n := by omega
      subst hkn
      rw [List.take_of_length_le (by have := HL.out; omega)] at hown hM
      have hlen : xs.length = k := HL.out
      cases pb with
      | true =>
        rw [show banL Bn.id (⟨t, M⟩ : Bn) true xs = putK Bn.id ⟨t, M⟩ xs from rfl] at hown
        go_wp2
        go_ret
        obtain ⟨A', c', rfl⟩ := own_form hown
        exact ⟨A', _, c', rfl, rfl, hown, hbel⟩
      | false =>
        have HS := Lib.hid (banL_rest hM)
        have HT := Lib.hid ((til_rest (m := m) hM).symm.trans HMV.out)
        have hl2 : (banL Bn.id (⟨t, M⟩ : Bn) false xs).length ≤ 1048576 := by rw [show banL Bn.id (⟨t, M⟩ : Bn) false xs = xs from rfl]; omega
        go_wp2_with (first | (at_builtin; refine wpList_append_own _ rfl (.tmp 51) (.tmp 55) 68 rfl w.heap.size 136 i0 (.agg #[.int .i64 0, .int .i64 0]) 2 16 Try.underlying68 hi hz0 hz1 hz2 rfl (by decide) _ _ _ rfl (hown.alloc _) ⟨wr.heap.size, 0, none⟩ 1 1 [.int .i64 t, .int .i64 m] rfl rfl (one_cellsG wr _ _ _ (by simp)) (bnC_ne ⟨t, m⟩) (by unfold maxLen; (try simp); omega) (by (try simp); omega) (by simp; omega) ?_; intro v2 w2 ho2 hg2 _))
        obtain ⟨o2, b2⟩ := app_one (V := wr) (y := (⟨t, m⟩ : Bn)) (Nat.le_refl _) rfl hown hbel ho2 hg2
        clear ho2 hg2
        rw [HT.out] at o2
        rw [HS.out] at o2
        go_ret
        obtain ⟨A', c', rfl⟩ := own_form o2
        exact ⟨A', _, c', rfl, rfl, o2, b2⟩
set_option maxHeartbeats 6400000 in
theorem l05Read_any (A : Option Addr) (n c : Nat) (xs : List Bn) (t m : Int) (w : World) (h : SRow 2 bnC w w.heap.size A n xs) (hr : Rise Bn.id xs) (hn : n ≤ 1048576) :
    Calls Try.prog 97 #[.slice A n c, .int .i64 t, .int .i64 m] w fun e w' => ∃ A' k c', e = .returned (.slice A' k c') ∧ k = (tellB xs t m).length ∧ w'.ownsRow w.heap.size 139 2 (.slice A' k c') k ((tellB xs t m).flatMap bnC) ∧ Below w.heap.size w w' := by
  rw [tellB_til]
  obtain ⟨i0, hi, hz0, hz1, hz2⟩ := info_parts Try.info_Mark
  obtain ⟨M, hM⟩ : ∃ z, tilB xs t m = z := ⟨_, rfl⟩
  have HMV := Lib.hid hM
  have HR := Lib.hid hr
  rw [hM]
  clear hM hr
  have HL := Lib.hid h.1
  have ho := World.ownsRow_made w (base := w.heap.size) (e := 139) (size := 2) #[] 0 (Nat.le_refl _) (by decide) rfl
  have hb0 := (Below.refl w.heap.size w).alloc (Nat.le_refl _) (.cells #[] 139)
  go_enter Try.func97, Try.ntmps97
  go_wp2
  go_loopw [7, 8, 14] (fun v pv i wr => ∃ (k : Nat) (pb : Bool), k ≤ n ∧ pv = .bool pb ∧ i = .int .i64 k ∧ wr.ownsRow w.heap.size 139 2 v (banL Bn.id (⟨t, M⟩ : Bn) pb (xs.take k)).length ((banL Bn.id (⟨t, M⟩ : Bn) pb (xs.take k)).flatMap bnC) ∧ banM Bn.id (⟨t, M⟩ : Bn) pb (xs.take k) ∧ Below w.heap.size w wr) (fun _ _ i _ => n - (intOf i).toNat)
  case atStart => exact ⟨0, false, by omega, rfl, rfl, ho, by simp [banM], hb0⟩
  case round =>
    obtain ⟨k, pb, hk, rfl, rfl, hown, hM, hbel⟩ := hrel
    clear ho hb0
    have hbs := hbel.size
    by_cases hlt : k < n
    · obtain ⟨b, off, z, rfl, hb, hz, c0, c1⟩ := h.atbn hlt
      have d0 : wr.cell? ⟨b, off + k * 2, none⟩ = some (.int .i64 z.id) := (hbel.cell hb).trans c0
      have d1 : wr.cell? ⟨b, off + k * 2 + 1, none⟩ = some (.int .i64 z.til) := (hbel.cell hb).trans c1
      have hln := banL_len (k := Bn.id) (x := (⟨t, M⟩ : Bn)) (put := pb) (xs := xs) (n := k)
      have i0' : (0 : Int) ≤ (k : Int) := Int.natCast_nonneg _
      have i1' : (k : Int) < (n : Int) := by omega
      have HM := Lib.hid hM
      clear c0 c1 h hM
      obtain ⟨B0, q0, rfl⟩ := own_form hown
      have hX : some wr.heap.size ≠ (Value.slice B0 (banL Bn.id (⟨t, M⟩ : Bn) pb (xs.take k)).length q0).ownBlock := fun e => Nat.lt_irrefl _ (hown.lt _ e.symm).2
      cases pb with
      | true =>
        have hgt := ban_no_put HR.out hz HM.out
        have HM2 := Lib.hid (banM_put HM.out)
        have HS := Lib.hid (ban_put_step HR.out hz HM.out)
        clear hz
        go_wp2_with (first | (at_builtin; refine wpList_append_own _ rfl (.tmp 44) (.tmp 46) 69 rfl w.heap.size 139 i0 (.agg #[.int .i64 0, .int .i64 0]) 2 16 Try.underlying69 hi hz0 hz1 hz2 rfl (by decide) _ _ _ rfl ((hown.alloc _).alloc _) ⟨wr.heap.size + 1, 0, none⟩ 1 1 [.int .i64 z.id, .int .i64 z.til] rfl rfl (one_cellsG (wr.alloc (.cells #[.int .i64 z.id, .int .i64 z.til] 139)) _ _ _ (by simp)) (bnC_ne ⟨z.id, z.til⟩) (by unfold maxLen; (try simp); omega) (by (try simp); omega) (by simp; omega) ?_; intro v2 w2 ho2 hg2 _))
        obtain ⟨o2, b2⟩ := app_one (V := (wr.alloc (.cells #[.int .i64 z.id, .int .i64 z.til] 139))) (y := (⟨z.id, z.til⟩ : Bn)) (Nat.le_refl _) rfl (hown.alloc _) (hbel.alloc hbs _) ho2 hg2
        clear ho2 hg2
        go_roundw
        case rel => exact ⟨k + 1, true, by omega, rfl, by go_num, by rw [HS.out]; exact o2, HM2.out, b2⟩
        case measure => simp [intOf]; omega
      | false =>
        by_cases hge : t ≤ z.id
        · have hge' : decide (t ≤ z.id) = true := decide_eq_true hge
          have HM2 := Lib.hid (banM_now (x := (⟨t, M⟩ : Bn)) hz hge)
          by_cases hsame : z.id = t
          · have hs' : (z.id == t) = true := by simpa using hsame
            have HS := Lib.hid (ban_now_same (x := (⟨t, M⟩ : Bn)) hz HM.out hsame)
            have HT := Lib.hid ((til_same (m := m) HR.out hz hsame).symm.trans HMV.out)
            clear hz hge
            subst hsame
            go_wp2_with (first | (go_at_call 141; refine (l00Max_any _ _ _).mono ?_; rw [HT.out]; rintro e w' ⟨rfl, rfl⟩) | (at_builtin; refine wpList_append_own _ rfl (.tmp 44) (.tmp 46) 69 rfl w.heap.size 139 i0 (.agg #[.int .i64 0, .int .i64 0]) 2 16 Try.underlying69 hi hz0 hz1 hz2 rfl (by decide) _ _ _ rfl ((hown.alloc _).alloc _) ⟨wr.heap.size + 1, 0, none⟩ 1 1 [.int .i64 z.id, .int .i64 M] rfl rfl (one_cellsG (wr.alloc (.cells #[.int .i64 z.id, .int .i64 M] 139)) _ _ _ (by simp)) (bnC_ne ⟨z.id, M⟩) (by unfold maxLen; (try simp); omega) (by (try simp); omega) (by simp; omega) ?_; intro v2 w2 ho2 hg2 _))
            obtain ⟨o2, b2⟩ := app_one (V := (wr.alloc (.cells #[.int .i64 z.id, .int .i64 M] 139))) (y := (⟨z.id, M⟩ : Bn)) (Nat.le_refl _) rfl (hown.alloc _) (hbel.alloc hbs _) ho2 hg2
            clear ho2 hg2
            go_roundw
            case rel => exact ⟨k + 1, true, by omega, rfl, by go_num, by rw [HS.out]; exact o2, HM2.out, b2⟩
            case measure => simp [intOf]; omega
          · have hs' : (z.id == t) = false := by simpa using hsame
            have hlt2 : t < z.id := by omega
            have HS := Lib.hid (ban_now_more (x := (⟨t, M⟩ : Bn)) hz HM.out hlt2)
            have HT := Lib.hid ((til_more (m := m) HR.out hz HM.out hlt2).symm.trans HMV.out)
            clear hz hge
            go_wp2_with (first | (at_builtin; refine wpList_append_own _ rfl (.tmp 38) (.tmp 42) 69 rfl w.heap.size 139 i0 (.agg #[.int .i64 0, .int .i64 0]) 2 16 Try.underlying69 hi hz0 hz1 hz2 rfl (by decide) _ _ _ rfl ((hown.alloc _).alloc _) ⟨wr.heap.size + 1, 0, none⟩ 1 1 [.int .i64 t, .int .i64 m] rfl rfl (one_cellsG (wr.alloc (.cells #[.int .i64 z.id, .int .i64 z.til] 139)) _ _ _ (by simp)) (bnC_ne ⟨t, m⟩) (by unfold maxLen; (try simp); omega) (by (try simp); omega) (by simp; omega) ?_; intro v2 w2 ho2 hg2 _; obtain ⟨o2, b2⟩ := app_one (V := (wr.alloc (.cells #[.int .i64 z.id, .int .i64 z.til] 139))) (y := (⟨t, m⟩ : Bn)) (Nat.le_refl _) rfl (hown.alloc _) (hbel.alloc hbs _) ho2 hg2; have kx := app_blk (et := 139) (cs := [.int .i64 t, .int .i64 m]) (Blk.new wr 139 #[.int .i64 z.id, .int .i64 z.til]) hX hg2; have y0 := kx.cell 0; have y1 := kx.cell 1; have hsz2 := b2.size) | (at_builtin; refine wpList_append_own _ rfl (.tmp 44) (.tmp 46) 69 rfl w.heap.size 139 i0 (.agg #[.int .i64 0, .int .i64 0]) 2 16 Try.underlying69 hi hz0 hz1 hz2 rfl (by decide) _ _ _ rfl (o2.alloc _) ⟨w2.heap.size, 0, none⟩ 1 1 [.int .i64 z.id, .int .i64 z.til] rfl rfl (one_cellsG w2 _ _ _ (by simp)) (bnC_ne ⟨z.id, z.til⟩) (by unfold maxLen; (try simp); omega) (by (try simp); omega) (by simp; omega) ?_; intro v3 w3 ho3 hg3 _))
            obtain ⟨o3, b3⟩ := app_one (V := w2) (y := (⟨z.id, z.til⟩ : Bn)) (Nat.le_refl _) rfl o2 b2 ho3 hg3
            clear ho2 hg2 ho3 hg3
            go_roundw
            case rel => exact ⟨k + 1, true, by omega, rfl, by go_num, by rw [HS.out, ← HT.out]; exact o3, HM2.out, b3⟩
            case measure => simp [intOf]; omega
        · have hge' : decide (t ≤ z.id) = false := decide_eq_false hge
          have HM2 := Lib.hid (banM_no (x := (⟨t, M⟩ : Bn)) hz HM.out hge)
          have HS := Lib.hid (ban_no_step (k := Bn.id) (x := (⟨t, M⟩ : Bn)) hz)
          clear hz hge
          go_wp2_with (first | (at_builtin; refine wpList_append_own _ rfl (.tmp 44) (.tmp 46) 69 rfl w.heap.size 139 i0 (.agg #[.int .i64 0, .int .i64 0]) 2 16 Try.underlying69 hi hz0 hz1 hz2 rfl (by decide) _ _ _ rfl ((hown.alloc _).alloc _) ⟨wr.heap.size + 1, 0, none⟩ 1 1 [.int .i64 z.id, .int .i64 z.til] rfl rfl (one_cellsG (wr.alloc (.cells #[.int .i64 z.id, .int .i64 z.til] 139)) _ _ _ (by simp)) (bnC_ne ⟨z.id, z.til⟩) (by unfold maxLen; (try simp); omega) (by (try simp); omega) (by simp; omega) ?_; intro v2 w2 ho2 hg2 _))
          obtain ⟨o2, b2⟩ := app_one (V := (wr.alloc (.cells #[.int .i64 z.id, .int .i64 z.til] 139))) (y := (⟨z.id, z.til⟩ : Bn)) (Nat.le_refl _) rfl (hown.alloc _) (hbel.alloc hbs _) ho2 hg2
          clear ho2 hg2
          go_roundw
          case rel => exact ⟨k + 1, false, by omega, rfl, by go_num, by rw [HS.out]; exact o2, HM2.out, b2⟩
          case measure => simp [intOf]; omega
    · have hkn : k = n := by omega
      subst hkn
      rw [List.take_of_length_le (by have := HL.out; omega)] at hown hM
      have hlen : xs.length = k := HL.out
      cases pb with
      | true =>
        rw [show banL Bn.id (⟨t, M⟩ : Bn) true xs = putK Bn.id ⟨t, M⟩ xs from rfl] at hown
        go_wp2
        go_ret
        obtain ⟨A', c', rfl⟩ := own_form hown
        exact ⟨A', _, c', rfl, rfl, hown, hbel⟩
      | false =>
        have HS := Lib.hid (banL_rest hM)
        have HT := Lib.hid ((til_rest (m := m) hM).symm.trans HMV.out)
        have hl2 : (banL Bn.id (⟨t, M⟩ : Bn) false xs).length ≤ 1048576 := by rw [show banL Bn.id (⟨t, M⟩ : Bn) false xs = xs from rfl]; omega
        go_wp2_with (first | (at_builtin; refine wpList_append_own _ rfl (.tmp 51) (.tmp 55) 69 rfl w.heap.size 139 i0 (.agg #[.int .i64 0, .int .i64 0]) 2 16 Try.underlying69 hi hz0 hz1 hz2 rfl (by decide) _ _ _ rfl (hown.alloc _) ⟨wr.heap.size, 0, none⟩ 1 1 [.int .i64 t, .int .i64 m] rfl rfl (one_cellsG wr _ _ _ (by simp)) (bnC_ne ⟨t, m⟩) (by unfold maxLen; (try simp); omega) (by (try simp); omega) (by simp; omega) ?_; intro v2 w2 ho2 hg2 _))
        obtain ⟨o2, b2⟩ := app_one (V := wr) (y := (⟨t, m⟩ : Bn)) (Nat.le_refl _) rfl hown hbel ho2 hg2
        clear ho2 hg2
        rw [HT.out] at o2
        rw [HS.out] at o2
        go_ret
        obtain ⟨A', c', rfl⟩ := own_form o2
        exact ⟨A', _, c', rfl, rfl, o2, b2⟩
end Go.Proofs.Ytdpclbmcmgknjaa
