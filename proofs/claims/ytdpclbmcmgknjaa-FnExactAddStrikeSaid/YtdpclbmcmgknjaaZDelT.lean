import Derived.Test.YtdpclbmcmgknjaaChecked
import Derived.WalkKit
import Derived.ProofKit
import Derived.OpenShut
import Derived.ShutString
import Derived.ChangeOld
import Derived.Below
import Derived.Lib.Hide
import Derived.Deep.MidRow
import Derived.Laws.AppendOwn
import Derived.Shelf.Abstract
import Derived.Test.YtdpclbmcmgknjaaZDelP
import Derived.Test.YtdpclbmcmgknjaaZToT
import Derived.Test.YtdpclbmcmgknjaaJd
namespace Go.Proofs.Ytdpclbmcmgknjaa
open Go.ChangeShapes Go.WideShapes Go.ChangeAt Go.RowKit
open Go.ChangeMaps (open_string shut_string)
set_option linter.unusedVariables false
set_option maxRecDepth 100000
/-- a closure that tells of an element whether it is meant -/
def TellsT (fid : FuncId) (caps : Array Value) (p : Iv → Bool) (base : Nat) (w : World) : Prop :=
  ∀ (W : World) (z : Iv), Below base w W → base ≤ W.heap.size → Calls Try.prog fid (#[.agg #[.int .i64 z.id, .int .i64 z.byy, .int .i64 z.til]] ++ caps) W fun e W' => e = .returned (.bool (p z)) ∧ Below W.heap.size W W'
theorem oneT (xs : List Iv) : ∀ u ∈ xs.flatMap ivC, u.oneCell' = true := by
  intro u hu
  obtain ⟨x, _, hx⟩ := List.mem_flatMap.1 hu
  simp only [ivC, List.mem_cons, List.not_mem_nil, or_false] at hx
  rcases hx with rfl | rfl | rfl <;> rfl
set_option maxHeartbeats 1600000 in
theorem cloneT_any (A : Option Addr) (n c : Nat) (xs : List Iv) (w : World) (h : SRow 3 ivC w w.heap.size A n xs) (hn : n ≤ 1048576) :
    Calls Try.prog 78 #[.slice A n c] w fun e w' => ∃ A' c', e = .returned (.slice A' n c') ∧ w'.ownsRow w.heap.size 50 3 (.slice A' n c') n (xs.flatMap ivC) ∧ Below w.heap.size w w' := by
  obtain ⟨i0, hi, hz0, hz1, hz2⟩ := info_parts Try.info_Strike
  have HL := Lib.hid h.1
  go_enter Try.func78, Try.ntmps78
  cases A with
  | none =>
    have h0 : n = 0 := by
      rcases Nat.eq_zero_or_pos n with h0 | h0
      · exact h0
      · obtain ⟨b, off, e, _⟩ := h.2 h0
        cases e
    subst h0
    obtain rfl : xs = [] := List.eq_nil_of_length_eq_zero HL.out
    have he : ∀ w : World, (binOp .eql 46 (.slice none 0 c) (.slice none 0 0)).run Try.prog w = .ok (.bool true) w := fun _ => rfl
    go_wp2
    all_goals exact bodyPost_ret (v := .slice none 0 0) (by simp [results, Try.results78, go_sem]) rfl ⟨none, 0, rfl, World.ownsRow_nil _ _ _ _, Below.refl _ _⟩
  | some ad =>
    have hA := h.alloc (Nat.le_refl _) (.cells #[] 50)
    have HC := Lib.hid (srow_cells ivC_len (by decide) hA)
    have HFL := Lib.hid (flat_len ivC_len xs)
    clear hA h
    have he : ∀ w : World, (binOp .eql 46 (.slice (some ad) n c) (.slice none 0 0)).run Try.prog w = .ok (.bool false) w := fun _ => rfl
    have ho0 : (w.alloc (.cells #[] 50)).ownsRow w.heap.size 50 3 (.slice (some ⟨w.heap.size, 0, none⟩) 0 0) 0 [] := World.ownsRow_made w #[] 0 (Nat.le_refl _) (by decide) rfl
    have hb0 : w.heap.size ≤ (w.alloc (.cells #[] 50)).heap.size := by simp
    go_wp2_with (at_builtin; refine wpList_append_own _ rfl _ _ 46 rfl w.heap.size 50 i0 (.agg #[.int .i64 0, .int .i64 0, .int .i64 0]) 3 24 Try.underlying46 hi hz0 hz1 hz2 rfl (by decide) _ _ _ rfl ho0 ad n c (xs.flatMap ivC) rfl (by rw [HFL.out, HL.out]) HC.out (oneT xs) (by unfold maxLen; omega) (by omega) hb0 ?_; intro v' w5 hown' hgrow _)
    have hb : Below w.heap.size w w5 := ((Below.refl _ _).alloc (Nat.le_refl _) _).grown hgrow (by simp) (fun g hg => by cases hg; exact Nat.le_refl _)
    have ho : w5.ownsRow w.heap.size 50 3 v' n (xs.flatMap ivC) := by simpa using hown'
    clear hgrow hown'
    obtain ⟨A', c', rfl⟩ : ∃ A' c', v' = .slice A' n c' := by
      rcases ho.2 with ⟨hv, h0⟩ | ⟨g, cap, cur, hv, _⟩
      · exact ⟨none, 0, by rw [hv, h0]⟩
      · exact ⟨_, _, hv⟩
    go_wp2
    all_goals exact bodyPost_ret (v := .slice A' n c') (by simp [results, Try.results78, go_sem]) rfl ⟨_, _, rfl, ho, hb⟩
set_option maxHeartbeats 3200000 in
theorem indexT_any (fid : FuncId) (caps : Array Value) (hen : Enters Try.prog fid) (p : Iv → Bool) (A : Option Addr) (n c base : Nat) (xs : List Iv) (w : World) (h : SRow 3 ivC w w.heap.size A n xs) (hn : n ≤ 1048576) (hbw : base ≤ w.heap.size) (ht : TellsT fid caps p base w) :
    Calls Try.prog 134 #[.slice A n c, .func (.func fid) #[] caps] w fun e w' => ((e = .returned (.int .i64 (-1)) ∧ keptL p xs n = xs.take n) ∨ ∃ k z, k < n ∧ xs[k]? = some z ∧ p z = true ∧ keptL p xs k = xs.take k ∧ e = .returned (.int .i64 k)) ∧ Below w.heap.size w w' := by
  unfold Enters at hen
  go_enter Try.func134, Try.ntmps134
  go_wp2
  go_loopw [8] (fun i wr => ∃ (k : Nat), k ≤ n ∧ i = .int .i64 k ∧ keptL p xs k = xs.take k ∧ Below w.heap.size w wr) (fun i _ => n - (intOf i).toNat)
  case atStart => exact ⟨0, by omega, rfl, by simp [keptL], Below.refl _ _⟩
  case round =>
    obtain ⟨k, hk, rfl, hkp, hbel⟩ := hrel
    by_cases hlt : k < n
    · have hlt' : decide ((k : Int) < (n : Int)) = true := decide_eq_true (by omega)
      obtain ⟨b, off, z, rfl, hb, hz, c0, c1, c2⟩ := (h.below hbel).ativ hlt
      have cc := ht wr z (hbel.mono hbw) (Nat.le_trans hbw hbel.size)
      have HZ := Lib.hid hz
      have HK := Lib.hid hkp
      have hbs := hbel.size
      have HT := Lib.hid ht
      have HH := Lib.hid h
      clear hz hkp ht h
      cases hp : p z with
      | true =>
        rw [hp] at cc
        have HP := Lib.hid hp
        clear hp
        go_wp2_with fail
        go_at_fn fid; refine cc.mono ?_; rintro e w1 ⟨rfl, hb1⟩
        have hbel := hbel.trans (hb1.mono hbs)
        go_wp2
        go_ret
        exact ⟨.inr ⟨k, z, hlt, HZ.out, HP.out, HK.out, rfl⟩, hbel⟩
      | false =>
        rw [hp] at cc
        have HS := Lib.hid (show keptL p xs (k + 1) = xs.take (k + 1) by rw [keptL_no HZ.out hp, HK.out, List.take_add_one, HZ.out]; rfl)
        clear hp
        go_wp2_with fail
        go_at_fn fid; refine cc.mono ?_; rintro e w1 ⟨rfl, hb1⟩
        have hbel := hbel.trans (hb1.mono hbs)
        go_wp2
        go_roundw
        case rel => exact ⟨k + 1, by omega, by go_num, HS.out, hbel⟩
        case measure => simp [intOf]; omega
    · have hlt' : decide ((k : Int) < (n : Int)) = false := decide_eq_false (by omega)
      have hkn : k = n := by omega
      subst hkn
      have HK := Lib.hid hkp
      clear hkp
      go_wp2
      go_ret
      exact ⟨.inl ⟨rfl, HK.out⟩, hbel⟩
set_option maxHeartbeats 6400000 in
theorem deleteT_any (fid : FuncId) (caps : Array Value) (hen : Enters Try.prog fid) (p : Iv → Bool) (A : Option Addr) (n c base : Nat) (xs : List Iv) (w : World) (h : w.ownsRow base 50 3 (.slice A n c) n (xs.flatMap ivC)) (hn : n ≤ 1048576) (hbw : base ≤ w.heap.size) (ht : TellsT fid caps p base w) :
    Calls Try.prog 77 #[.slice A n c, .func (.func fid) #[] caps] w fun e w' => ∃ A' n' c', e = .returned (.slice A' n' c') ∧ w'.ownsRow base 50 3 (.slice A' n' c') n' ((xs.filter fun x => !p x).flatMap ivC) ∧ Below base w w' := by
  have HLX := Lib.hid (show xs.length = n by have q := h.1; rw [flat_len ivC_len] at q; omega)
  have ci := indexT_any fid caps hen p A n c base xs w (SRow.of_own_any ivC_len (by omega) h) hn hbw ht
  unfold Enters at hen
  go_enter Try.func77, Try.ntmps77
  go_wp2_with fail
  go_at_call 134; refine ci.mono ?_; rintro e w1 ⟨hy, hb1⟩
  have h1 := own_below h hb1 (Nat.le_refl _)
  have hbel1 := hb1.mono hbw
  have hsz1 := Nat.le_trans hbw hb1.size
  clear h ci hb1
  rcases hy with ⟨rfl, hk⟩ | ⟨k0, z0, hk0, hz0, hp0, hkk, rfl⟩
  · have HK := Lib.hid (show xs.filter (fun x => !p x) = xs by rw [← keptL_all (p := p) (j := n) (by have := HLX.out; omega), hk, List.take_of_length_le (by have := HLX.out; omega)])
    clear hk
    go_wp2
    go_ret
    exact ⟨_, _, _, rfl, by rw [HK.out]; exact h1, hbel1⟩
  · obtain ⟨g, rfl⟩ : ∃ g, A = some ⟨g, 0, none⟩ := by
      rcases h1.2 with ⟨hv, h0⟩ | ⟨g, cap, cur, hv, _⟩
      · omega
      · injection hv with hv; exact ⟨g, hv⟩
    have hnc : n ≤ c := by
      rcases h1.2 with ⟨hv, h0⟩ | ⟨g', cap, cur, hv, _, _, hc, _⟩
      · cases hv
      · cases hv; exact hc
    have HK1 := Lib.hid (keptL_yes hz0 hp0)
    have HL0 := Lib.hid (show (keptL p xs k0).length = k0 by rw [hkk, List.length_take]; have := HLX.out; omega)
    have hs0 : (keptL p xs (k0 + 1) ++ xs.drop k0) = xs := by rw [HK1.out, hkk, List.take_append_drop]
    have HS0 := Lib.hid hs0
    clear hz0 hp0 hkk hs0
    have hk1 : ((k0 : Int) == -1) = false := by simp
    go_wp2
    go_loopw [5, 6] (fun i j wr => ∃ (k m : Nat), i = .int .i64 k ∧ j = .int .i64 m ∧ m ≤ n ∧ k < m ∧ (keptL p xs m).length = k ∧ wr.ownsRow base 50 3 (.slice (some ⟨g, 0, none⟩) n c) n ((keptL p xs m ++ xs.drop k).flatMap ivC) ∧ Below base w wr ∧ base ≤ wr.heap.size) (fun _ j _ => n - (intOf j).toNat)
    case atStart => exact ⟨k0, k0 + 1, rfl, by go_num, by omega, by omega, by rw [HK1.out, HL0.out], by rw [HS0.out]; exact h1, hbel1, hsz1⟩
    case round =>
      obtain ⟨k, m, rfl, rfl, hm, hkm, hlen, hown, hbel, hsz⟩ := hrel
      clear h1 hbel1 hsz1
      by_cases hlt : m < n
      · have hlt' : decide ((m : Int) < (n : Int)) = true := decide_eq_true (by omega)
        obtain ⟨z, hz⟩ : ∃ z, xs[m]? = some z := ⟨xs[m]'(by have := HLX.out; omega), List.getElem?_eq_getElem _⟩
        have HZ := Lib.hid hz
        have hR := SRow.of_own_any ivC_len (by omega) hown
        obtain ⟨b, off, z', e', hb, hz', c0, c1, c2⟩ := hR.ativ hlt
        obtain rfl : z' = z := by rw [at_kept hlen (by omega) hz] at hz'; exact (Option.some.inj hz').symm
        injection e' with e'; injection e' with e1 e2 _; subst e1; subst e2
        simp only [Nat.zero_add] at c0 c1 c2
        have HT := Lib.hid ht
        have HLN := Lib.hid hlen
        clear hz hz' hlen hR
        go_wp2_with fail
        obtain ⟨km, hbm⟩ := one_box wr 50 #[.int .i64 z'.id, .int .i64 z'.byy, .int .i64 z'.til]
        have hown := own_below hown hbm (Nat.le_refl _)
        have hbel := hbel.trans (hbm.mono hsz)
        have hsz := Nat.le_trans hsz hbm.size
        clear hbm c0 c1 c2
        generalize wr.heap.size = gm at *
        generalize wr.alloc (.cells #[.int .i64 z'.id, .int .i64 z'.byy, .int .i64 z'.til] 50) = U at *
        have cc := ht U z' hbel hsz
        have HO := Lib.hid hown
        clear hown ht
        have m0 := km.cell 0; have m1 := km.cell 1; have m2 := km.cell 2
        have kml := km.lt
        go_wp2_with fail
        clear m0 m1 m2 kml
        cases hp : p z' with
        | true =>
          rw [hp] at cc
          have HS := Lib.hid (keptL_yes HZ.out hp)
          clear hp
          go_at_fn fid; refine cc.mono ?_; rintro e w2 ⟨rfl, hb2⟩
          have hown := own_below HO.out hb2 (Nat.le_refl _)
          have hbel := hbel.trans (hb2.mono hsz)
          have hsz := Nat.le_trans hsz hb2.size
          clear HO hb2
          go_wp2
          go_roundw
          case rel => exact ⟨k, m + 1, rfl, by go_num, by omega, by omega, by rw [HS.out]; exact HLN.out, by rw [HS.out]; exact hown, hbel, hsz⟩
          case measure => simp [intOf]; omega
        | false =>
          rw [hp] at cc
          have HS := Lib.hid (keptL_no HZ.out hp)
          clear hp
          go_at_fn fid; refine cc.mono ?_; rintro e w2 ⟨rfl, hb2⟩
          have km := km.below hb2 km.lt
          have m0 := km.cell 0; have m1 := km.cell 1; have m2 := km.cell 2
          have kml := km.lt
          have hown := own_below HO.out hb2 (Nat.le_refl _)
          have hbel := hbel.trans (hb2.mono hsz)
          have hsz := Nat.le_trans hsz hb2.size
          clear HO hb2
          have HTH := Lib.hid (own_there hown (k * 3) 3 (by omega))
          have HN := Lib.hid (by
            rw [List.flatMap_append] at hown
            have q := own_setCells (#[.int .i64 z'.id, .int .i64 z'.byy, .int .i64 z'.til] : Array Value).toList (k * 3) w2 _ _ hown (by rw [flat_len ivC_len, HLN.out]) (by rw [flat_len ivC_len, List.length_drop]; have := HLX.out; simp; omega)
            rw [show (keptL p xs m).flatMap ivC ++ ((#[.int .i64 z'.id, .int .i64 z'.byy, .int .i64 z'.til] : Array Value).toList ++ ((xs.drop k).flatMap ivC).drop (#[.int .i64 z'.id, .int .i64 z'.byy, .int .i64 z'.til] : Array Value).toList.length) = (keptL p xs (m + 1) ++ xs.drop (k + 1)).flatMap ivC by
              rw [HS.out, List.flatMap_append, List.flatMap_append, List.append_assoc, List.drop_eq_getElem_cons (show k < xs.length by have := HLX.out; omega), List.flatMap_cons]
              rw [List.drop_append_of_le_length (by rw [ivC_len]; simp), List.drop_of_length_le (by rw [ivC_len]; simp), List.nil_append]
              simp [ivC]] at q
            exact q)
          clear hown
          go_wp2_with (refine wpList_store_mid rfl 50 (.tmp 33) (.tmp 32) rfl g (k * 3) #[.int .i64 z'.id, .int .i64 z'.byy, .int .i64 z'.til] rfl rfl HTH.out Try.size_Strike (ivC_one z') ?_; have hst := HN.out; revert hst; generalize World.setCells _ _ _ _ = w3; intro hst)
          have hbel := hbel.grown hst.2 hsz (by intro j hj; cases hj; exact (hst.1.lt g rfl).1)
          go_roundw
          case rel => exact ⟨k + 1, m + 1, by go_num, by go_num, by omega, by omega, by rw [HS.out, List.length_append, HLN.out]; rfl, hst.1, hbel, Nat.le_trans hsz hst.2.size⟩
          case measure => simp [intOf]; omega
      · have hlt' : decide ((m : Int) < (n : Int)) = false := decide_eq_false (by omega)
        obtain rfl : m = n := by omega
        have HF := Lib.hid (keptL_all (p := p) (xs := xs) (j := m) (by have := HLX.out; omega))
        have hth := own_there hown (k * 3) ((m - k) * 3) (by omega)
        obtain ⟨vs, hvl, hcl⟩ := run_clear_cells (P := Try.prog) wr 46 50 (.agg #[.int .i64 0, .int .i64 0, .int .i64 0]) Try.underlying46 (fun _ => by rfl) (by intro u hu; simp [Value.cells] at hu; rcases hu with rfl | rfl | rfl <;> rfl) (by decide) g (k * 3) (m - k) (c - k) (by omega) hth
        have HN := Lib.hid (by
          rw [List.flatMap_append] at hown
          have q := own_setCells vs (k * 3) wr _ _ hown (by rw [flat_len ivC_len, hlen]) (by rw [flat_len ivC_len, List.length_drop, hvl]; have := HLX.out; simp [Value.cells]; omega)
          have q1 := own_prefix (k := k) q.1 (by omega)
          rw [List.take_append_of_le_length (by rw [flat_len ivC_len, hlen]; omega), List.take_of_length_le (by rw [flat_len ivC_len, hlen]; omega), HF.out] at q1
          exact And.intro q1 q.2)
        clear hth hvl hown hlen
        go_wp2
        go_ret
        exact ⟨_, _, _, rfl, HN.out.1, hbel.grown HN.out.2 hsz (by intro j hj; cases hj; exact (HN.out.1.lt g rfl).1)⟩
end Go.Proofs.Ytdpclbmcmgknjaa
