import Derived.Test.YtmdoddikaaaamaaChecked
import Derived.WalkKit
import Derived.ProofKit
import Derived.OpenShut
import Derived.ShutString
import Derived.ChangeOld
import Derived.Below
import Derived.Lib.Hide
import Derived.MapKept
import Derived.Maps.OwnSet
import Derived.Maps.OwnOps
import Derived.Deep.CutRange
import Derived.Test.YtmdoddikaaaamaaZPtsM
import Derived.Test.YtmdoddikaaaamaaZStrI
import Derived.Test.YtmdoddikaaaamaaZCalmQ
namespace Go.Proofs.Ytmdoddikaaaamaa
open Go.ChangeShapes Go.WideShapes Go.ChangeAt Go.RowKit
open Go.ChangeMaps (open_string shut_string)
set_option linter.unusedVariables false
open Go.Maps
set_option maxRecDepth 100000
theorem zeroN (w : World) : (zeroValue 2).run Try.prog w = .ok (.int .i64 0) w := by kernel_rfl
theorem makeMapN (w : World) : (Instr.makeMap 92 none).run Try.prog w = .ok (.map (some w.heap.size)) (w.alloc (.map #[] 0)) := by
  simp [Instr.makeMap, Result.andThen]
def TalOut (ok : Bool) (at_ fade : Int) (xs : List Iv) (w : World) (e : Ending) (w' : World) : Prop :=
  (if ok = true then ∃ g N, e = .returned (.tuple #[.map (some g), .bool true]) ∧ w.heap.size ≤ g ∧ w'.ownsMap Try.prog 2 heldR g N (tabD Bn.id numV (talL at_ fade xs)) else e = .returned (.tuple #[.map none, .bool false])) ∧ Below w.heap.size w w'
set_option maxHeartbeats 12800000 in
theorem pointsAt_any (A : Option Addr) (n c : Nat) (xs : List Iv) (at_ fade : Int) (w : World) (h : SRow 3 ivC w w.heap.size A n xs) (hn : n ≤ 1048576) :
    Calls Try.prog 81 #[.slice A n c, .int .i64 at_, .int .i64 fade] w fun e w' => TalOut (strikesB xs && (tickB at_ && spanB fade)) at_ fade xs w e w' := by
  have HL := Lib.hid h.1
  have HH := Lib.hid h
  have hmm := makeMapN
  go_enter Try.func81, Try.ntmps81
  have no : ∀ {w1 : World}, (strikesB xs && (tickB at_ && spanB fade)) = false → Below w.heap.size w w1 → TalOut (strikesB xs && (tickB at_ && spanB fade)) at_ fade xs w (.returned (.tuple #[.map none, .bool false])) w1 := fun e hb => ⟨by rw [e]; simp, hb⟩
  go_wp2_with fail
  cases hs : strikesB xs with
  | false =>
    go_at_call 47; refine (impl_AreStrikes_any _ _ _ xs _ h hn).mono ?_; rw [hs]; rintro e w1 ⟨rfl, hb1⟩
    go_wp2
    all_goals exact bodyPost_ret (v := .tuple #[.map none, .bool false]) (by simp [results, Try.results81, go_sem]) rfl (no (by rw [hs]; rfl) hb1)
  | true =>
    go_at_call 47; refine (impl_AreStrikes_any _ _ _ xs _ h hn).mono ?_; rw [hs]; rintro e w1 ⟨rfl, hb1⟩
    cases ha : tickB at_ with
    | false =>
      go_wp2_with (go_at_call 58; refine (isTick_b at_ _ _ ha).mono ?_; rintro e w2 ⟨rfl, rfl⟩)
      all_goals exact bodyPost_ret (v := .tuple #[.map none, .bool false]) (by simp [results, Try.results81, go_sem]) rfl (no (by rw [ha]; simp) hb1)
    | true =>
      cases hf : spanB fade with
      | false =>
        go_wp2_with (first | (go_at_call 58; refine (isTick_b at_ _ _ ha).mono ?_; rintro e w2 ⟨rfl, rfl⟩) | (go_at_call 57; refine (isSpan_b fade _ _ hf).mono ?_; rintro e w2 ⟨rfl, rfl⟩))
        all_goals exact bodyPost_ret (v := .tuple #[.map none, .bool false]) (by simp [results, Try.results81, go_sem]) rfl (no (by rw [hf]; simp) hb1)
      | true =>
        obtain ⟨hs1, hs2⟩ := strikes_ok hs
        have HS2 := Lib.hid hs2
        have hat : 0 ≤ at_ ∧ at_ ≤ 1000000 := by simpa [tickB] using ha
        have hfa : 1 ≤ fade ∧ fade ≤ 1000000 := by simpa [spanB] using hf
        have hn64 : n ≤ 64 := by rw [← HL.out]; exact hs1
        clear hs2
        go_upto_region 3 with (first | (go_at_call 58; refine (isTick_b at_ _ _ ha).mono ?_; rintro e w2 ⟨rfl, rfl⟩) | (go_at_call 57; refine (isSpan_b fade _ _ hf).mono ?_; rintro e w2 ⟨rfl, rfl⟩))
        go_upto_region 5 with fail
        obtain ⟨kw0, hb2⟩ := one_box w1 102 #[.int .i64 1, .int .i64 2, .int .i64 4]
        have hz : (w1.alloc (.cells #[.int .i64 1, .int .i64 2, .int .i64 4] 102)).heap.size = w1.heap.size + 1 := by simp
        generalize w1.alloc (.cells #[.int .i64 1, .int .i64 2, .int .i64 4] 102) = w2 at *
        have hb3 := hb1.trans (hb2.mono hb1.size)
        have hgb : w.heap.size ≤ w2.heap.size := hb3.size
        have hm0 := World.ownsMap_made w2 Try.prog 2 heldR
        have kw1 := kw0.below ((Below.refl _ _).alloc (Nat.le_refl _) (.map #[] 0)) kw0.lt
        have hb4 := hb3.alloc hgb (.map #[] 0)
        obtain ⟨gw, hgw⟩ : ∃ g, w1.heap.size = g := ⟨_, rfl⟩
        have hgs := hb1.size
        rw [hz, hgw] at hm0 hgb
        rw [hgw] at kw1 hgs
        simp only [hgw]
        generalize w2.alloc (.map #[] 0) = w3 at *
        clear hb1 hb2 hb3 kw0 hz hgw no hmm
        go_wp2
        go_loopw [29] (fun i wr => ∃ k N : Nat, k ≤ n ∧ N ≤ k ∧ i = .int .i64 k ∧ wr.ownsMap Try.prog 2 heldR (gw + 1) N (tabD Bn.id numV (talL at_ fade (xs.take k))) ∧ Blk wr gw 102 #[.int .i64 1, .int .i64 2, .int .i64 4] ∧ Below w.heap.size w wr) (fun i _ => n - (RowKit.intOf i).toNat)
        case atStart => exact ⟨0, 0, by omega, by omega, rfl, hm0, kw1, hb4⟩
        case round =>
          obtain ⟨k, N, hk, hN, rfl, hown, kw, hbel⟩ := hrel
          clear hm0 kw1 hb4
          have hbs := hbel.size
          by_cases hlt : k < n
          · obtain ⟨b, off, z, rfl, hb, hz, c0, c1, c2⟩ := h.ativ hlt
            have hlt' : decide ((k : Int) < (n : Int)) = true := decide_eq_true (by omega)
            have HST := Lib.hid (talL_step (at_ := at_) (fade := fade) hz)
            have hok := HS2.out z (List.mem_of_getElem? hz)
            have HOK := Lib.hid hok
            have d0 := (hbel.cell (p := ⟨b, off + k * 3, none⟩) hb).trans c0
            have d1 := (hbel.cell (p := ⟨b, off + k * 3 + 1, none⟩) hb).trans c1
            have d2 := (hbel.cell (p := ⟨b, off + k * 3 + 2, none⟩) hb).trans c2
            have hwf := wf_id (t := z.id) (by simp [skB] at hok; exact hok.1.1.1)
            have hz3 : (0 ≤ z.byy ∧ z.byy ≤ 2) ∧ 0 ≤ z.til ∧ z.til ≤ 1000000 := by simp [skB, tickB] at hok; omega
            obtain ⟨⟨hk0, hk2⟩, ht0, ht1⟩ := hz3
            clear hz c0 c1 c2 h hok
            go_upto_region 8 with fail
            obtain ⟨kz, ha1⟩ := one_box wr 70 #[.int .i64 z.id, .int .i64 z.byy, .int .i64 z.til]
            have hownA := hown.alloc (.cells #[.int .i64 z.id, .int .i64 z.byy, .int .i64 z.til] 70)
            have kwA := kw.below ha1 kw.lt
            generalize wr.alloc (.cells #[.int .i64 z.id, .int .i64 z.byy, .int .i64 z.til] 70) = wa at *
            have hb1 := hbel.trans (ha1.mono hbs)
            clear hown kw ha1 d0 d1 d2 hbel
            obtain ⟨gz, hgz⟩ : ∃ g, wr.heap.size = g := ⟨_, rfl⟩
            rw [hgz] at kz
            simp only [hgz]
            by_cases h2 : z.til ≤ at_
            rotate_left
            · have x2 : decide (z.til ≤ at_) = false := decide_eq_false h2
              have HE := Lib.hid (show talL at_ fade (xs.take (k + 1)) = talL at_ fade (xs.take k) by rw [HST.out]; unfold talS; rw [if_neg h2])
              have k2 := kz.cell 2
              go_wp2
              go_roundw
              case rel => exact ⟨k + 1, N, by omega, by omega, by go_num, by rw [HE.out]; exact hownA, kwA, hb1⟩
              case measure => simp [RowKit.intOf]; omega
            have x2 : decide (z.til ≤ at_) = true := decide_eq_true h2
            have k2 := kz.cell 2
            go_upto_region 9 with fail
            clear k2
            have hbd := pts_bd (m := z.id) (at_ := at_) (fade := fade) (xs.take k) (fun y hy => HS2.out y (List.mem_of_mem_take hy))
            have hbl : ((xs.take k).length : Int) ≤ 64 := by rw [List.length_take]; omega
            rw [← lk0_tal] at hbd
            obtain ⟨T, hT⟩ : ∃ T, talL at_ fade (xs.take k) = T := ⟨_, rfl⟩
            have HTS := Lib.hid (show talL at_ fade (xs.take (k + 1)) = addB T z.id (ptZ at_ fade z) by rw [HST.out, hT]; unfold talS; rw [if_pos h2])
            rw [hT] at hbd hownA
            obtain ⟨sm, hsm⟩ : ∃ s, lk0 T z.id = s := ⟨_, rfl⟩
            have q0 := div_small (at_ - z.til) fade (by omega) hfa.1
            obtain ⟨K, hK⟩ : ∃ K : Nat, (at_ - z.til) / fade = (K : Int) := ⟨((at_ - z.til) / fade).toNat, by omega⟩
            have hK6 : K ≤ 1000000 := by omega
            have f0 : IntKind.i64.wrap (at_ - z.til) = at_ - z.til := IntWalk.i64_in _ (by omega)
            have f1 : IntKind.i64.wrap ((at_ - z.til).tdiv fade) = (K : Int) := by rw [← hK]; exact IntWalk.i64_quo _ _ (by omega)
            have f3 : fade ≠ 0 := by omega
            have HZ := Lib.hid (show ptZ at_ fade z = (2 : Int) ^ z.byy.toNat / (2 : Int) ^ K by unfold ptZ; rw [hK]; rfl)
            rw [hsm] at hbd
            have hlk := look_num kInt Try.underlying92 Try.underlying2 (zeroN wa.drew) (show wa.drew.ownsMap Try.prog 2 heldR (gw + 1) N (tabD Bn.id numV T) from hownA) z.id hwf
            rw [hsm] at hlk
            have hbp := pt_bd (at_ := at_) (fade := fade) (z := z) HOK.out
            obtain ⟨v, hv⟩ : ∃ v, ptZ at_ fade z = v := ⟨_, rfl⟩
            rw [hv] at hbp
            have HV := Lib.hid hv
            have f4 : IntKind.i64.wrap (sm + v) = sm + v := IntWalk.i64_in _ (by omega)
            obtain ⟨w4, hrun4, hown4, hturn4⟩ := (show wa.drew.ownsMap Try.prog 2 heldR (gw + 1) N (tabD Bn.id numV T) from hownA).store kInt Try.underlying92 (by unfold maxLen; omega) (keyOf_int_mk Try.underlying2 hwf) (show heldR (.int .i64 (sm + v)) = some (.held (numV ⟨z.id, sm + v⟩), []) from rfl)
            have kz' : Blk wa.drew gz 70 #[.int .i64 z.id, .int .i64 z.byy, .int .i64 z.til] := kz
            have kw' : Blk wa.drew gw 102 #[.int .i64 1, .int .i64 2, .int .i64 4] := kwA
            have p0 := kz'.cell 0
            have p1 := kz'.cell 1
            have p2 := kz'.cell 2
            have HEND := Lib.hid (show w4.ownsMap Try.prog 2 heldR (gw + 1) (N + 1) (tabD Bn.id numV (talL at_ fade (xs.take (k + 1)))) ∧ Blk w4 gw 102 #[.int .i64 1, .int .i64 2, .int .i64 4] ∧ Below w.heap.size w w4 from
              ⟨by rw [HTS.out]; unfold addB; rw [hsm, hv, ← tab_put (k := Bn.id) (v := numV)]; exact hown4, kw'.turned hturn4, below_map hb1.drew hturn4 hb1.drew.size hgb⟩)
            clear hown4 hturn4 hv
            rcases (show z.byy = 0 ∨ z.byy = 1 ∨ z.byy = 2 by omega) with e | e | e
            · have r := kw'.cell 0
              have HVK := HV.out
              rw [HZ.out, e, show (2 : Int) ^ (0 : Int).toNat = 1 from rfl, ← shr_min _ _ (by decide) (by decide)] at HVK
              rw [e] at p1
              clear HV HZ HST HTS HOK h2 hT hsm hownA kwA kz kz' kw' hbd hbp hbl q0 hwf hk0 hk2 e
              go_region_with fail
              all_goals (go_wp2; go_roundw)
              all_goals first | exact ⟨k + 1, N + 1, by omega, by omega, by go_num, HEND.out.1, HEND.out.2.1, HEND.out.2.2⟩ | (simp [RowKit.intOf]; omega)
            · have r := kw'.cell 1
              have HVK := HV.out
              rw [HZ.out, e, show (2 : Int) ^ (1 : Int).toNat = 2 from rfl, ← shr_min _ _ (by decide) (by decide)] at HVK
              rw [e] at p1
              clear HV HZ HST HTS HOK h2 hT hsm hownA kwA kz kz' kw' hbd hbp hbl q0 hwf hk0 hk2 e
              go_region_with fail
              all_goals (go_wp2; go_roundw)
              all_goals first | exact ⟨k + 1, N + 1, by omega, by omega, by go_num, HEND.out.1, HEND.out.2.1, HEND.out.2.2⟩ | (simp [RowKit.intOf]; omega)
            · have r := kw'.cell 2
              have HVK := HV.out
              rw [HZ.out, e, show (2 : Int) ^ (2 : Int).toNat = 4 from rfl, ← shr_min _ _ (by decide) (by decide)] at HVK
              rw [e] at p1
              clear HV HZ HST HTS HOK h2 hT hsm hownA kwA kz kz' kw' hbd hbp hbl q0 hwf hk0 hk2 e
              go_region_with fail
              all_goals (go_wp2; go_roundw)
              all_goals first | exact ⟨k + 1, N + 1, by omega, by omega, by go_num, HEND.out.1, HEND.out.2.1, HEND.out.2.2⟩ | (simp [RowKit.intOf]; omega)
          · have hkn : k = n := by omega
            subst hkn
            rw [List.take_of_length_le (by have := HL.out; omega)] at hown
            go_wp2
            refine bodyPost_ret (v := .tuple #[.map (some (gw + 1)), .bool true]) (by simp [results, Try.results81, go_sem]) rfl ?_
            exact ⟨by simp only [hs, ha, hf]; exact ⟨gw + 1, N, rfl, by omega, hown⟩, hbel⟩
end Go.Proofs.Ytmdoddikaaaamaa
