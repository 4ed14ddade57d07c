import Derived.Test.YtmnmmjobplbflaaGreatDoorChecked
import Derived.WalkKit
import Derived.ProofKit
import Derived.OpenShut
import Derived.ShutString
import Derived.ChangeOld
import Derived.Below
import Derived.Lib.Hide
import Derived.RegionTactic
import Derived.BigRegion
import Derived.Test.YtmnmmjobplbflaaGreatDoorJt
import Derived.Test.YtmnmmjobplbflaaGreatDoorJh
namespace Go.Proofs.YtmnmmjobplbflaaGreatDoor
open Go.ChangeShapes Go.WideShapes Go.ChangeAt Go.RowKit
open Go.ChangeMaps (open_string shut_string)
set_option linter.unusedVariables false
set_option maxRecDepth 100000
theorem below_drewN {w w' : World} (h : Below w.heap.size w w') (q : Nat) : Below w.heap.size w (w'.drewN q) := h.trans (Below.mono (drew_below ⟨q, rfl⟩) h.size)
def sameRB (o o' : Bool) (ms ms' : List Mb) (vs vs' : List Iv) (bs bs' : List Bn) : Bool := (o == o') && (decide (ms = ms') && (decide (vs = vs') && decide (bs = bs')))
set_option maxHeartbeats 3200000 in
theorem impl_SameRoom_any (o : Bool) (A1 A2 A3 : Option Addr) (n1 c1 n2 c2 n3 c3 : Nat) (ms : List Mb) (vs : List Iv) (bs : List Bn) (o' : Bool) (A1' A2' A3' : Option Addr) (n1' c1' n2' c2' n3' c3' : Nat) (ms' : List Mb) (vs' : List Iv) (bs' : List Bn) (w : World)
    (h : RoomAt w w.heap.size A1 n1 A2 n2 A3 n3 ms vs bs) (h' : RoomAt w w.heap.size A1' n1' A2' n2' A3' n3' ms' vs' bs') (hn : n1 + n2 + n3 ≤ 1048576) (hn' : n1' + n2' + n3' ≤ 1048576) :
    Calls Tryz.prog 17 #[.agg #[.bool o, .slice A1 n1 c1, .slice A2 n2 c2, .slice A3 n3 c3], .agg #[.bool o', .slice A1' n1' c1', .slice A2' n2' c2', .slice A3' n3' c3']] w fun e w' => e = .returned (.bool (sameRB o o' ms ms' vs vs' bs bs')) ∧ Below w.heap.size w w' := by
  obtain ⟨r, hr⟩ : ∃ r, sameRB o o' ms ms' vs vs' bs bs' = r := ⟨_, rfl⟩
  have HR := Lib.hid hr
  rw [hr]
  clear hr
  obtain ⟨k0, k1, hb0⟩ := two_boxes w 28 28 #[.bool o, .slice A1 n1 c1, .slice A2 n2 c2, .slice A3 n3 c3] #[.bool o', .slice A1' n1' c1', .slice A2' n2' c2', .slice A3' n3' c3']
  have h := h.to hb0
  have h' := h'.to hb0
  have l0 := k0.cell 0; have l1 := k0.cell 1; have l2 := k0.cell 2; have l3 := k0.cell 3
  have m0 := k1.cell 0; have m1 := k1.cell 1; have m2 := k1.cell 2; have m3 := k1.cell 3
  cases eo : o == o' with
  | false =>
    have HF := Lib.hid (show r = false by rw [← HR.out]; simp [sameRB, eo])
    go_enter Tryz.func17, Tryz.ntmps17
    go_wp2
    all_goals exact bodyPost_ret (v := .bool false) (by simp [results, Tryz.results17, go_sem]) rfl (And.intro (by rw [HF.out]) hb0)
  | true =>
    cases eM : decide (ms = ms') with
    | false =>
      have HF := Lib.hid (show r = false by rw [← HR.out]; simp [sameRB, eo, eM])
      go_enter Tryz.func17, Tryz.ntmps17
      go_wp2_with (first | (go_at_call 47; refine (equalM_any _ _ _ _ _ _ _ _ _ _ _ h.1 h'.1 (by omega) (by omega)).mono ?_; rw [eM]; rintro e w' ⟨rfl, qM, rfl⟩))
      all_goals exact bodyPost_ret (v := .bool false) (by simp [results, Tryz.results17, go_sem]) rfl (And.intro (by rw [HF.out]) (below_drewN hb0 qM))
    | true =>
      cases eI : decide (vs = vs') with
      | false =>
        have HF := Lib.hid (show r = false by rw [← HR.out]; simp [sameRB, eo, eM, eI])
        go_enter Tryz.func17, Tryz.ntmps17
        go_wp2_with (first | (go_at_call 47; refine (equalM_any _ _ _ _ _ _ _ _ _ _ _ h.1 h'.1 (by omega) (by omega)).mono ?_; rw [eM]; rintro e w' ⟨rfl, qM, rfl⟩) | (go_at_call 48; refine (equalI_any _ _ _ _ _ _ _ _ _ _ _ (h.2.1.drewN qM) (h'.2.1.drewN qM) (by omega) (by omega)).mono ?_; rw [eI]; rintro e w' ⟨rfl, qI, rfl⟩))
        all_goals exact bodyPost_ret (v := .bool false) (by simp [results, Tryz.results17, go_sem]) rfl (And.intro (by rw [HF.out]) (by first | exact below_drewN (below_drewN hb0 qM) qI | (have := below_drewN (below_drewN hb0 qM) qI; simpa only [World.drewN_drewN] using this)))
      | true =>
        cases eB : decide (bs = bs') with
        | false =>
          have HF := Lib.hid (show r = false by rw [← HR.out]; simp [sameRB, eo, eM, eI, eB])
          go_enter Tryz.func17, Tryz.ntmps17
          go_wp2_with (first | (go_at_call 47; refine (equalM_any _ _ _ _ _ _ _ _ _ _ _ h.1 h'.1 (by omega) (by omega)).mono ?_; rw [eM]; rintro e w' ⟨rfl, qM, rfl⟩) | (go_at_call 48; refine (equalI_any _ _ _ _ _ _ _ _ _ _ _ (h.2.1.drewN qM) (h'.2.1.drewN qM) (by omega) (by omega)).mono ?_; rw [eI]; rintro e w' ⟨rfl, qI, rfl⟩) | (go_at_call 49; refine (equalB_any _ _ _ _ _ _ _ _ _ _ _ (h.2.2.drewN (qM + qI)) (h'.2.2.drewN (qM + qI)) (by omega) (by omega)).mono ?_; rw [eB]; rintro e w' ⟨rfl, qB, rfl⟩))
          all_goals exact bodyPost_ret (v := .bool false) (by simp [results, Tryz.results17, go_sem]) rfl (And.intro (by rw [HF.out]) (by first | exact below_drewN (below_drewN (below_drewN hb0 qM) qI) qB | (have := below_drewN (below_drewN (below_drewN hb0 qM) qI) qB; simpa only [World.drewN_drewN] using this)))
        | true =>
          have HF := Lib.hid (show r = true by rw [← HR.out]; simp [sameRB, eo, eM, eI, eB])
          go_enter Tryz.func17, Tryz.ntmps17
          go_wp2_with (first | (go_at_call 47; refine (equalM_any _ _ _ _ _ _ _ _ _ _ _ h.1 h'.1 (by omega) (by omega)).mono ?_; rw [eM]; rintro e w' ⟨rfl, qM, rfl⟩) | (go_at_call 48; refine (equalI_any _ _ _ _ _ _ _ _ _ _ _ (h.2.1.drewN qM) (h'.2.1.drewN qM) (by omega) (by omega)).mono ?_; rw [eI]; rintro e w' ⟨rfl, qI, rfl⟩) | (go_at_call 49; refine (equalB_any _ _ _ _ _ _ _ _ _ _ _ (h.2.2.drewN (qM + qI)) (h'.2.2.drewN (qM + qI)) (by omega) (by omega)).mono ?_; rw [eB]; rintro e w' ⟨rfl, qB, rfl⟩))
          all_goals exact bodyPost_ret (v := .bool true) (by simp [results, Tryz.results17, go_sem]) rfl (And.intro (by rw [HF.out]) (by first | exact below_drewN (below_drewN (below_drewN hb0 qM) qI) qB | (have := below_drewN (below_drewN (below_drewN hb0 qM) qI) qB; simpa only [World.drewN_drewN] using this)))
end Go.Proofs.YtmnmmjobplbflaaGreatDoor
