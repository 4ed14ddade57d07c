import Derived.Test.YtmnmmjobplbflaaGreatDoorChecked
import Derived.WalkKit
import Derived.ProofKit
import Derived.OpenShut
import Derived.ShutString
import Derived.ChangeOld
import Derived.Below
import Derived.Lib.Hide
import Derived.Shelf.SlSortCmp.WholeK
import Derived.RangeFuncNested
import Derived.RangeFuncBound
import Derived.RangeFuncCalls
import Derived.RangeFuncLeaves
import Derived.Shelf.Abstract
import Derived.Shelf.RegionOpen
import Derived.OwnWalkIn
import Derived.TacticsInMore
import Derived.LoopNIn
import Derived.LoopIn
import Derived.RangeFuncBox
import Derived.Maps.AppendAt
import Derived.Deep.RegionHeld3
import Derived.Test.YtmnmmjobplbflaaGreatDoorJq
import Derived.Test.YtmnmmjobplbflaaGreatDoorJd
namespace Go.Proofs.YtmnmmjobplbflaaGreatDoor
open Go.ChangeShapes Go.WideShapes Go.ChangeAt Go.RowKit
open Go.ChangeMaps (open_string shut_string)
set_option linter.unusedVariables false
open Go.Sort
set_option maxRecDepth 100000
/-- the first number that is not 0 -/
def orL : List Int → Int
  | [] => 0
  | x :: r => if x = 0 then orL r else x
def cmpI (x y : Int) : Int := if x < y then -1 else if y < x then 1 else 0
def cfM (a b : Mb) : Int := orL [cmpI b.role a.role, cmpI a.since b.since, cmpI a.id b.id]
theorem cf_lt (a b : Mb) : decide (cfM a b < 0) = rankLt a b := by
  unfold cfM orL orL orL orL cmpI rankLt
  rcases Int.lt_trichotomy b.role a.role with h | h | h
  · have h1 : ¬ a.role = b.role := by omega
    simp [h, h1]
  · have h1 : ¬ b.role < a.role := by omega
    have h2 : ¬ a.role < b.role := by omega
    have h0 : a.role = b.role := h.symm
    simp only [h0, if_true]
    rcases Int.lt_trichotomy a.since b.since with g | g | g
    · have g1 : ¬ a.since = b.since := by omega
      simp [g, g1]
    · have g1 : ¬ a.since < b.since := by omega
      have g2 : ¬ b.since < a.since := by omega
      simp only [g, if_true]
      rcases Int.lt_trichotomy a.id b.id with k | k | k
      · simp [k]
      · simp [k]
      · have k1 : ¬ a.id < b.id := by omega
        simp [k, k1]
    · have g1 : ¬ a.since < b.since := by omega
      have g2 : ¬ a.since = b.since := by omega
      simp [g, g1, g2]
  · have h1 : ¬ b.role < a.role := by omega
    have h2 : ¬ a.role = b.role := by omega
    simp [h, h1, h2]
theorem cf_swo : SWO (ltOf cfM) where
  irrefl x := by
    unfold ltOf; rw [cf_lt, ← Bool.not_eq_true]; intro h; exact rank_asym h h
  trans x y z h1 h2 := by
    unfold ltOf at *; rw [cf_lt] at *; exact rank_trans h1 h2
  ntrans x y z h1 h2 := by
    unfold ltOf at *; rw [cf_lt] at *
    rw [← Bool.not_eq_true, rankLt_iff] at h1 h2
    rw [← Bool.not_eq_true, rankLt_iff]
    omega
/-- all of the first k are 0 -/
def ZTo (xs : List Int) (k : Nat) : Prop := orL xs = orL (xs.drop k)
theorem ZTo.zero (xs : List Int) : ZTo xs 0 := rfl
theorem ZTo.succ {xs : List Int} {k : Nat} (h : ZTo xs k) (hx : xs[k]? = some 0) : ZTo xs (k + 1) := by
  have hk : k < xs.length := (List.getElem?_eq_some_iff.1 hx).1
  have e : xs[k] = 0 := by rw [List.getElem?_eq_getElem hk] at hx; injection hx
  unfold ZTo at h ⊢
  rw [h, List.drop_eq_getElem_cons hk, e, orL, if_pos rfl]
theorem ZTo.found {xs : List Int} {k : Nat} {z : Int} (h : ZTo xs k) (hx : xs[k]? = some z) (hz : z ≠ 0) : orL xs = z := by
  have hk : k < xs.length := (List.getElem?_eq_some_iff.1 hx).1
  have e : xs[k] = z := by rw [List.getElem?_eq_getElem hk] at hx; injection hx
  unfold ZTo at h
  rw [h, List.drop_eq_getElem_cons hk, e, orL, if_neg hz]
theorem ZTo.full {xs : List Int} {k : Nat} (h : ZTo xs k) (hk : xs.length ≤ k) : orL xs = 0 := by
  unfold ZTo at h
  rw [h, List.drop_eq_nil_of_le hk, orL]
theorem isNaN_rk (x : Int) (w : World) : Calls Tryz.prog 123 #[.int .i64 x] w fun e w' => e = .returned (.bool false) ∧ w = w' := by
  go_enter Tryz.func123, Tryz.ntmps123
  go_wp2
  go_ret
  exact ⟨ret_bool (by simp), rfl⟩
theorem cmpCompare_any (x y : Int) (w : World) : Calls Tryz.prog 97 #[.int .i64 x, .int .i64 y] w fun e w' => e = .returned (.int .i64 (cmpI x y)) ∧ w = w' := by
  rcases (by omega : x < y ∨ y < x ∨ x = y) with h | h | h
  · have HC := Lib.hid (show cmpI x y = -1 by unfold cmpI; rw [if_pos h])
    go_enter Tryz.func97, Tryz.ntmps97
    go_wp2_with (go_at_call 123; refine (isNaN_rk _ _).mono ?_; rintro e w' ⟨rfl, rfl⟩)
    go_ret
    exact ⟨ret_int HC.out.symm, rfl⟩
  · have HC := Lib.hid (show cmpI x y = 1 by unfold cmpI; rw [if_neg (by omega), if_pos h])
    have h1 : ¬ x < y := by omega
    go_enter Tryz.func97, Tryz.ntmps97
    go_wp2_with (go_at_call 123; refine (isNaN_rk _ _).mono ?_; rintro e w' ⟨rfl, rfl⟩)
    go_ret
    exact ⟨ret_int HC.out.symm, rfl⟩
  · have HC := Lib.hid (show cmpI x y = 0 by unfold cmpI; rw [if_neg (by omega), if_neg (by omega)])
    have h1 : decide (x < y) = false := decide_eq_false (by omega)
    have h2 : decide (y < x) = false := decide_eq_false (by omega)
    clear h
    go_enter Tryz.func97, Tryz.ntmps97
    go_wp2_with (go_at_call 123; refine (isNaN_rk _ _).mono ?_; rintro e w' ⟨rfl, rfl⟩)
    go_ret
    exact ⟨ret_int HC.out.symm, rfl⟩
theorem cmpOr_any (A : Option Addr) (n c B : Nat) (xs : List Int) (w : World) (h : Row i64v w B A n xs) (hn : n ≤ 1048576) :
    Calls Tryz.prog 96 #[.slice A n c] w fun e w' => e = .returned (.int .i64 (orL xs)) ∧ w = w' := by
  have HL := Lib.hid h.1
  go_enter Tryz.func96, Tryz.ntmps96
  go_wp2
  go_loop [8] (fun i => ∃ k : Nat, k ≤ n ∧ i = .int .i64 k ∧ Hid (ZTo xs k)) (fun i => n - (intOf i).toNat)
  case atStart => exact ⟨0, by omega, rfl, Lib.hid (ZTo.zero _)⟩
  case round =>
    obtain ⟨k, hk, rfl, HZ⟩ := hrel
    by_cases hlt : k < n
    · have hlt' : decide ((k : Int) < (n : Int)) = true := decide_eq_true (by omega)
      obtain ⟨b, off, z, rfl, _, hz, hc⟩ := h.ati hlt
      have HX := Lib.hid hz
      clear hz h
      by_cases he : z = 0
      · subst he
        have HN := Lib.hid (HZ.out.succ HX.out)
        go_wp2
        go_round
        case rel => exact ⟨k + 1, by omega, by go_num, HN⟩
        case measure => simp [intOf]; omega
      · have hne : (z == 0) = false := by simp [he]
        have hne2 : (z != 0) = true := by simp [he]
        have HF := Lib.hid (HZ.out.found HX.out he)
        clear he
        go_wp2
        go_ret
        exact ⟨ret_int HF.out.symm, rfl⟩
    · have hlt' : decide ((k : Int) < (n : Int)) = false := decide_eq_false (by omega)
      have HF := Lib.hid (HZ.out.full (by have := HL.out; omega))
      go_wp2
      go_ret
      exact ⟨ret_int HF.out.symm, rfl⟩
theorem row_new3 (w : World) (t : TypeId) (a b c : Int) : Row i64v (w.alloc (.cells #[.int .i64 a, .int .i64 b, .int .i64 c] t)) (w.heap.size + 1) (some ⟨w.heap.size, 0, none⟩) 3 [a, b, c] :=
  ⟨rfl, fun _ => ⟨_, 0, rfl, by omega, fun j z hj => by
    rw [Nat.zero_add, (Blk.new w t #[.int .i64 a, .int .i64 b, .int .i64 c]).cell, ← Array.getElem?_toList]
    match j, hj with
    | 0, hj => cases hj; rfl
    | 1, hj => cases hj; rfl
    | 2, hj => cases hj; rfl⟩⟩
set_option maxHeartbeats 3200000 in
theorem rankCmp_any (x y : Mb) (W : World) : Calls Tryz.prog 95 #[.agg #[.int .i64 x.id, .int .i64 x.role, .int .i64 x.since, .int .i64 x.quiet], .agg #[.int .i64 y.id, .int .i64 y.role, .int .i64 y.since, .int .i64 y.quiet]] W fun e w' => e = .returned (.int .i64 (cfM x y)) ∧ ∃ q os', w' = grow (W.drewN q) os' := by
  obtain ⟨v, hv⟩ : ∃ v, cfM x y = v := ⟨_, rfl⟩
  have HV := Lib.hid hv
  rw [hv]
  clear hv
  go_enter Tryz.func95, Tryz.ntmps95
  go_wp2_with fail
  obtain ⟨kx, ky, hb0⟩ := two_boxes W 66 66 #[.int .i64 x.id, .int .i64 x.role, .int .i64 x.since, .int .i64 x.quiet] #[.int .i64 y.id, .int .i64 y.role, .int .i64 y.since, .int .i64 y.quiet]
  have HG := Lib.hid (show ((W.alloc (.cells #[.int .i64 x.id, .int .i64 x.role, .int .i64 x.since, .int .i64 x.quiet] 66)).alloc (.cells #[.int .i64 y.id, .int .i64 y.role, .int .i64 y.since, .int .i64 y.quiet] 66)) = grow W #[.cells #[.int .i64 x.id, .int .i64 x.role, .int .i64 x.since, .int .i64 x.quiet] 66, .cells #[.int .i64 y.id, .int .i64 y.role, .int .i64 y.since, .int .i64 y.quiet] 66] by rw [alloc_eq_grow, alloc_eq_grow, grow_grow]; rfl)
  generalize ((W.alloc (.cells #[.int .i64 x.id, .int .i64 x.role, .int .i64 x.since, .int .i64 x.quiet] 66)).alloc (.cells #[.int .i64 y.id, .int .i64 y.role, .int .i64 y.since, .int .i64 y.quiet] 66)) = W1 at *
  have kx : Blk W1.drew W.heap.size 66 #[.int .i64 x.id, .int .i64 x.role, .int .i64 x.since, .int .i64 x.quiet] := kx
  have ky : Blk W1.drew (W.heap.size + 1) 66 #[.int .i64 y.id, .int .i64 y.role, .int .i64 y.since, .int .i64 y.quiet] := ky
  have HV := Lib.hid (show orL [cmpI y.role x.role, cmpI x.since y.since, cmpI x.id y.id] = v from HV.out)
  go_region_held3 (fun w' => (w'.cell? ⟨W.heap.size, 0, none⟩ = some (.int .i64 x.id) ∧ w'.cell? ⟨W.heap.size, 1, none⟩ = some (.int .i64 x.role) ∧ w'.cell? ⟨W.heap.size, 2, none⟩ = some (.int .i64 x.since)) ∧ (w'.cell? ⟨W.heap.size + 1, 0, none⟩ = some (.int .i64 y.id) ∧ w'.cell? ⟨W.heap.size + 1, 1, none⟩ = some (.int .i64 y.role) ∧ w'.cell? ⟨W.heap.size + 1, 2, none⟩ = some (.int .i64 y.since))) (first | exact ⟨⟨kx.cell 0, kx.cell 1, kx.cell 2⟩, ky.cell 0, ky.cell 1, ky.cell 2⟩ | exact ⟨⟨(kx.alloc _).cell 0, (kx.alloc _).cell 1, (kx.alloc _).cell 2⟩, (ky.alloc _).cell 0, (ky.alloc _).cell 1, (ky.alloc _).cell 2⟩) ((first | (go_at_call 97; refine (cmpCompare_any _ _ _).mono ?_; rintro e wA ⟨rfl, rfl⟩) | (go_at_call 96; refine (cmpOr_any _ _ _ (W1.heap.size + 1) [cmpI y.role x.role, cmpI x.since y.since, cmpI x.id y.id] ((W1.alloc (.cells #[.int .i64 (cmpI y.role x.role), .int .i64 (cmpI x.since y.since), .int .i64 (cmpI x.id y.id)] 3)).drew) (row_new3 W1 3 _ _ _) (by omega)).mono ?_; rw [HV.out]; rintro e wA ⟨rfl, rfl⟩)))
  go_wp2
  go_ret
  exact ⟨rfl, 1, _, by rw [HG.out, alloc_eq_grow]; show grow (grow (W.drewN 1) _) _ = _; rw [grow_grow]⟩
end Go.Proofs.YtmnmmjobplbflaaGreatDoor
