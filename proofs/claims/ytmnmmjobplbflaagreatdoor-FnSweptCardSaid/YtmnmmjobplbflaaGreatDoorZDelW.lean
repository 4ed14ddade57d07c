import Derived.Test.YtmnmmjobplbflaaGreatDoorChecked
import Derived.WalkKit
import Derived.ProofKit
import Derived.OpenShut
import Derived.ShutString
import Derived.ChangeOld
import Derived.Below
import Derived.Lib.Hide
import Derived.Lib.SlMapFilter
import Derived.Maps.RangeWalk
import Derived.Laws.IdiomRangeMap
import Derived.Deep.LoopGhost
import Derived.Maps.Ext
import Derived.Test.YtmnmmjobplbflaaGreatDoorJk
namespace Go.Proofs.YtmnmmjobplbflaaGreatDoor
open Go.ChangeShapes Go.WideShapes Go.ChangeAt Go.RowKit
open Go.ChangeMaps (open_string shut_string)
set_option linter.unusedVariables false
open Go.Maps
set_option maxRecDepth 100000
theorem grownBy_of_below {w w' : World} (h : Below w.heap.size w w') (row : Option Nat) : w.grownBy w' row := ⟨h.os, h.tape, h.output, h.size, fun k hk _ => h.block k hk⟩
theorem tab_entry {α : Type} {k : α → Int} {v : α → Value} {pd : Lit → DataW Value → Bool} {xs : List α} {left : Lit → Bool} {kl : Lit} {yd : DataW Value}
    (hat : ∀ zd, (Fk pd (xs.map fun x => ((.int .i64 (k x), .held (v x)) : Lit × DataW Value)) left).atKey kl zd = yd) : ∃ x ∈ xs, yd = .held (v x) := by
  simp only [Fk, DataW.atKey] at hat
  cases hf : (List.filter (fun p => !pd p.1 p.2 || left p.1) (xs.map fun x => ((.int .i64 (k x), .held (v x)) : Lit × DataW Value))).find? (fun p => p.1.sameKey kl) with
  | none =>
    rw [hf] at hat
    have a := hat (.held (.bool true))
    have b := hat (.held (.bool false))
    simp at a b
    rw [← a] at b
    simp at b
  | some p =>
    rw [hf] at hat
    have a := hat (.held (.bool true))
    have hm := (List.mem_filter.1 (List.mem_of_find?_eq_some hf)).1
    obtain ⟨x, hx, rfl⟩ := List.mem_map.1 hm
    exact ⟨x, hx, by simpa using a.symm⟩

def overI (at_ : Int) : Lit → DataW Value → Bool := fun _ d => match d with | .held (Value.agg cs) => (match cs[2]? with | some (Value.int _ n) => decide (n < at_) | _ => false) | _ => false
theorem overI_at (at_ : Int) (kl : Lit) (y : Iv) : overI at_ kl (.held (ivV y)) = decide (y.til < at_) := rfl
theorem filtI (at_ : Int) (xs : List Iv) : Lib.deleteFuncD (overI at_) (tabD Iv.id ivV xs) = tabD Iv.id ivV (xs.filter fun x => !decide (x.til < at_)) := by
  simp only [Lib.deleteFuncD, tabD, List.filter_map]
  rfl
theorem sweep1_any (at_ : Int) (key : Value) (y : Iv) (xa : Nat) (W : World) (ca : W.cell? ⟨xa, 0, none⟩ = some (.int .i64 at_)) :
    Calls Tryz.prog 90 #[key, .agg #[.int .i64 y.id, .int .i64 y.byy, .int .i64 y.til], .pointer (some ⟨xa, 0, none⟩)] W fun e w' => e = .returned (.bool (decide (y.til < at_))) ∧ W.grownBy w' none := by
  obtain ⟨q, hb⟩ := one_box W 36 #[.int .i64 y.id, .int .i64 y.byy, .int .i64 y.til]
  have c2 := q.cell 2
  have ca' := (hb.cell (World.block_lt_of_cell? W _ ca)).trans ca
  clear q ca
  go_enter Tryz.func90, Tryz.ntmps90
  go_wp2
  go_ret
  exact ⟨rfl, grownBy_of_below hb none⟩
set_option maxHeartbeats 1600000 in
theorem delI_any (at_ : Int) (b N xa : Nat) (xs : List Iv) (w : World) (hown : mI w b N xs) (ca : w.cell? ⟨xa, 0, none⟩ = some (.int .i64 at_)) :
    Calls Tryz.prog 89 #[.map (some b), .func (.func 90) #[] #[.pointer (some ⟨xa, 0, none⟩)]] w fun e w' => e = .returned (.tuple #[]) ∧ mI w' b N (xs.filter fun x => !decide (x.til < at_)) ∧ w.grownBy w' (some b) := by
  have hab : xa ≠ b := fun e => by
    obtain ⟨es, cl, hb, _⟩ := hown
    rw [e] at ca
    simp [World.cell?, hb] at ca
  obtain ⟨es0, hes, hap, hkeys⟩ := hown.entries kInt
  obtain rfl : es0 = (xs.map fun x => ((.int .i64 (Iv.id x), .held (ivV x)) : Lit × DataW Value)) := by simpa [tabD] using hes.symm
  clear hes
  have HP := Lib.hid (And.intro hap hkeys)
  have CA := Lib.hid (And.intro ca hab)
  have HE := Lib.hid (enters_of Tryz.func90 (by kernel_rfl) rfl)
  have hst := Fk_start (pd := overI at_) hkeys
  clear hap hkeys ca hab
  go_enter Tryz.func89, Tryz.ntmps89
  go_wp2_with (at_range; refine wpList_range_own _ rfl _ 113 rfl 2 36 kInt Tryz.underlying113 _ b N _ rfl hown ?_; intro w0 hrg0 hg0 hs0)
  go_frame
  go_loopw [8] (fun _ wr => ∃ (left : Lit → Bool) (cnt : Nat), wr.ranges Tryz.prog 2 heldR b w.heap.size N (Fk (overI at_) (xs.map fun x => ((.int .i64 (Iv.id x), .held (ivV x)) : Lit × DataW Value)) left) left cnt ∧ w.grownBy wr (some b))
    (fun _ wr => wr.rangeLeft b w.heap.size)
  case atStart => exact ⟨_, _, by rw [hst]; exact hrg0, hg0.but _⟩
  case round =>
    obtain ⟨left, cnt, hrg, hgw⟩ := hrel
    clear hrg0 hg0 hs0 hst
    go_wp2_with (at_next; refine wpList_next_ranges _ rfl _ rfl 2 kInt heldR id id (fun key _ _ => ⟨key, rfl⟩) (fun v _ _ => ⟨v, rfl⟩) b w.heap.size N _ _ _ rfl hrg ?_ ?_)
    · intro _ hl0
      go_wp2
      go_end0
      exact ⟨rfl, by have h9 := hrg.owns; rw [Fk_end hl0] at h9; unfold mI; rw [← filtI]; exact h9, hgw⟩
    · intro x c kl yd yp w1 cnt1 hkey hlx hv hat hrg1 hlt hg1 hs1 hen
      obtain ⟨y, hy, hyd⟩ := tab_entry hat
      obtain rfl : c = ivV y := by rw [hyd] at hv; simp only [heldR, Option.some.injEq, Prod.mk.injEq, DataW.held.injEq] at hv; exact hv.1
      have hgw1 := hgw.andThen hg1 (fun j hj => by cases hj; exact Or.inl (Nat.le_refl _))
      have hga := World.grownBy_alloc w1 (.cells #[.int .i64 y.id, .int .i64 y.byy, .int .i64 y.til] 36) none
      obtain ⟨q, hqb⟩ := one_box w1 36 #[.int .i64 y.id, .int .i64 y.byy, .int .i64 y.til]
      have c0 := q.cell 0; have c1 := q.cell 1; have c2 := q.cell 2
      have ca1 := (hgw1.andThen hga (fun j hj => by cases hj)).cell CA.out.1 (by intro e; cases e; exact CA.out.2 rfl)
      have hc := sweep1_any at_ x y xa _ ca1
      have hrg1a := hrg1.kept hga (by simp) (by simp)
      have hgwa := hgw1.andThen hga (fun j hj => by cases hj)
      have hK := kInt.key hkey
      have hpd := overI_at at_ kl y
      clear q ca1
      have eg := HE.out
      unfold Enters at eg
      unfold ivV at hen
      cases hp : decide (y.til < at_) <;> rw [hp] at hc
      · go_wp2_with fail
        go_at_call 90
        refine hc.mono ?_
        rintro e w2 ⟨rfl, hg2⟩
        go_wp2
        have hrg2 := hrg1a.kept hg2 (by simp) (by simp)
        go_roundw
        case rel => exact ⟨_, cnt1, by rw [← Fk_stays HP.out.1 hK hlx (by rw [hyd, hpd, hp]) hat]; exact hrg2, hgwa.andThen hg2 (fun j hj => by cases hj)⟩
        case measure => rw [hrg2.left_eq, hrg.left_eq]; exact hlt
      · go_wp2_with (first
          | (go_at_call 90; refine hc.mono ?_; rintro e w2 ⟨rfl, hg2⟩; have hrg2 := hrg1a.kept hg2 (by simp) (by simp))
          | (at_delete; refine wpList_delete_ranges _ rfl _ _ 113 2 rfl 36 kInt Tryz.underlying113 heldR b w.heap.size N _ _ _ rfl hrg2 _ _ rfl hkey ?_; intro w3 cnt3 hrg3 hle hturn; go_frame))
        rw [strike_twice] at hrg3
        go_roundw
        case rel => exact ⟨_, cnt3, by rw [← Fk_struck HP.out.1 hK hlx (by rw [hyd, hpd, hp]) hat]; exact hrg3, (hgwa.andThen hg2 (fun j hj => by cases hj)).andThen hturn.grown (fun j hj => by cases hj; exact Or.inr rfl)⟩
        case measure => rw [hrg3.left_eq, hrg.left_eq]; omega

def overB (at_ : Int) : Lit → DataW Value → Bool := fun _ d => match d with | .held (Value.agg cs) => (match cs[1]? with | some (Value.int _ n) => decide (n < at_) | _ => false) | _ => false
theorem overB_at (at_ : Int) (kl : Lit) (y : Bn) : overB at_ kl (.held (bnV y)) = decide (y.til < at_) := rfl
theorem filtB (at_ : Int) (xs : List Bn) : Lib.deleteFuncD (overB at_) (tabD Bn.id bnV xs) = tabD Bn.id bnV (xs.filter fun x => !decide (x.til < at_)) := by
  simp only [Lib.deleteFuncD, tabD, List.filter_map]
  rfl
theorem sweep2_any (at_ : Int) (key : Value) (y : Bn) (xa : Nat) (W : World) (ca : W.cell? ⟨xa, 0, none⟩ = some (.int .i64 at_)) :
    Calls Tryz.prog 92 #[key, .agg #[.int .i64 y.id, .int .i64 y.til], .pointer (some ⟨xa, 0, none⟩)] W fun e w' => e = .returned (.bool (decide (y.til < at_))) ∧ W.grownBy w' none := by
  obtain ⟨q, hb⟩ := one_box W 38 #[.int .i64 y.id, .int .i64 y.til]
  have c2 := q.cell 1
  have ca' := (hb.cell (World.block_lt_of_cell? W _ ca)).trans ca
  clear q ca
  go_enter Tryz.func92, Tryz.ntmps92
  go_wp2
  go_ret
  exact ⟨rfl, grownBy_of_below hb none⟩
set_option maxHeartbeats 1600000 in
theorem delB_any (at_ : Int) (b N xa : Nat) (xs : List Bn) (w : World) (hown : mB w b N xs) (ca : w.cell? ⟨xa, 0, none⟩ = some (.int .i64 at_)) :
    Calls Tryz.prog 91 #[.map (some b), .func (.func 92) #[] #[.pointer (some ⟨xa, 0, none⟩)]] w fun e w' => e = .returned (.tuple #[]) ∧ mB w' b N (xs.filter fun x => !decide (x.til < at_)) ∧ w.grownBy w' (some b) := by
  have hab : xa ≠ b := fun e => by
    obtain ⟨es, cl, hb, _⟩ := hown
    rw [e] at ca
    simp [World.cell?, hb] at ca
  obtain ⟨es0, hes, hap, hkeys⟩ := hown.entries kInt
  obtain rfl : es0 = (xs.map fun x => ((.int .i64 (Bn.id x), .held (bnV x)) : Lit × DataW Value)) := by simpa [tabD] using hes.symm
  clear hes
  have HP := Lib.hid (And.intro hap hkeys)
  have CA := Lib.hid (And.intro ca hab)
  have HE := Lib.hid (enters_of Tryz.func92 (by kernel_rfl) rfl)
  have hst := Fk_start (pd := overB at_) hkeys
  clear hap hkeys ca hab
  go_enter Tryz.func91, Tryz.ntmps91
  go_wp2_with (at_range; refine wpList_range_own _ rfl _ 114 rfl 2 38 kInt Tryz.underlying114 _ b N _ rfl hown ?_; intro w0 hrg0 hg0 hs0)
  go_frame
  go_loopw [8] (fun _ wr => ∃ (left : Lit → Bool) (cnt : Nat), wr.ranges Tryz.prog 2 heldR b w.heap.size N (Fk (overB at_) (xs.map fun x => ((.int .i64 (Bn.id x), .held (bnV x)) : Lit × DataW Value)) left) left cnt ∧ w.grownBy wr (some b))
    (fun _ wr => wr.rangeLeft b w.heap.size)
  case atStart => exact ⟨_, _, by rw [hst]; exact hrg0, hg0.but _⟩
  case round =>
    obtain ⟨left, cnt, hrg, hgw⟩ := hrel
    clear hrg0 hg0 hs0 hst
    go_wp2_with (at_next; refine wpList_next_ranges _ rfl _ rfl 2 kInt heldR id id (fun key _ _ => ⟨key, rfl⟩) (fun v _ _ => ⟨v, rfl⟩) b w.heap.size N _ _ _ rfl hrg ?_ ?_)
    · intro _ hl0
      go_wp2
      go_end0
      exact ⟨rfl, by have h9 := hrg.owns; rw [Fk_end hl0] at h9; unfold mB; rw [← filtB]; exact h9, hgw⟩
    · intro x c kl yd yp w1 cnt1 hkey hlx hv hat hrg1 hlt hg1 hs1 hen
      obtain ⟨y, hy, hyd⟩ := tab_entry hat
      obtain rfl : c = bnV y := by rw [hyd] at hv; simp only [heldR, Option.some.injEq, Prod.mk.injEq, DataW.held.injEq] at hv; exact hv.1
      have hgw1 := hgw.andThen hg1 (fun j hj => by cases hj; exact Or.inl (Nat.le_refl _))
      have hga := World.grownBy_alloc w1 (.cells #[.int .i64 y.id, .int .i64 y.til] 38) none
      obtain ⟨q, hqb⟩ := one_box w1 38 #[.int .i64 y.id, .int .i64 y.til]
      have c0 := q.cell 0; have c1 := q.cell 1
      have ca1 := (hgw1.andThen hga (fun j hj => by cases hj)).cell CA.out.1 (by intro e; cases e; exact CA.out.2 rfl)
      have hc := sweep2_any at_ x y xa _ ca1
      have hrg1a := hrg1.kept hga (by simp) (by simp)
      have hgwa := hgw1.andThen hga (fun j hj => by cases hj)
      have hK := kInt.key hkey
      have hpd := overB_at at_ kl y
      clear q ca1
      have eg := HE.out
      unfold Enters at eg
      unfold bnV at hen
      cases hp : decide (y.til < at_) <;> rw [hp] at hc
      · go_wp2_with fail
        go_at_call 92
        refine hc.mono ?_
        rintro e w2 ⟨rfl, hg2⟩
        go_wp2
        have hrg2 := hrg1a.kept hg2 (by simp) (by simp)
        go_roundw
        case rel => exact ⟨_, cnt1, by rw [← Fk_stays HP.out.1 hK hlx (by rw [hyd, hpd, hp]) hat]; exact hrg2, hgwa.andThen hg2 (fun j hj => by cases hj)⟩
        case measure => rw [hrg2.left_eq, hrg.left_eq]; exact hlt
      · go_wp2_with (first
          | (go_at_call 92; refine hc.mono ?_; rintro e w2 ⟨rfl, hg2⟩; have hrg2 := hrg1a.kept hg2 (by simp) (by simp))
          | (at_delete; refine wpList_delete_ranges _ rfl _ _ 114 2 rfl 38 kInt Tryz.underlying114 heldR b w.heap.size N _ _ _ rfl hrg2 _ _ rfl hkey ?_; intro w3 cnt3 hrg3 hle hturn; go_frame))
        rw [strike_twice] at hrg3
        go_roundw
        case rel => exact ⟨_, cnt3, by rw [← Fk_struck HP.out.1 hK hlx (by rw [hyd, hpd, hp]) hat]; exact hrg3, (hgwa.andThen hg2 (fun j hj => by cases hj)).andThen hturn.grown (fun j hj => by cases hj; exact Or.inr rfl)⟩
        case measure => rw [hrg3.left_eq, hrg.left_eq]; omega
end Go.Proofs.YtmnmmjobplbflaaGreatDoor
