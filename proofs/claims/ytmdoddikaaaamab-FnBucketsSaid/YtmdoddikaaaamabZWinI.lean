import Derived.Test.YtmdoddikaaaamabChecked
import Derived.WalkKit
import Derived.ProofKit
import Derived.OpenShut
import Derived.ShutString
import Derived.ChangeOld
import Derived.Below
import Derived.Lib.Hide
import Derived.Deep.QuietTactic
import Derived.BigQuiet
import Derived.Shelf.Abstract
import Derived.Test.YtmdoddikaaaamabJxa
import Derived.Test.YtmdoddikaaaamabZRunA
namespace Go.Proofs.Ytmdoddikaaaamab
open Go.ChangeShapes Go.WideShapes Go.ChangeAt Go.RowKit
open Go.ChangeMaps (open_string shut_string)
set_option linter.unusedVariables false
set_option maxRecDepth 100000
theorem own_succW {w : World} {base e s m : Nat} {v : Value} {xs : List Value} (h : w.ownsRow base e s v (m + 1) xs) : ∃ g c, v = .slice (some ⟨g, 0, none⟩) (m + 1) c := by
  rcases h.2 with ⟨_, hn⟩ | ⟨g, cap, cur, hv, _⟩
  · omega
  · exact ⟨g, cap, hv⟩
/-- the state of a window: a box with the slice of those that were let through, and the two boxes of its numbers -/
def WinAt (base gp gm gw m : Nat) (win : Int) (P : List Int) (W : World) : Prop :=
  ∃ A c, Blk W gp 31 #[.slice A P.length c] ∧ W.ownsRow base 2 1 (.slice A P.length c) P.length (P.map i64v) ∧ Blk W gm 2 #[.int .i64 (m : Int)] ∧ Blk W gw 2 #[.int .i64 win]
theorem far_ne {W : World} {base e s m g : Nat} {v : Value} {ys : List Value} (h : W.ownsRow base e s v m ys) (hg : g < base) : some g ≠ v.ownBlock := by
  intro e
  have := (h.lt g e.symm).1
  omega
theorem far_own {W : World} {base e s m g : Nat} {v : Value} {ys : List Value} (h : W.ownsRow base e s v m ys) (hg : g < base) : v.ownBlock = none ∨ v.ownBlock ≠ some g := .inr (fun e => far_ne h hg e.symm)
theorem own_typesC {w : World} {b1 b2 e1 e2 s1 s2 n1 n2 : Nat} {v1 v2 : Value} {xs ys : List Value} (h1 : w.ownsRow b1 e1 s1 v1 n1 xs) (h2 : w.ownsRow b2 e2 s2 v2 n2 ys) (he : e1 ≠ e2) : v1.ownBlock = none ∨ v1.ownBlock ≠ v2.ownBlock := by
  rcases h2.2 with ⟨hv, _⟩ | ⟨g', cap, cur, hv, _, hc, _⟩
  · subst hv
    by_cases h : v1.ownBlock = none
    · exact .inl h
    · exact .inr h
  · subst hv
    exact row_not_blk (cs := cur) h1 (show Blk w g' e2 cur from hc) (fun e => he e.symm)
theorem WinAt.keep {base gp gm gw m : Nat} {win : Int} {P : List Int} {W W' : World} {r : Option Nat} (h : WinAt base gp gm gw m win P W) (hg : W.grownBy W' r) (h1 : some gp ≠ r) (h2 : ∀ A c, W.ownsRow base 2 1 (.slice A P.length c) P.length (P.map i64v) → (Value.slice A P.length c).ownBlock = none ∨ (Value.slice A P.length c).ownBlock ≠ r) (h3 : some gm ≠ r) (h4 : some gw ≠ r) : WinAt base gp gm gw m win P W' := by
  obtain ⟨A, c, k1, o, k2, k3⟩ := h
  exact ⟨A, c, k1.grown hg h1, o.kept hg (h2 A c o), k2.grown hg h3, k3.grown hg h4⟩
theorem WinAt.below {base gp gm gw m : Nat} {win : Int} {P : List Int} {W W' : World} (h : WinAt base gp gm gw m win P W) (hb : Below W.heap.size W W') : WinAt base gp gm gw m win P W' := by
  obtain ⟨A, c, k1, o, k2, k3⟩ := h
  exact ⟨A, c, k1.below hb k1.lt, own_below o hb (Nat.le_refl _), k2.below hb k2.lt, k3.below hb k3.lt⟩
theorem win_app {base gp gm gw m np : Nat} {win t : Int} {P : List Int} {W V w6 : World} {A A' : Option Addr} {c c' g' cap' : Nat}
    (HK : Blk W gp 31 #[.slice A P.length c] ∧ W.ownsRow base 2 1 (.slice A P.length c) P.length (P.map i64v) ∧ Blk W gm 2 #[.int .i64 (m : Int)] ∧ Blk W gw 2 #[.int .i64 win])
    (hgA : W.grownBy V none) (o : V.ownsRow base 2 1 (.slice A' np c') np (P.map i64v)) (hgrow : V.grownBy w6 (Value.slice A' np c').ownBlock) (k6 : Blk w6 gp 31 #[.slice A' np c'])
    (hown : w6.ownsRow base 2 1 (.slice (some ⟨g', 0, none⟩) (np + 1) cap') (np + 1) (P.map i64v ++ [.int .i64 t])) (hp : gp < base) (hgm : gm < base) (hgw : gw < base) (hne1 : gp ≠ gm) (hne2 : gp ≠ gw) (hnp : P.length = np)
    (hB : (stW win m P t).1 = !false ∧ (stW win m P t).2 = (if false then P else P ++ [t])) :
    Ending.returned (.bool true) = .returned (.bool (stW win m P t).1) ∧ WinAt base gp gm gw m win (stW win m P t).2 (w6.setCell ⟨gp, 0, none⟩ (.slice (some ⟨g', 0, none⟩) (np + 1) cap')) ∧
      Below gp W (w6.setCell ⟨gp, 0, none⟩ (.slice (some ⟨g', 0, none⟩) (np + 1) cap')) ∧ (∀ bs v q ys, W.ownsRow bs 4 1 v q ys → (w6.setCell ⟨gp, 0, none⟩ (.slice (some ⟨g', 0, none⟩) (np + 1) cap')).ownsRow bs 4 1 v q ys) ∧
      W.heap.size ≤ (w6.setCell ⟨gp, 0, none⟩ (.slice (some ⟨g', 0, none⟩) (np + 1) cap')).heap.size := by
  obtain ⟨k1, _, k2, k3⟩ := HK
  have hP : (P ++ [t]).length = np + 1 := by simp [hnp]
  refine ⟨by rw [hB.1]; rfl, ?_, ?_, ?_, ?_⟩
  · rw [hB.2]
    show WinAt base gp gm gw m win (P ++ [t]) _
    refine ⟨some ⟨g', 0, none⟩, cap', ?_, ?_, ?_, ?_⟩
    · rw [hP]; exact k6.set_ 0 _
    · rw [hP, List.map_append]; exact hown.kept (grown_setB _ _ _ _) (far_own hown hp)
    · exact (((k2.grown hgA (by simp)).grown hgrow (far_ne o hgm)).far (p := ⟨gp, 0, none⟩) (by simpa using fun e => hne1 e.symm) _)
    · exact (((k3.grown hgA (by simp)).grown hgrow (far_ne o hgw)).far (p := ⟨gp, 0, none⟩) (by simpa using fun e => hne2 e.symm) _)
  · have h1 : Below gp W V := ⟨hgA.os, hgA.tape, hgA.output, hgA.size, fun k hk => hgA.block k (Nat.lt_trans hk k1.lt) (by simp)⟩
    have hs : gp ≤ V.heap.size := Nat.le_trans (Nat.le_of_lt k1.lt) hgA.size
    exact (h1.grown hgrow hs (fun g hg => Nat.le_trans (Nat.le_of_lt hp) (o.lt g hg).1)).setCell (by simp) _
  · intro bs v q ys ho
    have h1 := ho.kept hgA (by cases hv : v.ownBlock with | none => exact .inl rfl | some g => exact .inr (by simp))
    exact row_far (h1.kept hgrow (own_typesC h1 o (by decide))) k6 (by decide) 0 _
  · have := hgA.size; have := hgrow.size; simp; omega
set_option maxHeartbeats 6400000 in
theorem RunWindow1_any (base gp gm gw m : Nat) (win : Int) (P : List Int) (t : Int) (W : World) (h : WinAt base gp gm gw m win P W) (hp : gp < base) (hgm : gm < base) (hgw : gw < base) (hne1 : gp ≠ gm) (hne2 : gp ≠ gw) (hbs : base ≤ W.heap.size)
    (ht : 0 ≤ t ∧ t ≤ 1000000) (hw : 1 ≤ win ∧ win ≤ 1000000) (hm : 1 ≤ m ∧ m ≤ 256) (hP : P.length ≤ 1000) :
    Calls Try.prog 118 #[.int .i64 t, .pointer (some ⟨gp, 0, none⟩), .pointer (some ⟨gm, 0, none⟩), .pointer (some ⟨gw, 0, none⟩)] W fun e W' => e = .returned (.bool (stW win m P t).1) ∧ WinAt base gp gm gw m win (stW win m P t).2 W' ∧
      Below gp W W' ∧ (∀ bs v q ys, W.ownsRow bs 4 1 v q ys → W'.ownsRow bs 4 1 v q ys) ∧ W.heap.size ≤ W'.heap.size := by
  obtain ⟨i0, hi, hz0, hz1, hz2⟩ := info_parts Try.info_i64
  obtain ⟨A, c, k1, o, k2, k3⟩ := h
  have HK := Lib.hid (And.intro k1 (And.intro o (And.intro k2 k3)))
  have hbl : ∀ q, blkW win m P t = q → (stW win m P t).1 = !q ∧ (stW win m P t).2 = (if q then P else P ++ [t]) := fun q hq => ⟨by rw [stW_1, hq], by rw [stW_2, hq]⟩
  have HBL := Lib.hid hbl
  clear hbl
  obtain ⟨np, hnp⟩ : ∃ z, P.length = z := ⟨_, rfl⟩
  have HNP := Lib.hid hnp
  rw [hnp] at k1 o hP
  have c1 := k1.cell 0; have f1 := k1.frozen 0; have l1 := k1.lt; have c2 := k2.cell 0; have l2 := k2.lt; have c3 := k3.cell 0; have l3 := k3.lt
  have w1 : IntKind.i64.wrap (t - win) = t - win := IntWalk.i64_in _ (by omega)
  have w0 : IntKind.i64.wrap ((np : Int) - (m : Int)) = (np : Int) - (m : Int) := IntWalk.i64_in _ (by omega)
  clear hnp k2 k3
  by_cases hl : m ≤ np
  · obtain ⟨d, hd⟩ : ∃ d, np = m + d := ⟨np - m, by omega⟩
    have e0 : (np : Int) - (m : Int) = (d : Int) := by omega
    have x0 : decide ((0 : Int) ≤ (d : Int)) = true := decide_eq_true (by omega)
    have hdn : (d : Int) < (np : Int) := by omega
    have hd0 : (0 : Int) ≤ (d : Int) := by omega
    have HD := Lib.hid hd
    clear hd
    have hr := Row.of_own_any o
    obtain ⟨b, off, z, rfl, hb, hz, hc⟩ := hr.at_ (k := d) (by have := HD.out; omega)
    have HZ := Lib.hid (show P.getD (P.length - m) 0 = z by rw [HNP.out, show np - m = d by have := HD.out; omega, List.getD_eq_getElem?_getD, hz]; rfl)
    by_cases hlt : t - win < z
    · have x2 : decide (t - win < z) = true := decide_eq_true hlt
      have HB := Lib.hid (HBL.out true (by unfold blkW; rw [HZ.out, HNP.out, decide_eq_true hl, decide_eq_true hlt]; rfl))
      clear hz hr o HBL
      go_enter Try.func118, Try.ntmps118
      go_wp2
      go_quiet (fail)
      go_wp2
      go_ret
      refine ⟨ret_bool (by rw [HB.out.1]; rfl), ?_, (drew_below ⟨nq, rfl⟩).mono (Nat.le_of_lt k1.lt), fun bs v q ys ho => ho, Nat.le_refl _⟩
      rw [HB.out.2]
      show WinAt base gp gm gw m win P _
      exact ⟨_, _, HK.out.1, HK.out.2.1, HK.out.2.2.1, HK.out.2.2.2⟩
    · have x2 : decide (t - win < z) = false := decide_eq_false hlt
      have HB := Lib.hid (HBL.out false (by unfold blkW; rw [HZ.out, HNP.out, decide_eq_true hl, decide_eq_false hlt]; rfl))
      clear hz hr HBL
      go_enter Try.func118, Try.ntmps118
      go_wp2
      go_quiet (fail)
      have hq : Below W.heap.size W (W.drewN nq) := drew_below ⟨nq, rfl⟩
      have k1 := k1.below hq k1.lt
      have o := own_below o hq (Nat.le_refl _)
      have hs : base ≤ (W.drewN nq).heap.size := hbs
      have HG := Lib.hid (show W.grownBy (W.drewN nq) none from ⟨rfl, rfl, rfl, Nat.le_refl _, fun _ _ _ => rfl⟩)
      clear c1 f1 l1 c2 l2 c3 l3 hc hb w0 w1 hq
      generalize W.drewN nq = V at *
      have c1 := k1.cell 0; have l1 := k1.lt
      go_wp2_with (at_builtin; refine wpList_append_own _ rfl _ _ 31 rfl base 2 i0 (.int .i64 0) 1 8 Try.underlying31 hi hz0 hz1 hz2 rfl (by decide) _ _ _ rfl (o.alloc _) ⟨V.heap.size, 0, none⟩ 1 1 [.int .i64 t] rfl rfl (cell_newB _ _ _ _ rfl) (by intro u hu; simp at hu; subst hu; rfl) (by unfold maxLen; omega) (by omega) (by first | (simp; done) | (simp; omega) | omega) ?_; intro v' w6 hown' hgrow _; obtain ⟨g', cap', rfl⟩ := own_succW hown'; have hoA := o.alloc (.cells #[.int .i64 t] 2); have k1A := k1.alloc (.cells #[.int .i64 t] 2); have k16 := k1A.grown hgrow (blk_ne hoA k1A (by decide)); have c16 := k16.cell 0; have f16 := k16.frozen 0; have l16 := k16.lt)
      go_ret
      have hgA := HG.out.andThen (World.grownBy_alloc V (.cells #[.int .i64 t] 2) none) (fun j hj => by cases hj)
      have hgA0 : W.grownBy (V.alloc (.cells #[.int .i64 t] 2)) none := hgA
      refine win_app (HK := HK.out) (hgA := hgA0) (hgrow := hgrow) (o := hoA) (k6 := k16) (hown := hown') (hp := hp) (hgm := hgm) (hgw := hgw) (hne1 := hne1) (hne2 := hne2) (hnp := HNP.out) (hB := HB.out)
  · have x0 : decide ((0 : Int) ≤ (np : Int) - (m : Int)) = false := decide_eq_false (by omega)
    have x0' : decide ((m : Int) ≤ (np : Int)) = false := decide_eq_false (by omega)
    have hl' : np < m := by omega
    have HB := Lib.hid (HBL.out false (by unfold blkW; rw [HNP.out, decide_eq_false hl]; rfl))
    have HG := Lib.hid (World.grownBy.refl W none)
    clear HBL
    go_enter Try.func118, Try.ntmps118
    go_wp2
    go_quiet (fail)
    have hq : Below W.heap.size W (W.drewN nq) := drew_below ⟨nq, rfl⟩
    have k1 := k1.below hq k1.lt
    have o := own_below o hq (Nat.le_refl _)
    have hs : base ≤ (W.drewN nq).heap.size := hbs
    have HG := Lib.hid (show W.grownBy (W.drewN nq) none from ⟨rfl, rfl, rfl, Nat.le_refl _, fun _ _ _ => rfl⟩)
    clear c1 f1 l1 c2 l2 c3 l3 w0 w1 hq
    generalize W.drewN nq = V at *
    have c1 := k1.cell 0; have l1 := k1.lt
    go_wp2_with (at_builtin; refine wpList_append_own _ rfl _ _ 31 rfl base 2 i0 (.int .i64 0) 1 8 Try.underlying31 hi hz0 hz1 hz2 rfl (by decide) _ _ _ rfl (o.alloc _) ⟨V.heap.size, 0, none⟩ 1 1 [.int .i64 t] rfl rfl (cell_newB _ _ _ _ rfl) (by intro u hu; simp at hu; subst hu; rfl) (by unfold maxLen; omega) (by omega) (by first | (simp; done) | (simp; omega) | omega) ?_; intro v' w6 hown' hgrow _; obtain ⟨g', cap', rfl⟩ := own_succW hown'; have hoA := o.alloc (.cells #[.int .i64 t] 2); have k1A := k1.alloc (.cells #[.int .i64 t] 2); have k16 := k1A.grown hgrow (blk_ne hoA k1A (by decide)); have c16 := k16.cell 0; have f16 := k16.frozen 0; have l16 := k16.lt)
    go_ret
    have hgA := HG.out.andThen (World.grownBy_alloc V (.cells #[.int .i64 t] 2) none) (fun j hj => by cases hj)
    have hgA0 : W.grownBy (V.alloc (.cells #[.int .i64 t] 2)) none := hgA
    refine win_app (HK := HK.out) (hgA := hgA0) (hgrow := hgrow) (o := hoA) (k6 := k16) (hown := hown') (hp := hp) (hgm := hgm) (hgw := hgw) (hne1 := hne1) (hne2 := hne2) (hnp := HNP.out) (hB := HB.out)
end Go.Proofs.Ytmdoddikaaaamab
