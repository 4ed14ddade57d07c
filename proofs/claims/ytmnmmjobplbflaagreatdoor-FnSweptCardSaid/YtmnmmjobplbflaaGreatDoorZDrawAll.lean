import Derived.Test.YtmnmmjobplbflaaGreatDoorChecked
import Derived.WalkKit
import Derived.ProofKit
import Derived.OpenShut
import Derived.ShutString
import Derived.ChangeOld
import Derived.Below
import Derived.Lib.Hide
import Derived.Deep.AppendLies
import Derived.Maps.Range
import Derived.Test.YtmnmmjobplbflaaGreatDoorJq
import Derived.Test.YtmnmmjobplbflaaGreatDoorZSrcN
namespace Go.Proofs.YtmnmmjobplbflaaGreatDoor
open Go.ChangeShapes Go.WideShapes Go.ChangeAt Go.RowKit
open Go.ChangeMaps (open_string shut_string)
set_option linter.unusedVariables false
set_option maxRecDepth 100000
/-- few of each -/
def FewL (ms : List Mb) (vs : List Iv) (bs : List Bn) : Prop := ms.length ≤ 6 ∧ vs.length ≤ 6 ∧ bs.length ≤ 6
/-- what is known of a room that is being drawn, the next member's number being k -/
structure DrawV (k own : Int) (ms : List Mb) (vs : List Iv) (bs : List Bn) : Prop where
  m1 : ∀ m ∈ ms, 1 ≤ m.id ∧ m.id < k ∧ mbB m = true
  v1 : ∀ x ∈ vs, 1 ≤ x.id ∧ x.id < k ∧ ivB x = true
  b1 : ∀ x ∈ bs, 1 ≤ x.id ∧ x.id < k ∧ bnB x = true
  r1 : Rise Mb.id ms
  r2 : Rise Iv.id vs
  r3 : Rise Bn.id bs
  d2 : ∀ x ∈ vs, ¬ x.id ∈ mids ms
  d3 : ∀ x ∈ bs, ¬ x.id ∈ mids ms ∧ ¬ x.id ∈ iids vs
  o1 : own < k → ∃ m ∈ ms, m.role = 3
  l1 : (ms.length : Int) + 1 ≤ k
  l2 : (vs.length : Int) + 1 ≤ k
  l3 : (bs.length : Int) + 1 ≤ k
theorem DrawV.start (own : Int) (h : 1 ≤ own) : DrawV 1 own [] [] [] :=
  ⟨by simp, by simp, by simp, List.Pairwise.nil, List.Pairwise.nil, List.Pairwise.nil, by simp, by simp, fun h' => by omega, by simp, by simp, by simp⟩
theorem rise_snoc {α : Type} {k : α → Int} {xs : List α} {z : α} (h : Rise k xs) (hz : ∀ y ∈ xs, k y < k z) : Rise k (xs ++ [z]) := by
  unfold Rise
  rw [List.pairwise_append]
  exact ⟨h, List.pairwise_singleton _ _, fun a ha b hb => by simp at hb; subst hb; exact hz a ha⟩
section
variable {k own : Int} {ms : List Mb} {vs : List Iv} {bs : List Bn}
theorem mem_snoc {α : Type} {x z : α} {xs : List α} (h : x ∈ xs ++ [z]) : x ∈ xs ∨ x = z := by simpa using h
theorem DrawV.skip (h : DrawV k own ms vs bs) (ho : own ≠ k) : DrawV (k + 1) own ms vs bs :=
  ⟨fun m hm => by have := h.m1 m hm; exact ⟨this.1, by omega, this.2.2⟩, fun m hm => by have := h.v1 m hm; exact ⟨this.1, by omega, this.2.2⟩, fun m hm => by have := h.b1 m hm; exact ⟨this.1, by omega, this.2.2⟩, h.r1, h.r2, h.r3, h.d2, h.d3, fun h' => h.o1 (by omega), by have := h.l1; omega, by have := h.l2; omega, by have := h.l3; omega⟩
theorem DrawV.addM (h : DrawV k own ms vs bs) (hk : 1 ≤ k) {m : Mb} (hid : m.id = k) (hm : mbB m = true) (ho : own = k → m.role = 3) : DrawV (k + 1) own (ms ++ [m]) vs bs := by
  have hn : ∀ t : Int, t < k → t ∈ mids (ms ++ [m]) → t ∈ mids ms := fun t ht hm' => by
    simp only [mids, List.map_append, List.mem_append, List.map_cons, List.map_nil, List.mem_singleton] at hm'
    rcases hm' with h1 | h1
    · exact h1
    · omega
  refine ⟨fun x hx => ?_, fun x hx => by have := h.v1 x hx; exact ⟨this.1, by omega, this.2.2⟩, fun x hx => by have := h.b1 x hx; exact ⟨this.1, by omega, this.2.2⟩, rise_snoc h.r1 (fun y hy => by have := (h.m1 y hy).2.1; omega), h.r2, h.r3, fun x hx hc => h.d2 x hx (hn _ (h.v1 x hx).2.1 hc), fun x hx => ⟨fun hc => (h.d3 x hx).1 (hn _ (h.b1 x hx).2.1 hc), (h.d3 x hx).2⟩, fun h' => ?_, by have := h.l1; simp; omega, by have := h.l2; omega, by have := h.l3; omega⟩
  · rcases mem_snoc hx with hx | rfl
    · have := h.m1 x hx; exact ⟨this.1, by omega, this.2.2⟩
    · exact ⟨by omega, by omega, hm⟩
  · by_cases he : own = k
    · exact ⟨m, by simp, ho he⟩
    · obtain ⟨x, hx, hr⟩ := h.o1 (by omega)
      exact ⟨x, by simp [hx], hr⟩
theorem DrawV.addI (h : DrawV k own ms vs bs) (hk : 1 ≤ k) {m : Iv} (hid : m.id = k) (hm : ivB m = true) (ho : own ≠ k) : DrawV (k + 1) own ms (vs ++ [m]) bs := by
  have hn : ∀ t : Int, t < k → t ∈ iids (vs ++ [m]) → t ∈ iids vs := fun t ht hm' => by
    simp only [iids, List.map_append, List.mem_append, List.map_cons, List.map_nil, List.mem_singleton] at hm'
    rcases hm' with h1 | h1
    · exact h1
    · omega
  have hno : ¬ k ∈ mids ms := fun hc => by
    obtain ⟨y, hy, e⟩ := List.mem_map.1 hc
    have := (h.m1 y hy).2.1
    omega
  refine ⟨fun x hx => by have := h.m1 x hx; exact ⟨this.1, by omega, this.2.2⟩, fun x hx => ?_, fun x hx => by have := h.b1 x hx; exact ⟨this.1, by omega, this.2.2⟩, h.r1, rise_snoc h.r2 (fun y hy => by have := (h.v1 y hy).2.1; omega), h.r3, fun x hx => ?_, fun x hx => ⟨(h.d3 x hx).1, fun hc => (h.d3 x hx).2 (hn _ (h.b1 x hx).2.1 hc)⟩, fun h' => h.o1 (by omega), by have := h.l1; omega, by have := h.l2; simp; omega, by have := h.l3; omega⟩
  · rcases mem_snoc hx with hx | rfl
    · have := h.v1 x hx; exact ⟨this.1, by omega, this.2.2⟩
    · exact ⟨by omega, by omega, hm⟩
  · rcases mem_snoc hx with hx | rfl
    · exact h.d2 x hx
    · rw [hid]; exact hno
theorem DrawV.addB (h : DrawV k own ms vs bs) (hk : 1 ≤ k) {m : Bn} (hid : m.id = k) (hm : bnB m = true) (ho : own ≠ k) : DrawV (k + 1) own ms vs (bs ++ [m]) := by
  have hno : ¬ k ∈ mids ms := fun hc => by
    obtain ⟨y, hy, e⟩ := List.mem_map.1 hc
    have := (h.m1 y hy).2.1
    omega
  have hno2 : ¬ k ∈ iids vs := fun hc => by
    obtain ⟨y, hy, e⟩ := List.mem_map.1 hc
    have := (h.v1 y hy).2.1
    omega
  refine ⟨fun x hx => by have := h.m1 x hx; exact ⟨this.1, by omega, this.2.2⟩, fun x hx => by have := h.v1 x hx; exact ⟨this.1, by omega, this.2.2⟩, fun x hx => ?_, h.r1, h.r2, rise_snoc h.r3 (fun y hy => by have := (h.b1 y hy).2.1; omega), h.d2, fun x hx => ?_, fun h' => h.o1 (by omega), by have := h.l1; omega, by have := h.l2; omega, by have := h.l3; simp; omega⟩
  · rcases mem_snoc hx with hx | rfl
    · have := h.b1 x hx; exact ⟨this.1, by omega, this.2.2⟩
    · exact ⟨by omega, by omega, hm⟩
  · rcases mem_snoc hx with hx | rfl
    · exact h.d3 x hx
    · rw [hid]; exact ⟨hno, hno2⟩
theorem DrawV.room (h : DrawV 7 own ms vs bs) (ho : own ≤ 6) : RoomV ms vs bs ∧ FewL ms vs bs :=
  ⟨⟨by have := h.l1; omega, fun m hm => ⟨(h.m1 m hm).2.2, by have := h.m1 m hm; simp [idB]; omega⟩, h.r1, h.o1 (by omega), by have := h.l2; omega, fun m hm => ⟨(h.v1 m hm).2.2, by have := h.v1 m hm; simp [idB]; omega⟩, h.r2, h.d2, by have := h.l3; omega, fun m hm => ⟨(h.b1 m hm).2.2, by have := h.b1 m hm; simp [idB]; omega⟩, h.r3, h.d3⟩, by have := h.l1; omega, by have := h.l2; omega, by have := h.l3; omega⟩
end
/-- a room that is being drawn -/
def DrawAt (w V : World) (S : Nat) (A : Option Addr) (n c : Nat) (zs : List Nat) (a : Nat) (sd : Int) (Q : Nat) (o : Bool) (v1 v2 v3 : Value) (l1 l2 l3 : Nat) (ms : List Mb) (vs : List Iv) (bs : List Bn) : Prop :=
  OutAt V Q (w.heap.size + 1) (w.heap.size + 1) (w.heap.size + 1) o v1 v2 v3 l1 l2 l3 ms vs bs ∧ SrcAt V S A n c zs a sd ∧ Blk V w.heap.size 28 #[.bool false, .slice none 0 0, .slice none 0 0, .slice none 0 0] ∧ w.grownBy V (some S) ∧ w.heap.size < Q ∧ S < w.heap.size ∧ ∀ b, 0 < n → A = some b → b.block < w.heap.size
section
variable {w V V' : World} {S Q : Nat} {A : Option Addr} {n c a a' : Nat} {zs : List Nat} {sd sd' : Int} {o : Bool} {v1 v2 v3 : Value} {l1 l2 l3 : Nat} {ms : List Mb} {vs : List Iv} {bs : List Bn}
theorem own_kept_S {e s m : Nat} {v : Value} {xs : List Value} (h : V.ownsRow (w.heap.size + 1) e s v m xs) (hg : V.grownBy V' (some S)) (hS : S < w.heap.size) : V'.ownsRow (w.heap.size + 1) e s v m xs :=
  h.kept hg (by
    cases hv : v.ownBlock with
    | none => exact .inl rfl
    | some g => right; intro e; injection e with e; have := (h.lt g hv).1; omega)
theorem DrawAt.src (h : DrawAt w V S A n c zs a sd Q o v1 v2 v3 l1 l2 l3 ms vs bs) (hg : V.grownBy V' (some S)) (hs : SrcAt V' S A n c zs ((a : Int) + 1) sd') : DrawAt w V' S A n c zs (a + 1) sd' Q o v1 v2 v3 l1 l2 l3 ms vs bs := by
  obtain ⟨hX, _, kR, hw, hQ, hS, hA⟩ := h
  exact ⟨⟨hX.1.grown hg (by intro e; cases e; omega), own_kept_S hX.2.1 hg hS, own_kept_S hX.2.2.1 hg hS, own_kept_S hX.2.2.2 hg hS⟩, hs, kR.grown hg (by intro e; cases e; omega), hw.andThen hg (fun j hj => by cases hj; exact .inr rfl), hQ, hS, hA⟩
theorem DrawAt.alloc (h : DrawAt w V S A n c zs a sd Q o v1 v2 v3 l1 l2 l3 ms vs bs) (x : Obj) : DrawAt w (V.alloc x) S A n c zs a sd Q o v1 v2 v3 l1 l2 l3 ms vs bs := by
  obtain ⟨hX, hs, kR, hw, hQ, hS, hA⟩ := h
  have hg := World.grownBy_alloc V x none
  exact ⟨hX.alloc x, hs.grown hg (fun b hp hb => by simp) (by simp), kR.alloc x, hw.andThen hg (fun j hj => by cases hj), hQ, hS, hA⟩
/-- a box of one's own, newer than the rows -/
theorem DrawAt.box (h : DrawAt w V S A n c zs a sd Q o v1 v2 v3 l1 l2 l3 ms vs bs) {Bx i : Nat} {u : Value} (hB : w.heap.size < Bx) (hQ' : Q ≠ Bx) (g1 : ∀ g, v1.ownBlock = some g → g < Bx) (g2 : ∀ g, v2.ownBlock = some g → g < Bx) (g3 : ∀ g, v3.ownBlock = some g → g < Bx) :
    DrawAt w (V.setCell ⟨Bx, i, none⟩ u) S A n c zs a sd Q o v1 v2 v3 l1 l2 l3 ms vs bs := by
  obtain ⟨hX, hs, kR, hw, hQ, hS, hA⟩ := h
  have hg := grown_set V Bx i u
  exact ⟨⟨hX.1.far (p := ⟨Bx, i, none⟩) hQ' u, ownsRow_setCell_other hX.2.1 (a := ⟨Bx, i, none⟩) (fun e => by have := g1 _ e; simp at this) u, ownsRow_setCell_other hX.2.2.1 (a := ⟨Bx, i, none⟩) (fun e => by have := g2 _ e; simp at this) u, ownsRow_setCell_other hX.2.2.2 (a := ⟨Bx, i, none⟩) (fun e => by have := g3 _ e; simp at this) u⟩,
    hs.grown hg (fun b hp hb => by have := hA b hp hb; intro e; cases e; omega) (by intro e; cases e; omega), kR.far (p := ⟨Bx, i, none⟩) (by simp; omega) u, hw.andThen hg (fun j hj => by cases hj; exact .inl (by omega)), hQ, hS, hA⟩
theorem row_fresh {e s m : Nat} {v : Value} {xs : List Value} (h : V.ownsRow (w.heap.size + 1) e s v m xs) : ∀ j, v.ownBlock = some j → w.heap.size ≤ j := fun j hj => by have := (h.lt j hj).1; omega
theorem DrawAt.putM {ms' : List Mb} {l' : Nat} {u : Value} (h : DrawAt w V S A n c zs a sd Q o v1 v2 v3 l1 l2 l3 ms vs bs) (hg : V.grownBy V' v1.ownBlock) (ho : V'.ownsRow (w.heap.size + 1) 66 4 u l' (ms'.flatMap mbC)) :
    DrawAt w (V'.setCell ⟨Q, 1, none⟩ u) S A n c zs a sd Q o u v2 v3 l' l2 l3 ms' vs bs := by
  obtain ⟨hX, hs, kR, hw, hQ, hS, hA⟩ := h
  have hf := row_fresh hX.2.1
  have hk := hX.1.grown hg (blk_apart hX.1 hX.2.1 (by decide))
  have hq := grown_set V' Q 1 u
  have n1 : ∀ b : Addr, 0 < n → A = some b → some b.block ≠ v1.ownBlock := fun b hp hb e => by have := hA b hp hb; have := hf _ e.symm; omega
  have n2 : some S ≠ v1.ownBlock := fun e => by have := hf _ e.symm; omega
  have kR' := kR.grown hg (fun e => by have := (hX.2.1.lt _ e.symm).1; omega)
  exact ⟨⟨hk.set_ 1 u, ownsRow_setCell_other ho (a := ⟨Q, 1, none⟩) (fun e => blk_apart hk ho (by decide) e.symm) u, ownsRow_setCell_other (hX.2.2.1.kept hg (own_types2 hX.2.2.1 hX.2.1 (by decide))) (a := ⟨Q, 1, none⟩) (fun e => blk_apart hk (hX.2.2.1.kept hg (own_types2 hX.2.2.1 hX.2.1 (by decide))) (by decide) e.symm) u, ownsRow_setCell_other (hX.2.2.2.kept hg (own_types2 hX.2.2.2 hX.2.1 (by decide))) (a := ⟨Q, 1, none⟩) (fun e => blk_apart hk (hX.2.2.2.kept hg (own_types2 hX.2.2.2 hX.2.1 (by decide))) (by decide) e.symm) u⟩,
    (hs.grown hg n1 n2).grown hq (fun b hp hb => by have := hA b hp hb; intro e; cases e; omega) (by intro e; cases e; omega), kR'.far (p := ⟨Q, 1, none⟩) (by simp; omega) u, (hw.andThen hg (fun j hj => .inl (hf j hj))).andThen hq (fun j hj => by cases hj; exact .inl (by omega)), hQ, hS, hA⟩
theorem DrawAt.putI {vs' : List Iv} {l' : Nat} {u : Value} (h : DrawAt w V S A n c zs a sd Q o v1 v2 v3 l1 l2 l3 ms vs bs) (hg : V.grownBy V' v2.ownBlock) (ho : V'.ownsRow (w.heap.size + 1) 36 3 u l' (vs'.flatMap ivC)) :
    DrawAt w (V'.setCell ⟨Q, 2, none⟩ u) S A n c zs a sd Q o v1 u v3 l1 l' l3 ms vs' bs := by
  obtain ⟨hX, hs, kR, hw, hQ, hS, hA⟩ := h
  have hf := row_fresh hX.2.2.1
  have hk := hX.1.grown hg (blk_apart hX.1 hX.2.2.1 (by decide))
  have hq := grown_set V' Q 2 u
  have n1 : ∀ b : Addr, 0 < n → A = some b → some b.block ≠ v2.ownBlock := fun b hp hb e => by have := hA b hp hb; have := hf _ e.symm; omega
  have n2 : some S ≠ v2.ownBlock := fun e => by have := hf _ e.symm; omega
  have kR' := kR.grown hg (fun e => by have := (hX.2.2.1.lt _ e.symm).1; omega)
  exact ⟨⟨hk.set_ 2 u, ownsRow_setCell_other (hX.2.1.kept hg (own_types2 hX.2.1 hX.2.2.1 (by decide))) (a := ⟨Q, 2, none⟩) (fun e => blk_apart hk (hX.2.1.kept hg (own_types2 hX.2.1 hX.2.2.1 (by decide))) (by decide) e.symm) u, ownsRow_setCell_other ho (a := ⟨Q, 2, none⟩) (fun e => blk_apart hk ho (by decide) e.symm) u, ownsRow_setCell_other (hX.2.2.2.kept hg (own_types2 hX.2.2.2 hX.2.2.1 (by decide))) (a := ⟨Q, 2, none⟩) (fun e => blk_apart hk (hX.2.2.2.kept hg (own_types2 hX.2.2.2 hX.2.2.1 (by decide))) (by decide) e.symm) u⟩,
    (hs.grown hg n1 n2).grown hq (fun b hp hb => by have := hA b hp hb; intro e; cases e; omega) (by intro e; cases e; omega), kR'.far (p := ⟨Q, 2, none⟩) (by simp; omega) u, (hw.andThen hg (fun j hj => .inl (hf j hj))).andThen hq (fun j hj => by cases hj; exact .inl (by omega)), hQ, hS, hA⟩
theorem DrawAt.putB {bs' : List Bn} {l' : Nat} {u : Value} (h : DrawAt w V S A n c zs a sd Q o v1 v2 v3 l1 l2 l3 ms vs bs) (hg : V.grownBy V' v3.ownBlock) (ho : V'.ownsRow (w.heap.size + 1) 38 2 u l' (bs'.flatMap bnC)) :
    DrawAt w (V'.setCell ⟨Q, 3, none⟩ u) S A n c zs a sd Q o v1 v2 u l1 l2 l' ms vs bs' := by
  obtain ⟨hX, hs, kR, hw, hQ, hS, hA⟩ := h
  have hf := row_fresh hX.2.2.2
  have hk := hX.1.grown hg (blk_apart hX.1 hX.2.2.2 (by decide))
  have hq := grown_set V' Q 3 u
  have n1 : ∀ b : Addr, 0 < n → A = some b → some b.block ≠ v3.ownBlock := fun b hp hb e => by have := hA b hp hb; have := hf _ e.symm; omega
  have n2 : some S ≠ v3.ownBlock := fun e => by have := hf _ e.symm; omega
  have kR' := kR.grown hg (fun e => by have := (hX.2.2.2.lt _ e.symm).1; omega)
  exact ⟨⟨hk.set_ 3 u, ownsRow_setCell_other (hX.2.1.kept hg (own_types2 hX.2.1 hX.2.2.2 (by decide))) (a := ⟨Q, 3, none⟩) (fun e => blk_apart hk (hX.2.1.kept hg (own_types2 hX.2.1 hX.2.2.2 (by decide))) (by decide) e.symm) u, ownsRow_setCell_other (hX.2.2.1.kept hg (own_types2 hX.2.2.1 hX.2.2.2 (by decide))) (a := ⟨Q, 3, none⟩) (fun e => blk_apart hk (hX.2.2.1.kept hg (own_types2 hX.2.2.1 hX.2.2.2 (by decide))) (by decide) e.symm) u, ownsRow_setCell_other ho (a := ⟨Q, 3, none⟩) (fun e => blk_apart hk ho (by decide) e.symm) u⟩,
    (hs.grown hg n1 n2).grown hq (fun b hp hb => by have := hA b hp hb; intro e; cases e; omega) (by intro e; cases e; omega), kR'.far (p := ⟨Q, 3, none⟩) (by simp; omega) u, (hw.andThen hg (fun j hj => .inl (hf j hj))).andThen hq (fun j hj => by cases hj; exact .inl (by omega)), hQ, hS, hA⟩
end
theorem own_formD {w : World} {base e size n : Nat} {v : Value} {xs : List Value} (h : w.ownsRow base e size v n xs) : ∃ A c, v = .slice A n c := by
  rcases h.2 with ⟨rfl, rfl⟩ | ⟨g, cap, cur, rfl, _⟩
  · exact ⟨_, _, rfl⟩
  · exact ⟨_, _, rfl⟩
theorem own_farD {w : World} {base e size n g : Nat} {v : Value} {xs : List Value} (h : w.ownsRow base e size v n xs) (hne : some g ≠ v.ownBlock) (i j k l : Nat) (v0 v1 v2 v3 : Value) :
    ((((w.setCell ⟨g, i, none⟩ v0).setCell ⟨g, j, none⟩ v1).setCell ⟨g, k, none⟩ v2).setCell ⟨g, l, none⟩ v3).ownsRow base e size v n xs :=
  ownsRow_setCell_other (ownsRow_setCell_other (ownsRow_setCell_other (ownsRow_setCell_other h (fun e => hne e.symm) _) (fun e => hne e.symm) _) (fun e => hne e.symm) _) (fun e => hne e.symm) _
theorem far4D {w : World} {base n1 c1 n2 c2 n3 c3 g : Nat} {A1 A2 A3 : Option Addr} {ms : List Mb} {vs : List Iv} {bs : List Bn} (h : RoomOwn w base A1 n1 c1 A2 n2 c2 A3 n3 c3 ms vs bs) {cs : Array Value} (hk : Blk w g 28 cs) (i j k l : Nat) (v0 v1 v2 v3 : Value) :
    RoomOwn ((((w.setCell ⟨g, i, none⟩ v0).setCell ⟨g, j, none⟩ v1).setCell ⟨g, k, none⟩ v2).setCell ⟨g, l, none⟩ v3) base A1 n1 c1 A2 n2 c2 A3 n3 c3 ms vs bs :=
  ⟨own_farD h.1 (blk_apart hk h.1 (by decide)) _ _ _ _ _ _ _ _, own_farD h.2.1 (blk_apart hk h.2.1 (by decide)) _ _ _ _ _ _ _ _, own_farD h.2.2 (blk_apart hk h.2.2 (by decide)) _ _ _ _ _ _ _ _⟩
/-- a drawn room is valid -/
def DrawOut (w : World) (S : Nat) (e : Ending) (w' : World) : Prop := ∃ o A1 n1 c1 A2 n2 c2 A3 n3 c3 ms vs bs, e = .returned (.agg #[.bool o, .slice A1 n1 c1, .slice A2 n2 c2, .slice A3 n3 c3]) ∧ RoomOwn w' w.heap.size A1 n1 c1 A2 n2 c2 A3 n3 c3 ms vs bs ∧ (RoomV ms vs bs ∧ FewL ms vs bs) ∧ w.grownBy w' (some S)
set_option maxHeartbeats 6400000 in
theorem draw_any (S : Nat) (A : Option Addr) (n c : Nat) (zs : List Nat) (sd : Int) (w : World) (h : SrcAt w S A n c zs ((0 : Nat) : Int) sd) (hA : ∀ b, 0 < n → A = some b → b.block < w.heap.size) :
    Calls Tryz.prog 26 #[.pointer (some ⟨S, 0, none⟩)] w (DrawOut w S) := by
  obtain ⟨iM, hiM, hM0, hM1, hM2⟩ := info_parts Tryz.info_Member
  obtain ⟨iI, hiI, hI0, hI1, hI2⟩ := info_parts Tryz.info_Invite
  obtain ⟨iB, hiB, hB0, hB1, hB2⟩ := info_parts Tryz.info_Ban
  have hSw := h.1.lt
  have hs0 := h.grown (World.grownBy_alloc w (.cells #[.bool false, .slice none 0 0, .slice none 0 0, .slice none 0 0] 28) none) (fun b hp hb => by simp) (by simp)
  have kR := Blk.new w 28 #[.bool false, .slice none 0 0, .slice none 0 0, .slice none 0 0]
  have hgA := World.grownBy_alloc w (.cells #[.bool false, .slice none 0 0, .slice none 0 0, .slice none 0 0] 28) none
  have hgS : w.grownBy (w.alloc (.cells #[.bool false, .slice none 0 0, .slice none 0 0, .slice none 0 0] 28)) (some S) := hgA.andThen (World.grownBy.refl _ none) (fun j hj => by cases hj) |> fun h => ⟨h.os, h.tape, h.output, h.size, fun k hk _ => h.block k hk (by simp)⟩
  clear h hgA
  go_enter Tryz.func26, Tryz.ntmps26
  go_wp2_with fail
  have szA : (w.alloc (.cells #[.bool false, .slice none 0 0, .slice none 0 0, .slice none 0 0] 28)).heap.size = w.heap.size + 1 := by simp
  generalize w.alloc (.cells #[.bool false, .slice none 0 0, .slice none 0 0, .slice none 0 0] 28) = V0 at *
  go_at_call 74; refine (one_any S A n c zs 0 sd 2 _ hs0 (by decide) (by decide) (by decide)).mono ?_; rintro e V1 ⟨o, sd1, rfl, hg, hs⟩
  have kR := kR.grown hg (by intro e; cases e; omega)
  have hgS := hgS.trans hg
  have hz1 : w.heap.size < V1.heap.size := kR.lt
  have hD : DrawAt w (V1.alloc (.cells #[.bool o, .slice none 0 0, .slice none 0 0, .slice none 0 0] 28)) S A n c zs (0 + 1) sd1 V1.heap.size o (.slice none 0 0) (.slice none 0 0) (.slice none 0 0) ([] : List Mb).length ([] : List Iv).length ([] : List Bn).length [] [] [] :=
    ⟨⟨Blk.new _ _ _, World.ownsRow_nil _ _ _ _, World.ownsRow_nil _ _ _ _, World.ownsRow_nil _ _ _ _⟩, SrcAt.grown hs (World.grownBy_alloc V1 _ none) (fun b hp hb => by simp) (by simp), kR.alloc _, hgS.andThen (World.grownBy_alloc V1 _ none) (fun j hj => by cases hj), hz1, hSw, hA⟩
  clear hs0 hg hs kR hgS hz1
  go_wp2_with fail
  generalize V1.alloc (.cells #[.bool o, .slice none 0 0, .slice none 0 0, .slice none 0 0] 28) = U1 at *
  generalize V1.heap.size = Q at *
  go_at_call 75; refine (pick_any S A n c zs _ _ 6 _ hD.2.1 (by omega) (by decide) (by decide)).mono ?_; rintro e V2 ⟨x0, sd2, rfl, hx0, hx1, hg, hs⟩
  have hD := hD.src hg hs
  clear hg hs
  have hV := DrawV.start (1 + x0) (by omega)
  go_wp2
  go_loopw [5] (fun i wr => ∃ (k a : Nat) (sd : Int) (v1 v2 v3 : Value) (ms : List Mb) (vs : List Iv) (bs : List Bn), 1 ≤ k ∧ k ≤ 7 ∧ i = .int .i64 k ∧ a ≤ 10 * k ∧ DrawAt w wr S A n c zs a sd Q o v1 v2 v3 ms.length vs.length bs.length ms vs bs ∧ DrawV k (1 + x0) ms vs bs) (fun i _ => 7 - (intOf i).toNat)
  case atStart => exact ⟨1, _, _, _, _, _, [], [], [], by omega, by omega, rfl, by omega, hD, hV⟩
  case round =>
    obtain ⟨k, a, sd, v1, v2, v3, ms, vs, bs, hk1, hk7, rfl, ha, hD, hV⟩ := hrel
    have hl1 := hV.l1; have hl2 := hV.l2; have hl3 := hV.l3
    by_cases hk6 : k ≤ 6
    · have hk6' : decide ((k : Int) ≤ 6) = true := decide_eq_true (by omega)
      go_wp2_with fail
      go_at_call 75; refine (pick_any S A n c zs _ _ 4 _ hD.2.1 (by omega) (by decide) (by decide)).mono ?_; rintro e V1 ⟨xr, sd2, rfl, hxr0, hxr1, hg, hs⟩
      have hD := hD.src hg hs
      clear hg hs
      have g1 : ∀ g, v1.ownBlock = some g → g < V1.heap.size := fun g hg => (hD.1.2.1.lt g hg).2
      have g2 : ∀ g, v2.ownBlock = some g → g < V1.heap.size := fun g hg => (hD.1.2.2.1.lt g hg).2
      have g3 : ∀ g, v3.ownBlock = some g → g < V1.heap.size := fun g hg => (hD.1.2.2.2.lt g hg).2
      have hBw : w.heap.size < V1.heap.size := hD.2.2.1.lt
      have hBQ : Q ≠ V1.heap.size := Nat.ne_of_lt hD.1.1.lt
      have hD := hD.alloc (.cells #[.int .i64 k, .int .i64 xr, .int .i64 0, .int .i64 0] 66)
      have bx := Blk.new V1 66 #[.int .i64 k, .int .i64 xr, .int .i64 0, .int .i64 0]
      go_wp2_with fail
      generalize V1.alloc (.cells #[.int .i64 k, .int .i64 xr, .int .i64 0, .int .i64 0] 66) = U0 at *
      generalize V1.heap.size = Bx at *
      go_at_call 75; refine (pick_any S A n c zs _ _ 20 _ hD.2.1 (by omega) (by decide) (by decide)).mono ?_; rintro e V3 ⟨xy, sd4, rfl, hxy0, hxy1, hg, hs⟩
      have hD := hD.src hg hs
      have bx := bx.grown hg (by intro e; cases e; omega)
      clear hg hs
      have qb := bx.cell 2; have fb := bx.frozen 2
      have hD := hD.box (i := 2) (u := .int .i64 xy) hBw hBQ g1 g2 g3
      have bx : Blk (V3.setCell ⟨Bx, 2, none⟩ (.int .i64 xy)) Bx 66 #[.int .i64 k, .int .i64 xr, .int .i64 xy, .int .i64 0] := bx.set_ 2 _
      go_wp2_with fail
      clear qb fb
      generalize V3.setCell ⟨Bx, 2, none⟩ (.int .i64 xy) = U5 at *
      go_at_call 74; refine (one_any S A n c zs _ _ 4 _ hD.2.1 (by omega) (by decide) (by decide)).mono ?_; rintro e V6 ⟨q4, sd7, rfl, hg, hs⟩
      have hD := hD.src hg hs
      have bx := bx.grown hg (by intro e; cases e; omega)
      clear hg hs
      cases q4 with
      | true =>
        go_wp2_with fail
        go_at_call 75; refine (pick_any S A n c zs _ _ 40 _ hD.2.1 (by omega) (by decide) (by decide)).mono ?_; rintro e V8 ⟨xz, sd9, rfl, hxz0, hxz1, hg, hs⟩
        have hD := hD.src hg hs
        have bx := bx.grown hg (by intro e; cases e; omega)
        clear hg hs
        have qz := bx.cell 3; have fz := bx.frozen 3
        have hD := hD.box (i := 3) (u := .int .i64 xz) hBw hBQ g1 g2 g3
        have bx : Blk (V8.setCell ⟨Bx, 3, none⟩ (.int .i64 xz)) Bx 66 #[.int .i64 k, .int .i64 xr, .int .i64 xy, .int .i64 xz] := bx.set_ 3 _
        by_cases hko : (k : Int) = 1 + x0
        · have hkb : ((k : Int) == 1 + x0) = true := by simp [hko]
          have HKO := Lib.hid hko; clear hko
          have qb := bx.cell 1; have fb := bx.frozen 1
          have hD := hD.box (i := 1) (u := .int .i64 3) hBw hBQ g1 g2 g3
          have bx : Blk ((V8.setCell ⟨Bx, 3, none⟩ (.int .i64 xz)).setCell ⟨Bx, 1, none⟩ (.int .i64 3)) Bx 66 #[.int .i64 k, .int .i64 3, .int .i64 xy, .int .i64 xz] := bx.set_ 1 _
          go_wp2_with fail
          clear qb fb
          generalize (V8.setCell ⟨Bx, 3, none⟩ (.int .i64 xz)).setCell ⟨Bx, 1, none⟩ (.int .i64 3) = U176 at *
          go_at_call 75; refine (pick_any S A n c zs _ _ 40 _ hD.2.1 (by omega) (by decide) (by decide)).mono ?_; rintro e V177 ⟨xu, sd178, rfl, hxu0, hxu1, hg, hs⟩
          have hD := hD.src hg hs
          have bx := bx.grown hg (by intro e; cases e; omega)
          clear hg hs
          go_wp2_with fail
          go_at_call 75; refine (pick_any S A n c zs _ _ 6 _ hD.2.1 (by omega) (by decide) (by decide)).mono ?_; rintro e V179 ⟨xb, sd180, rfl, hxb0, hxb1, hg, hs⟩
          have hD := hD.src hg hs
          have bx := bx.grown hg (by intro e; cases e; omega)
          clear hg hs
          go_wp2_with fail
          go_at_call 75; refine (pick_any S A n c zs _ _ 5 _ hD.2.1 (by omega) (by decide) (by decide)).mono ?_; rintro e V181 ⟨xk, sd182, rfl, hxk0, hxk1, hg, hs⟩
          have hD := hD.src hg hs
          have bx := bx.grown hg (by intro e; cases e; omega)
          clear hg hs
          have l0 := bx.cell 0; have l1 := bx.cell 1; have l2 := bx.cell 2; have l3 := bx.cell 3; have m1 := hD.1.1.cell 1
          have hUs : w.heap.size < V181.heap.size := hD.2.2.1.lt
          have hDa := hD.alloc (.cells #[.int .i64 k, .int .i64 3, .int .i64 xy, .int .i64 xz] 66)
          have ma := hDa.1.1.cell 1
          go_wp2_with (first | (at_builtin; refine wpList_append_lies _ rfl (.tmp 62) (.tmp 64) 24 rfl (w.heap.size + 1) 66 iM _ 4 32 Tryz.underlying24 hiM hM0 hM1 hM2 rfl (by omega) v1 ms.length (ms.flatMap mbC) rfl hDa.1.2.1 ⟨V181.heap.size, 0, none⟩ 1 1 [.int .i64 k, .int .i64 3, .int .i64 xy, .int .i64 xz] rfl rfl (World.news_of_block (cs := #[.int .i64 k, .int .i64 3, .int .i64 xy, .int .i64 xz]) (t := 66) (fr := (0, 0)) (heap_alloc_new V181 _)) (by simp [Value.oneCell']) (by omega) (by unfold maxLen; omega) (by omega) (by simp; omega) (V181.heap.size + 1) (by simp) ?_; intro gg cap w9 hown1 hgrow hat hlt1; have hq9 := hDa.1.1.grown hgrow (blk_apart hDa.1.1 hDa.1.2.1 (by decide)); have c9 := hq9.cell 1; have f9 := hq9.frozen 1; have hZ := hDa.putM (ms' := ms ++ [(⟨(k : Int), 3, xy, xz⟩ : Mb)]) hgrow (by rw [List.flatMap_append]; exact hown1)))
          go_roundw
          case rel => refine ⟨k + 1, _, _, _, _, _, _, _, _, by omega, by omega, by go_num, ?_, (by rw [List.length_append]; exact hZ), hV.addM (by omega) rfl (by simp [mbB, roleB, tickB]; omega) (fun _ => rfl)⟩; omega
          case measure => simp [intOf]; omega
        · have hkb : ((k : Int) == 1 + x0) = false := by simp; omega
          have HKO := Lib.hid hko; clear hko
          go_wp2_with fail
          go_at_call 75; refine (pick_any S A n c zs _ _ 40 _ hD.2.1 (by omega) (by decide) (by decide)).mono ?_; rintro e V151 ⟨xu, sd152, rfl, hxu0, hxu1, hg, hs⟩
          have hD := hD.src hg hs
          have bx := bx.grown hg (by intro e; cases e; omega)
          clear hg hs
          go_wp2_with fail
          go_at_call 75; refine (pick_any S A n c zs _ _ 6 _ hD.2.1 (by omega) (by decide) (by decide)).mono ?_; rintro e V153 ⟨xb, sd154, rfl, hxb0, hxb1, hg, hs⟩
          have hD := hD.src hg hs
          have bx := bx.grown hg (by intro e; cases e; omega)
          clear hg hs
          go_wp2_with fail
          go_at_call 75; refine (pick_any S A n c zs _ _ 5 _ hD.2.1 (by omega) (by decide) (by decide)).mono ?_; rintro e V155 ⟨xk, sd156, rfl, hxk0, hxk1, hg, hs⟩
          have hD := hD.src hg hs
          have bx := bx.grown hg (by intro e; cases e; omega)
          clear hg hs
          by_cases hk3 : xk < 3
          · have hk3' : decide (xk < 3) = true := decide_eq_true hk3
            have l0 := bx.cell 0; have l1 := bx.cell 1; have l2 := bx.cell 2; have l3 := bx.cell 3; have m1 := hD.1.1.cell 1
            have hUs : w.heap.size < V155.heap.size := hD.2.2.1.lt
            have hDa := hD.alloc (.cells #[.int .i64 k, .int .i64 xr, .int .i64 xy, .int .i64 xz] 66)
            have ma := hDa.1.1.cell 1
            go_wp2_with (first | (at_builtin; refine wpList_append_lies _ rfl (.tmp 62) (.tmp 64) 24 rfl (w.heap.size + 1) 66 iM _ 4 32 Tryz.underlying24 hiM hM0 hM1 hM2 rfl (by omega) v1 ms.length (ms.flatMap mbC) rfl hDa.1.2.1 ⟨V155.heap.size, 0, none⟩ 1 1 [.int .i64 k, .int .i64 xr, .int .i64 xy, .int .i64 xz] rfl rfl (World.news_of_block (cs := #[.int .i64 k, .int .i64 xr, .int .i64 xy, .int .i64 xz]) (t := 66) (fr := (0, 0)) (heap_alloc_new V155 _)) (by simp [Value.oneCell']) (by omega) (by unfold maxLen; omega) (by omega) (by simp; omega) (V155.heap.size + 1) (by simp) ?_; intro gg cap w9 hown1 hgrow hat hlt1; have hq9 := hDa.1.1.grown hgrow (blk_apart hDa.1.1 hDa.1.2.1 (by decide)); have c9 := hq9.cell 1; have f9 := hq9.frozen 1; have hZ := hDa.putM (ms' := ms ++ [(⟨(k : Int), xr, xy, xz⟩ : Mb)]) hgrow (by rw [List.flatMap_append]; exact hown1)))
            go_roundw
            case rel => refine ⟨k + 1, _, _, _, _, _, _, _, _, by omega, by omega, by go_num, ?_, (by rw [List.length_append]; exact hZ), hV.addM (by omega) rfl (by simp [mbB, roleB, tickB]; omega) (fun e => absurd e.symm HKO.out)⟩; omega
            case measure => simp [intOf]; omega
          · have hk3' : decide (xk < 3) = false := decide_eq_false hk3
            by_cases hk4 : xk = 3
            · have hk4' : (xk == 3) = true := by simp [hk4]
              have l0 := bx.cell 0; have l1 := bx.cell 1; have l2 := bx.cell 2; have l3 := bx.cell 3; have m2 := hD.1.1.cell 2
              have hUs : w.heap.size < V155.heap.size := hD.2.2.1.lt
              have hDa := hD.alloc (.cells #[.int .i64 k, .int .i64 (1 + xb), .int .i64 xu] 36)
              have ma := hDa.1.1.cell 2
              go_wp2_with (first | (at_builtin; refine wpList_append_lies _ rfl (.tmp 71) (.tmp 76) 25 rfl (w.heap.size + 1) 36 iI _ 3 24 Tryz.underlying25 hiI hI0 hI1 hI2 rfl (by omega) v2 vs.length (vs.flatMap ivC) rfl hDa.1.2.2.1 ⟨V155.heap.size, 0, none⟩ 1 1 [.int .i64 k, .int .i64 (1 + xb), .int .i64 xu] rfl rfl (World.news_of_block (cs := #[.int .i64 k, .int .i64 (1 + xb), .int .i64 xu]) (t := 36) (fr := (0, 0)) (heap_alloc_new V155 _)) (by simp [Value.oneCell']) (by omega) (by unfold maxLen; omega) (by omega) (by simp; omega) (V155.heap.size + 1) (by simp) ?_; intro gg cap w9 hown1 hgrow hat hlt1; have hq9 := hDa.1.1.grown hgrow (blk_apart hDa.1.1 hDa.1.2.2.1 (by decide)); have c9 := hq9.cell 2; have f9 := hq9.frozen 2; have hZ := hDa.putI (vs' := vs ++ [(⟨(k : Int), 1 + xb, xu⟩ : Iv)]) hgrow (by rw [List.flatMap_append]; exact hown1)))
              go_roundw
              case rel => refine ⟨k + 1, _, _, _, _, _, _, _, _, by omega, by omega, by go_num, ?_, (by rw [List.length_append]; exact hZ), hV.addI (by omega) rfl (by simp [ivB, idB, tickB]; omega) (fun e => HKO.out e.symm)⟩; omega
              case measure => simp [intOf]; omega
            · have hk4' : (xk == 3) = false := by simp [hk4]
              go_wp2_with fail
              go_at_call 74; refine (one_any S A n c zs _ _ 2 _ hD.2.1 (by omega) (by decide) (by decide)).mono ?_; rintro e V157 ⟨q2, sd158, rfl, hg, hs⟩
              have hD := hD.src hg hs
              have bx := bx.grown hg (by intro e; cases e; omega)
              clear hg hs
              cases q2 with
              | true =>
                have l0 := bx.cell 0; have l1 := bx.cell 1; have l2 := bx.cell 2; have l3 := bx.cell 3; have m3 := hD.1.1.cell 3
                have hUs : w.heap.size < V157.heap.size := hD.2.2.1.lt
                have hDa := hD.alloc (.cells #[.int .i64 k, .int .i64 xu] 38)
                have ma := hDa.1.1.cell 3
                go_wp2_with (first | (at_builtin; refine wpList_append_lies _ rfl (.tmp 46) (.tmp 50) 26 rfl (w.heap.size + 1) 38 iB _ 2 16 Tryz.underlying26 hiB hB0 hB1 hB2 rfl (by omega) v3 bs.length (bs.flatMap bnC) rfl hDa.1.2.2.2 ⟨V157.heap.size, 0, none⟩ 1 1 [.int .i64 k, .int .i64 xu] rfl rfl (World.news_of_block (cs := #[.int .i64 k, .int .i64 xu]) (t := 38) (fr := (0, 0)) (heap_alloc_new V157 _)) (by simp [Value.oneCell']) (by omega) (by unfold maxLen; omega) (by omega) (by simp; omega) (V157.heap.size + 1) (by simp) ?_; intro gg cap w9 hown1 hgrow hat hlt1; have hq9 := hDa.1.1.grown hgrow (blk_apart hDa.1.1 hDa.1.2.2.2 (by decide)); have c9 := hq9.cell 3; have f9 := hq9.frozen 3; have hZ := hDa.putB (bs' := bs ++ [(⟨(k : Int), xu⟩ : Bn)]) hgrow (by rw [List.flatMap_append]; exact hown1)))
                go_roundw
                case rel => refine ⟨k + 1, _, _, _, _, _, _, _, _, by omega, by omega, by go_num, ?_, (by rw [List.length_append]; exact hZ), hV.addB (by omega) rfl (by simp [bnB, tickB]; omega) (fun e => HKO.out e.symm)⟩; omega
                case measure => simp [intOf]; omega
              | false =>
                go_wp2
                go_roundw
                case rel => refine ⟨k + 1, _, _, _, _, _, _, _, _, by omega, by omega, by go_num, ?_, hD, hV.skip (fun e => HKO.out e.symm)⟩; omega
                case measure => simp [intOf]; omega
      | false =>
        by_cases hko : (k : Int) = 1 + x0
        · have hkb : ((k : Int) == 1 + x0) = true := by simp [hko]
          have HKO := Lib.hid hko; clear hko
          have qb := bx.cell 1; have fb := bx.frozen 1
          have hD := hD.box (i := 1) (u := .int .i64 3) hBw hBQ g1 g2 g3
          have bx : Blk (V6.setCell ⟨Bx, 1, none⟩ (.int .i64 3)) Bx 66 #[.int .i64 k, .int .i64 3, .int .i64 xy, .int .i64 0] := bx.set_ 1 _
          go_wp2_with fail
          clear qb fb
          generalize V6.setCell ⟨Bx, 1, none⟩ (.int .i64 3) = U76 at *
          go_at_call 75; refine (pick_any S A n c zs _ _ 40 _ hD.2.1 (by omega) (by decide) (by decide)).mono ?_; rintro e V77 ⟨xu, sd78, rfl, hxu0, hxu1, hg, hs⟩
          have hD := hD.src hg hs
          have bx := bx.grown hg (by intro e; cases e; omega)
          clear hg hs
          go_wp2_with fail
          go_at_call 75; refine (pick_any S A n c zs _ _ 6 _ hD.2.1 (by omega) (by decide) (by decide)).mono ?_; rintro e V79 ⟨xb, sd80, rfl, hxb0, hxb1, hg, hs⟩
          have hD := hD.src hg hs
          have bx := bx.grown hg (by intro e; cases e; omega)
          clear hg hs
          go_wp2_with fail
          go_at_call 75; refine (pick_any S A n c zs _ _ 5 _ hD.2.1 (by omega) (by decide) (by decide)).mono ?_; rintro e V81 ⟨xk, sd82, rfl, hxk0, hxk1, hg, hs⟩
          have hD := hD.src hg hs
          have bx := bx.grown hg (by intro e; cases e; omega)
          clear hg hs
          have l0 := bx.cell 0; have l1 := bx.cell 1; have l2 := bx.cell 2; have l3 := bx.cell 3; have m1 := hD.1.1.cell 1
          have hUs : w.heap.size < V81.heap.size := hD.2.2.1.lt
          have hDa := hD.alloc (.cells #[.int .i64 k, .int .i64 3, .int .i64 xy, .int .i64 0] 66)
          have ma := hDa.1.1.cell 1
          go_wp2_with (first | (at_builtin; refine wpList_append_lies _ rfl (.tmp 62) (.tmp 64) 24 rfl (w.heap.size + 1) 66 iM _ 4 32 Tryz.underlying24 hiM hM0 hM1 hM2 rfl (by omega) v1 ms.length (ms.flatMap mbC) rfl hDa.1.2.1 ⟨V81.heap.size, 0, none⟩ 1 1 [.int .i64 k, .int .i64 3, .int .i64 xy, .int .i64 0] rfl rfl (World.news_of_block (cs := #[.int .i64 k, .int .i64 3, .int .i64 xy, .int .i64 0]) (t := 66) (fr := (0, 0)) (heap_alloc_new V81 _)) (by simp [Value.oneCell']) (by omega) (by unfold maxLen; omega) (by omega) (by simp; omega) (V81.heap.size + 1) (by simp) ?_; intro gg cap w9 hown1 hgrow hat hlt1; have hq9 := hDa.1.1.grown hgrow (blk_apart hDa.1.1 hDa.1.2.1 (by decide)); have c9 := hq9.cell 1; have f9 := hq9.frozen 1; have hZ := hDa.putM (ms' := ms ++ [(⟨(k : Int), 3, xy, 0⟩ : Mb)]) hgrow (by rw [List.flatMap_append]; exact hown1)))
          go_roundw
          case rel => refine ⟨k + 1, _, _, _, _, _, _, _, _, by omega, by omega, by go_num, ?_, (by rw [List.length_append]; exact hZ), hV.addM (by omega) rfl (by simp [mbB, roleB, tickB]; omega) (fun _ => rfl)⟩; omega
          case measure => simp [intOf]; omega
        · have hkb : ((k : Int) == 1 + x0) = false := by simp; omega
          have HKO := Lib.hid hko; clear hko
          go_wp2_with fail
          go_at_call 75; refine (pick_any S A n c zs _ _ 40 _ hD.2.1 (by omega) (by decide) (by decide)).mono ?_; rintro e V51 ⟨xu, sd52, rfl, hxu0, hxu1, hg, hs⟩
          have hD := hD.src hg hs
          have bx := bx.grown hg (by intro e; cases e; omega)
          clear hg hs
          go_wp2_with fail
          go_at_call 75; refine (pick_any S A n c zs _ _ 6 _ hD.2.1 (by omega) (by decide) (by decide)).mono ?_; rintro e V53 ⟨xb, sd54, rfl, hxb0, hxb1, hg, hs⟩
          have hD := hD.src hg hs
          have bx := bx.grown hg (by intro e; cases e; omega)
          clear hg hs
          go_wp2_with fail
          go_at_call 75; refine (pick_any S A n c zs _ _ 5 _ hD.2.1 (by omega) (by decide) (by decide)).mono ?_; rintro e V55 ⟨xk, sd56, rfl, hxk0, hxk1, hg, hs⟩
          have hD := hD.src hg hs
          have bx := bx.grown hg (by intro e; cases e; omega)
          clear hg hs
          by_cases hk3 : xk < 3
          · have hk3' : decide (xk < 3) = true := decide_eq_true hk3
            have l0 := bx.cell 0; have l1 := bx.cell 1; have l2 := bx.cell 2; have l3 := bx.cell 3; have m1 := hD.1.1.cell 1
            have hUs : w.heap.size < V55.heap.size := hD.2.2.1.lt
            have hDa := hD.alloc (.cells #[.int .i64 k, .int .i64 xr, .int .i64 xy, .int .i64 0] 66)
            have ma := hDa.1.1.cell 1
            go_wp2_with (first | (at_builtin; refine wpList_append_lies _ rfl (.tmp 62) (.tmp 64) 24 rfl (w.heap.size + 1) 66 iM _ 4 32 Tryz.underlying24 hiM hM0 hM1 hM2 rfl (by omega) v1 ms.length (ms.flatMap mbC) rfl hDa.1.2.1 ⟨V55.heap.size, 0, none⟩ 1 1 [.int .i64 k, .int .i64 xr, .int .i64 xy, .int .i64 0] rfl rfl (World.news_of_block (cs := #[.int .i64 k, .int .i64 xr, .int .i64 xy, .int .i64 0]) (t := 66) (fr := (0, 0)) (heap_alloc_new V55 _)) (by simp [Value.oneCell']) (by omega) (by unfold maxLen; omega) (by omega) (by simp; omega) (V55.heap.size + 1) (by simp) ?_; intro gg cap w9 hown1 hgrow hat hlt1; have hq9 := hDa.1.1.grown hgrow (blk_apart hDa.1.1 hDa.1.2.1 (by decide)); have c9 := hq9.cell 1; have f9 := hq9.frozen 1; have hZ := hDa.putM (ms' := ms ++ [(⟨(k : Int), xr, xy, 0⟩ : Mb)]) hgrow (by rw [List.flatMap_append]; exact hown1)))
            go_roundw
            case rel => refine ⟨k + 1, _, _, _, _, _, _, _, _, by omega, by omega, by go_num, ?_, (by rw [List.length_append]; exact hZ), hV.addM (by omega) rfl (by simp [mbB, roleB, tickB]; omega) (fun e => absurd e.symm HKO.out)⟩; omega
            case measure => simp [intOf]; omega
          · have hk3' : decide (xk < 3) = false := decide_eq_false hk3
            by_cases hk4 : xk = 3
            · have hk4' : (xk == 3) = true := by simp [hk4]
              have l0 := bx.cell 0; have l1 := bx.cell 1; have l2 := bx.cell 2; have l3 := bx.cell 3; have m2 := hD.1.1.cell 2
              have hUs : w.heap.size < V55.heap.size := hD.2.2.1.lt
              have hDa := hD.alloc (.cells #[.int .i64 k, .int .i64 (1 + xb), .int .i64 xu] 36)
              have ma := hDa.1.1.cell 2
              go_wp2_with (first | (at_builtin; refine wpList_append_lies _ rfl (.tmp 71) (.tmp 76) 25 rfl (w.heap.size + 1) 36 iI _ 3 24 Tryz.underlying25 hiI hI0 hI1 hI2 rfl (by omega) v2 vs.length (vs.flatMap ivC) rfl hDa.1.2.2.1 ⟨V55.heap.size, 0, none⟩ 1 1 [.int .i64 k, .int .i64 (1 + xb), .int .i64 xu] rfl rfl (World.news_of_block (cs := #[.int .i64 k, .int .i64 (1 + xb), .int .i64 xu]) (t := 36) (fr := (0, 0)) (heap_alloc_new V55 _)) (by simp [Value.oneCell']) (by omega) (by unfold maxLen; omega) (by omega) (by simp; omega) (V55.heap.size + 1) (by simp) ?_; intro gg cap w9 hown1 hgrow hat hlt1; have hq9 := hDa.1.1.grown hgrow (blk_apart hDa.1.1 hDa.1.2.2.1 (by decide)); have c9 := hq9.cell 2; have f9 := hq9.frozen 2; have hZ := hDa.putI (vs' := vs ++ [(⟨(k : Int), 1 + xb, xu⟩ : Iv)]) hgrow (by rw [List.flatMap_append]; exact hown1)))
              go_roundw
              case rel => refine ⟨k + 1, _, _, _, _, _, _, _, _, by omega, by omega, by go_num, ?_, (by rw [List.length_append]; exact hZ), hV.addI (by omega) rfl (by simp [ivB, idB, tickB]; omega) (fun e => HKO.out e.symm)⟩; omega
              case measure => simp [intOf]; omega
            · have hk4' : (xk == 3) = false := by simp [hk4]
              go_wp2_with fail
              go_at_call 74; refine (one_any S A n c zs _ _ 2 _ hD.2.1 (by omega) (by decide) (by decide)).mono ?_; rintro e V57 ⟨q2, sd58, rfl, hg, hs⟩
              have hD := hD.src hg hs
              have bx := bx.grown hg (by intro e; cases e; omega)
              clear hg hs
              cases q2 with
              | true =>
                have l0 := bx.cell 0; have l1 := bx.cell 1; have l2 := bx.cell 2; have l3 := bx.cell 3; have m3 := hD.1.1.cell 3
                have hUs : w.heap.size < V57.heap.size := hD.2.2.1.lt
                have hDa := hD.alloc (.cells #[.int .i64 k, .int .i64 xu] 38)
                have ma := hDa.1.1.cell 3
                go_wp2_with (first | (at_builtin; refine wpList_append_lies _ rfl (.tmp 46) (.tmp 50) 26 rfl (w.heap.size + 1) 38 iB _ 2 16 Tryz.underlying26 hiB hB0 hB1 hB2 rfl (by omega) v3 bs.length (bs.flatMap bnC) rfl hDa.1.2.2.2 ⟨V57.heap.size, 0, none⟩ 1 1 [.int .i64 k, .int .i64 xu] rfl rfl (World.news_of_block (cs := #[.int .i64 k, .int .i64 xu]) (t := 38) (fr := (0, 0)) (heap_alloc_new V57 _)) (by simp [Value.oneCell']) (by omega) (by unfold maxLen; omega) (by omega) (by simp; omega) (V57.heap.size + 1) (by simp) ?_; intro gg cap w9 hown1 hgrow hat hlt1; have hq9 := hDa.1.1.grown hgrow (blk_apart hDa.1.1 hDa.1.2.2.2 (by decide)); have c9 := hq9.cell 3; have f9 := hq9.frozen 3; have hZ := hDa.putB (bs' := bs ++ [(⟨(k : Int), xu⟩ : Bn)]) hgrow (by rw [List.flatMap_append]; exact hown1)))
                go_roundw
                case rel => refine ⟨k + 1, _, _, _, _, _, _, _, _, by omega, by omega, by go_num, ?_, (by rw [List.length_append]; exact hZ), hV.addB (by omega) rfl (by simp [bnB, tickB]; omega) (fun e => HKO.out e.symm)⟩; omega
                case measure => simp [intOf]; omega
              | false =>
                go_wp2
                go_roundw
                case rel => refine ⟨k + 1, _, _, _, _, _, _, _, _, by omega, by omega, by go_num, ?_, hD, hV.skip (fun e => HKO.out e.symm)⟩; omega
                case measure => simp [intOf]; omega
    · have hke : k = 7 := by omega
      subst hke
      have hk6' : decide (((7 : Nat) : Int) ≤ 6) = false := by decide
      obtain ⟨A1, c1, rfl⟩ := own_formD hD.1.2.1
      obtain ⟨A2, c2, rfl⟩ := own_formD hD.1.2.2.1
      obtain ⟨A3, c3, rfl⟩ := own_formD hD.1.2.2.2
      have l0 := hD.1.1.cell 0; have l1 := hD.1.1.cell 1; have l2 := hD.1.1.cell 2; have l3 := hD.1.1.cell 3
      have kR := hD.2.2.1
      have r0 := kR.cell 0; have r1 := kR.cell 1; have r2 := kR.cell 2; have r3 := kR.cell 3
      have f0 := kR.frozen 0; have f1 := kR.frozen 1; have f2 := kR.frozen 2; have f3 := kR.frozen 3
      have gw : ∀ j, some w.heap.size = some j → w.heap.size ≤ j ∨ some S = some j := fun j hj => by cases hj; exact .inl (by omega)
      go_wp2
      refine bodyPost_ret (v := .agg #[.bool o, .slice A1 ms.length c1, .slice A2 vs.length c2, .slice A3 bs.length c3]) (by simp [results, Tryz.results26, go_sem, r0, r1, r2, r3]) rfl ?_
      refine ⟨_, _, _, _, _, _, _, _, _, _, ms, vs, bs, rfl, far4D (hD.1.room (base := w.heap.size) (by omega) (by omega) (by omega)) kR _ _ _ _ _ _ _ _, hV.room (by omega), ?_⟩
      exact (((hD.2.2.2.1.andThen (grown_set _ w.heap.size 0 _) gw).andThen (grown_set _ w.heap.size 1 _) gw).andThen (grown_set _ w.heap.size 2 _) gw).andThen (grown_set _ w.heap.size 3 _) gw
abbrev u8v : Nat → Value := fun z => .int .u8 (z : Int)
theorem l00From_any (A : Option Addr) (n c : Nat) (zs : List Nat) (B : Nat) (w : World) (h : Row u8v w B A n zs) (hB : B ≤ w.heap.size) (hz : ∀ z ∈ zs, z < 256) :
    Calls Tryz.prog 25 #[.slice A n c] w fun e w' => e = .returned (.pointer (some ⟨w.heap.size, 0, none⟩)) ∧ w' = w.alloc (.cells #[.slice A n c, .int .i64 0, .int .u64 0] 106) ∧ SrcAt w' w.heap.size A n c zs ((0 : Nat) : Int) 0 := by
  go_enter Tryz.func25, Tryz.ntmps25
  go_wp2
  go_ret
  refine ⟨rfl, rfl, Blk.new _ _ _, h.1, hz, fun j z hj => ?_⟩
  obtain ⟨b, off, hA, hb, hc⟩ := h.2 (by have := (List.getElem?_eq_some_iff.1 hj).1; have := h.1; omega)
  refine ⟨b, off, hA, by omega, ?_⟩
  have hb1 := (Below.refl w.heap.size w).alloc (Nat.le_refl _) (.cells #[.slice A n c, .int .i64 0, .int .u64 0] 106)
  exact (hb1.cell (World.block_lt_of_cell? w _ (hc j z hj))).trans (hc j z hj)
/-- R8Room: a valid room of one's own -/
def RoomDrawn (w : World) (e : Ending) (w' : World) : Prop := ∃ o A1 n1 c1 A2 n2 c2 A3 n3 c3 ms vs bs, e = .returned (.agg #[.bool o, .slice A1 n1 c1, .slice A2 n2 c2, .slice A3 n3 c3]) ∧ RoomOwn w' w.heap.size A1 n1 c1 A2 n2 c2 A3 n3 c3 ms vs bs ∧ (RoomV ms vs bs ∧ FewL ms vs bs) ∧ Below w.heap.size w w'
theorem R8Room_any (A : Option Addr) (n c : Nat) (zs : List Nat) (B : Nat) (w : World) (h : Row u8v w B A n zs) (hB : B ≤ w.heap.size) (hz : ∀ z ∈ zs, z < 256) :
    Calls Tryz.prog 7 #[.slice A n c] w (RoomDrawn w) := by
  go_enter Tryz.func7, Tryz.ntmps7
  go_wp2_with fail
  obtain ⟨k0, hb0⟩ := one_box w 28 #[.bool false, .slice none 0 0, .slice none 0 0, .slice none 0 0]
  have hz0 : (w.alloc (.cells #[.bool false, .slice none 0 0, .slice none 0 0, .slice none 0 0] 28)).heap.size = w.heap.size + 1 := by simp
  have hA : 0 < n → ∀ b, A = some b → b.block < w.heap.size := fun hn b hb => by
    obtain ⟨b', off, e, hlt, _⟩ := h.2 hn
    rw [e] at hb; cases hb; exact Nat.lt_of_lt_of_le hlt hB
  have h : Row u8v (w.alloc (.cells #[.bool false, .slice none 0 0, .slice none 0 0, .slice none 0 0] 28)) B A n zs := ⟨h.1, fun hn => by
    obtain ⟨b, off, e, hlt, hc⟩ := h.2 hn
    exact ⟨b, off, e, hlt, fun j z hj => (hb0.cell (World.block_lt_of_cell? w _ (hc j z hj))).trans (hc j z hj)⟩⟩
  generalize w.alloc (.cells #[.bool false, .slice none 0 0, .slice none 0 0, .slice none 0 0] 28) = W at *
  go_at_call 25; refine (l00From_any A n c zs B _ h (by omega) hz).mono ?_; rintro e W2 ⟨rfl, hW2, hs⟩
  have k0 : Blk W2 w.heap.size 28 #[.bool false, .slice none 0 0, .slice none 0 0, .slice none 0 0] := by rw [hW2]; exact k0.alloc _
  have hb0 : Below w.heap.size w W2 := by rw [hW2]; exact hb0.alloc (by omega) _
  have hz2 : W2.heap.size = w.heap.size + 2 := by rw [hW2]; simp; omega
  have HZ := Lib.hid hz2; have HZ0 := Lib.hid hz0
  clear hW2 h hz2 hz0
  go_wp2_with fail
  go_at_call 26; refine (draw_any W.heap.size A n c zs 0 W2 hs (fun b hn hb => by have := hA hn b hb; have := HZ.out; omega)).mono ?_; rintro e W3 ⟨o, A1, n1, c1, A2, n2, c2, A3, n3, c3, ms, vs, bs, rfl, ho, hV, hg⟩
  have k0 := k0.grown hg (by have := HZ0.out; intro e; injection e with e; omega)
  have hb3 : Below w.heap.size w W3 := hb0.grown hg (by have := HZ.out; omega) (by have := HZ0.out; intro j hj; injection hj with hj; omega)
  have r0 := k0.cell 0; have r1 := k0.cell 1; have r2 := k0.cell 2; have r3 := k0.cell 3
  have f0 := k0.frozen 0; have f1 := k0.frozen 1; have f2 := k0.frozen 2; have f3 := k0.frozen 3
  go_wp2
  refine bodyPost_ret (v := .agg #[.bool o, .slice A1 n1 c1, .slice A2 n2 c2, .slice A3 n3 c3]) (by simp [results, Tryz.results7, go_sem, r0, r1, r2, r3]) rfl ?_
  have ho : RoomOwn W3 w.heap.size A1 n1 c1 A2 n2 c2 A3 n3 c3 ms vs bs := ⟨World.ownsRow.mono ho.1 (by have := HZ.out; omega), World.ownsRow.mono ho.2.1 (by have := HZ.out; omega), World.ownsRow.mono ho.2.2 (by have := HZ.out; omega)⟩
  exact ⟨_, _, _, _, _, _, _, _, _, _, ms, vs, bs, rfl, far4D ho k0 _ _ _ _ _ _ _ _, hV, (((hb3.setCell (by simp) _).setCell (by simp) _).setCell (by simp) _).setCell (by simp) _⟩

theorem u8row {w : World} {a : Option Addr} {len cap : Nat} {zs : List Int} (h : IsRow .u8 w a len cap zs) : ∃ ys : List Nat, Row u8v w w.heap.size a len ys ∧ ∀ z ∈ ys, z < 256 := by
  rcases h with ⟨rfl, rfl, rfl, rfl⟩ | ⟨⟨b, off, spot⟩, rfl, hl, hm, hz, hcell, hwf⟩
  · exact ⟨[], Row.none_, by simp⟩
  · refine ⟨(zs.take len).map Int.toNat, ⟨by simp; omega, fun hn => ?_⟩, ?_⟩
    · have hc0 := hcell 0 (by omega)
      have hspot : spot = none := by simpa [Addr.add] using World.cell?_spot hc0
      subst hspot
      refine ⟨b, off, rfl, ?_, fun j z hj => ?_⟩
      · have := World.block_lt_of_cell? w _ hc0
        simpa [Addr.add] using this
      · have hjl : j < len := by
          have := (List.getElem?_eq_some_iff.1 hj).1
          simp at this; omega
        have hc := hcell j (by omega)
        have hjz : j < zs.length := by omega
        rw [List.getElem?_map, List.getElem?_take_of_lt hjl, List.getElem?_eq_getElem hjz] at hj
        simp at hj
        have hw := hwf zs[j] (List.getElem_mem hjz)
        simp [Lit.wf, IntKind.min, IntKind.max, IntKind.bits, IntKind.signed] at hw
        have e : (⟨b, off, none⟩ : Addr).add j = ⟨b, off + j, none⟩ := by unfold Addr.add; split <;> simp_all
        rw [e] at hc
        rw [hc]
        simp [u8v, List.getD_eq_getElem?_getD, List.getElem?_eq_getElem hjz]
        omega
    · intro z hz
      obtain ⟨y, hy, rfl⟩ := List.mem_map.1 hz
      have hw := hwf y (List.mem_of_mem_take hy)
      simp [Lit.wf, IntKind.min, IntKind.max, IntKind.bits, IntKind.signed] at hw
      omega
theorem r8Long_yes (A A' : Option Addr) (n c n' c' : Nat) (w : World) (h : ¬ (n ≤ 48 ∧ n' ≤ 48)) :
    Calls Tryz.prog 6 #[.slice A n c, .slice A' n' c'] w fun e w' => e = .returned (.bool true) ∧ w = w' := by
  by_cases h1 : n ≤ 48
  · have x1 : decide ((48 : Int) < (n : Int)) = false := decide_eq_false (by omega)
    have x2 : decide ((48 : Int) < (n' : Int)) = true := decide_eq_true (by omega)
    clear h h1
    go_enter Tryz.func6, Tryz.ntmps6
    go_wp2
    go_ret
    exact ⟨rfl, rfl⟩
  · have x1 : decide ((48 : Int) < (n : Int)) = true := decide_eq_true (by omega)
    clear h h1
    go_enter Tryz.func6, Tryz.ntmps6
    go_wp2
    go_ret
    exact ⟨rfl, rfl⟩
theorem r8Long_no (A A' : Option Addr) (n c n' c' : Nat) (w : World) (h : n ≤ 48) (h' : n' ≤ 48) :
    Calls Tryz.prog 6 #[.slice A n c, .slice A' n' c'] w fun e w' => e = .returned (.bool false) ∧ w = w' := by
  have x1 : decide ((48 : Int) < (n : Int)) = false := decide_eq_false (by omega)
  have x2 : decide ((48 : Int) < (n' : Int)) = false := decide_eq_false (by omega)
  clear h h'
  go_enter Tryz.func6, Tryz.ntmps6
  go_wp2
  go_ret
  exact ⟨rfl, rfl⟩
theorem r8At_any (A : Option Addr) (n c B : Nat) (zs : List Nat) (k m : Nat) (w : World) (h : Row u8v w B A n zs) (hz : ∀ z ∈ zs, z < 256) (hm : 1 < m) (hm' : m ≤ 1000) (hk : k < 1000) (hn : n ≤ 48) :
    Calls Tryz.prog 8 #[.slice A n c, .int .i64 (k : Int), .int .i64 (m : Int)] w fun e w' => ∃ x : Int, e = .returned (.int .i64 x) ∧ 0 ≤ x ∧ x < m ∧ w = w' := by
  have x1 : decide ((m : Int) ≤ 1) = false := decide_eq_false (by omega)
  by_cases hkn : k < n
  · obtain ⟨b, off, z, rfl, hb, hzk, hc⟩ := h.at_ hkn
    have hz256 := hz z (List.mem_of_getElem? hzk)
    have x2 : decide ((n : Int) ≤ (k : Int)) = false := decide_eq_false (by omega)
    clear h hz
    go_enter Tryz.func8, Tryz.ntmps8
    go_wp2
    go_ret
    exact ⟨_, rfl, Int.emod_nonneg _ (by omega), Int.emod_lt_of_pos _ (by omega), rfl⟩
  · have x2 : decide ((n : Int) ≤ (k : Int)) = true := decide_eq_true (by omega)
    go_enter Tryz.func8, Tryz.ntmps8
    go_wp2
    go_ret
    exact ⟨_, rfl, by omega, by omega, rfl⟩
/-- the quiet tick of the last member with a number -/
def quietL (t : Int) (xs : List Mb) : Int := xs.foldl (fun q x => if x.id = t then x.quiet else q) 0
theorem quietL_step {t : Int} {xs : List Mb} {k : Nat} {z : Mb} (h : xs[k]? = some z) : quietL t (xs.take (k + 1)) = if z.id = t then z.quiet else quietL t (xs.take k) := by
  unfold quietL
  rw [List.take_add_one, h]
  simp [List.foldl_append]
theorem quiet_fold {t : Int} {xs : List Mb} (h : Rise Mb.id xs) : ∀ q, xs.foldl (fun q x => if x.id = t then x.quiet else q) q = match findM xs t with | some m => m.quiet | none => q := by
  induction xs with
  | nil => intro q; rfl
  | cons x xs ih =>
    intro q
    rw [List.foldl_cons, ih (List.Pairwise.of_cons h)]
    by_cases hx : x.id = t
    · have hn : findM xs t = none := by
        refine findM_none.2 fun hm => ?_
        obtain ⟨y, hy, e⟩ := List.mem_map.1 hm
        have := List.rel_of_pairwise_cons h hy
        omega
      rw [hn]
      simp [findM, hx]
    · simp [findM, hx]
theorem quietL_eq {t : Int} {xs : List Mb} (h : Rise Mb.id xs) : quietL t xs = match findM xs t with | some m => m.quiet | none => 0 := quiet_fold h 0
theorem may_more {r a : Int} (h : mayB r a = true) (h0 : r + 1 ≤ 3) : mayB (r + 1) a = true := by
  simp [mayB] at h ⊢
  omega
theorem may_four (a : Int) : mayB 4 a = false := by simp [mayB]
theorem may_nine : mayB 3 9 = false := by decide
theorem mayB_eq' {r a : Int} (h : 0 ≤ r ∧ r ≤ 3) (h' : 0 ≤ a ∧ a ≤ 8) : mayB r a = decide (leastL a ≤ r) := by simp [mayB, h.1, h.2, h'.1, h'.2]
theorem may_owner {a : Int} (h0 : 0 ≤ a) (h1 : a < 9) : mayB 3 a = true := by
  rw [mayB_eq' ⟨by decide, by decide⟩ ⟨h0, by omega⟩]
  refine decide_eq_true ?_
  unfold leastL
  split
  · decide
  · split
    · decide
    · split
      · decide
      · decide
theorem allow_want {ms : List Mb} {t a at_ : Int} (h : Rise Mb.id ms) (ht : tickB at_ = true) :
    allowB ms t a at_ = (decide (t ∈ mids ms) && mayB (roleAt ms t) a && (decide (a = 0) || decide (quietL t ms ≤ at_))) := by
  rw [quietL_eq h]
  cases hf : findM ms t with
  | none =>
    have := findM_none.1 hf
    simp [allowB, hf, this]
  | some m =>
    have hm : t ∈ mids ms := by
      by_cases hm : t ∈ mids ms
      · exact hm
      · rw [findM_none.2 hm] at hf; cases hf
    simp [allowB, hf, hm, ht, roleAt, Bool.or_comm]
end Go.Proofs.YtmnmmjobplbflaaGreatDoor
