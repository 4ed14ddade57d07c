import Derived.Test.YtmdoddikaaaamabChecked
import Derived.WalkKit
import Derived.ProofKit
import Derived.OpenShut
import Derived.ShutString
import Derived.ChangeOld
import Derived.Below
import Derived.Lib.Hide
import Derived.Test.YtmdoddikaaaamabZDrawR
import Derived.Test.YtmdoddikaaaamabZBktP
import Derived.Test.YtmdoddikaaaamabZBktN
namespace Go.Proofs.Ytmdoddikaaaamab
open Go.ChangeShapes Go.WideShapes Go.ChangeAt Go.RowKit
open Go.ChangeMaps (open_string shut_string)
set_option linter.unusedVariables false
set_option maxRecDepth 100000
/-- a drawn bucket -/
structure BkDrawn (b : Bk) : Prop where
  s1 : 1 ≤ b.sz
  s2 : b.sz ≤ 5
  e1 : 1 ≤ b.ev
  e2 : b.ev ≤ 12
  l1 : 0 ≤ b.lf
  l2 : b.lf ≤ b.sz
  t1 : 0 ≤ b.tm
  t2 : b.tm < 20
theorem gfar {w W : World} {r : Option Nat} {g : Nat} (h : w.grownBy W r) (hg : w.heap.size ≤ g) (i : Nat) (v : Value) : w.grownBy (W.setCell ⟨g, i, none⟩ v) r :=
  h.andThen (grown_set W g i v) (fun j hj => by cases hj; exact .inl hg)
theorem galloc {w W : World} {r : Option Nat} (h : w.grownBy W r) (o : Obj) : w.grownBy (W.alloc o) r := h.andThen (World.grownBy_alloc W o none) (fun j hj => by cases hj)
set_option maxHeartbeats 3200000 in
theorem drawK_any (S : Nat) (A : Option Addr) (n c : Nat) (zs : List Nat) (sd : Int) (w : World) (h : SrcAt w S A n c zs ((0 : Nat) : Int) sd) (hA : ∀ b, 0 < n → A = some b → b.block < w.heap.size) :
    Calls Try.prog 112 #[.pointer (some ⟨S, 0, none⟩)] w fun e w' => ∃ b : Bk, e = .returned (.agg #[.int .i64 b.sz, .int .i64 b.ev, .int .i64 b.lf, .int .i64 b.tm]) ∧ BkDrawn b ∧ w.grownBy w' (some S) := by
  have hSw := h.1.lt
  have hs0 := h.grown (World.grownBy_alloc w (.cells #[.int .i64 0, .int .i64 0, .int .i64 0, .int .i64 0] 66) none) (fun b hp hb => by simp) (by simp)
  have kR := Blk.new w 66 #[.int .i64 0, .int .i64 0, .int .i64 0, .int .i64 0]
  have hgS := galloc (World.grownBy.refl w (some S)) (.cells #[.int .i64 0, .int .i64 0, .int .i64 0, .int .i64 0] 66)
  clear h
  go_enter Try.func112, Try.ntmps112
  go_wp2_with fail
  generalize w.alloc (.cells #[.int .i64 0, .int .i64 0, .int .i64 0, .int .i64 0] 66) = V0 at *
  go_at_call 114; refine (pick_any S A n c zs 0 sd 5 _ hs0 (by decide) (by decide) (by decide)).mono ?_; rintro e V1 ⟨x, sd1, rfl, hx0, hx1, hg, hs⟩
  have kR := kR.grown hg (by intro e; cases e; omega)
  have hgS := hgS.trans hg
  have hs1 : SrcAt V1 S A n c zs ((1 : Nat) : Int) sd1 := hs
  clear hs0 hg hs
  have f1 : IntKind.i64.wrap (1 + x) = 1 + x := IntWalk.i64_in _ (by omega)
  have hQ : w.heap.size < V1.heap.size := kR.lt
  have hAs : ∀ b, 0 < n → A = some b → some b.block ≠ some V1.heap.size := fun b hn hb e => by have := hA b hn hb; injection e with e; omega
  go_wp2_with fail
  have kB := Blk.new V1 66 #[.int .i64 (1 + x), .int .i64 0, .int .i64 0, .int .i64 0]
  have hs1 := hs1.grown (World.grownBy_alloc V1 (.cells #[.int .i64 (1 + x), .int .i64 0, .int .i64 0, .int .i64 0] 66) none) (fun b hp hb => by simp) (by simp)
  have kR := kR.alloc (.cells #[.int .i64 (1 + x), .int .i64 0, .int .i64 0, .int .i64 0] 66)
  have hgS := galloc hgS (.cells #[.int .i64 (1 + x), .int .i64 0, .int .i64 0, .int .i64 0] 66)
  generalize V1.alloc (.cells #[.int .i64 (1 + x), .int .i64 0, .int .i64 0, .int .i64 0] 66) = V2 at *
  generalize V1.heap.size = Q at *
  go_at_call 114; refine (pick_any S A n c zs 1 sd1 12 _ hs1 (by decide) (by decide) (by decide)).mono ?_; rintro e V3 ⟨y, sd2, rfl, hy0, hy1, hg, hs⟩
  have hne : some Q ≠ some S := by intro e; cases e; omega
  have hneR : some w.heap.size ≠ some S := by intro e; cases e; omega
  have kR := kR.grown hg hneR
  have kB := kB.grown hg hne
  have hgS := hgS.trans hg
  have hs2 : SrcAt V3 S A n c zs ((2 : Nat) : Int) sd2 := hs
  clear hs1 hg hs
  have f2 : IntKind.i64.wrap (1 + y) = 1 + y := IntWalk.i64_in _ (by omega)
  have q0 := kB.cell 0; have q1 := kB.cell 1; have q1f := kB.frozen 1; have ql := kB.lt
  have f3 : IntKind.i64.wrap (1 + x + 1) = 1 + x + 1 := IntWalk.i64_in _ (by omega)
  go_wp2_with fail
  clear q0 q1 q1f ql
  have hs2 := hs2.grown (grown_set V3 Q 1 (.int .i64 (1 + y))) hAs (fun e => hne e.symm)
  have kR := kR.far (p := ⟨Q, 1, none⟩) (by simp; omega) (.int .i64 (1 + y))
  have hgS := gfar hgS (by omega) 1 (.int .i64 (1 + y)) (g := Q)
  have kB := kB.set_ 1 (.int .i64 (1 + y))
  simp only [List.setIfInBounds_toArray, List.set_cons_succ, List.set_cons_zero] at kB
  generalize V3.setCell ⟨Q, 1, none⟩ (.int .i64 (1 + y)) = V4 at *
  go_at_call 114; refine (pick_any S A n c zs 2 sd2 (1 + x + 1) _ hs2 (by decide) (by omega) (by omega)).mono ?_; rintro e V5 ⟨l, sd3, rfl, hl0, hl1, hg, hs⟩
  have kR := kR.grown hg hneR
  have kB := kB.grown hg hne
  have hgS := hgS.trans hg
  have hs3 : SrcAt V5 S A n c zs ((3 : Nat) : Int) sd3 := hs
  clear hs2 hg hs
  have q0 := kB.cell 0; have q1 := kB.cell 2; have q1f := kB.frozen 2; have ql := kB.lt
  go_wp2_with fail
  clear q0 q1 q1f ql
  have hs3 := hs3.grown (grown_set V5 Q 2 (.int .i64 l)) hAs (fun e => hne e.symm)
  have kR := kR.far (p := ⟨Q, 2, none⟩) (by simp; omega) (.int .i64 l)
  have hgS := gfar hgS (by omega) 2 (.int .i64 l) (g := Q)
  have kB := kB.set_ 2 (.int .i64 l)
  simp only [List.setIfInBounds_toArray, List.set_cons_succ, List.set_cons_zero] at kB
  generalize V5.setCell ⟨Q, 2, none⟩ (.int .i64 l) = V6 at *
  go_at_call 114; refine (pick_any S A n c zs 3 sd3 20 _ hs3 (by decide) (by omega) (by omega)).mono ?_; rintro e V7 ⟨u, sd4, rfl, hu0, hu1, hg, hs⟩
  have kR := kR.grown hg hneR
  have kB := kB.grown hg hne
  have hgS := hgS.trans hg
  clear hs3 hg hs
  have q0 := kB.cell 0; have q1 := kB.cell 1; have q2 := kB.cell 2; have q3 := kB.cell 3; have q3f := kB.frozen 3; have ql := kB.lt
  have r0 := kR.cell 0; have r1 := kR.cell 1; have r2 := kR.cell 2; have r3 := kR.cell 3
  have g0 := kR.frozen 0; have g1 := kR.frozen 1; have g2 := kR.frozen 2; have g3 := kR.frozen 3; have rl := kR.lt
  have hQw : Q ≠ w.heap.size := by omega
  go_wp2
  refine bodyPost_ret (v := .agg #[.int .i64 (1 + x), .int .i64 (1 + y), .int .i64 l, .int .i64 u]) (by simp [results, Try.results112, go_sem, r0, r1, r2, r3]) rfl ?_
  exact ⟨⟨1 + x, 1 + y, l, u⟩, rfl, ⟨show 1 ≤ 1 + x by omega, show 1 + x ≤ 5 by omega, show 1 ≤ 1 + y by omega, show 1 + y ≤ 12 by omega, hl0, show l ≤ 1 + x by omega, hu0, hu1⟩, gfar (gfar (gfar (gfar (gfar hgS (by omega) 3 _) (Nat.le_refl _) 0 _) (Nat.le_refl _) 1 _) (Nat.le_refl _) 2 _) (Nat.le_refl _) 3 _⟩
theorem BkDrawn.ok {b : Bk} (h : BkDrawn b) : BkOk b := ⟨h.s1, by have := h.s2; omega, h.e1, by have := h.e2; omega, h.l1, h.l2, h.t1, by have := h.t2; omega⟩
theorem R8Bucket_any (A : Option Addr) (n c : Nat) (zs : List Nat) (B : Nat) (w : World) (h : Row u8v w B A n zs) (hB : B ≤ w.heap.size) (hz : ∀ z ∈ zs, z < 256) :
    Calls Try.prog 46 #[.slice A n c] w fun e w' => ∃ b : Bk, e = .returned (.agg #[.int .i64 b.sz, .int .i64 b.ev, .int .i64 b.lf, .int .i64 b.tm]) ∧ BkDrawn b ∧ Below w.heap.size w w' := by
  go_enter Try.func46, Try.ntmps46
  go_wp2_with fail
  obtain ⟨k0, hb0⟩ := one_box w 66 #[.int .i64 0, .int .i64 0, .int .i64 0, .int .i64 0]
  have hz0 : (w.alloc (.cells #[.int .i64 0, .int .i64 0, .int .i64 0, .int .i64 0] 66)).heap.size = w.heap.size + 1 := by simp
  have hA : ∀ b, 0 < n → A = some b → b.block < w.heap.size := fun b hn hb => by
    obtain ⟨b', off, e, hlt, _⟩ := h.2 hn
    rw [e] at hb; cases hb; exact Nat.lt_of_lt_of_le hlt hB
  have h : Row u8v (w.alloc (.cells #[.int .i64 0, .int .i64 0, .int .i64 0, .int .i64 0] 66)) B A n zs := ⟨h.1, fun hn => by
    obtain ⟨b, off, e, hlt, hc⟩ := h.2 hn
    exact ⟨b, off, e, hlt, fun j z hj => (hb0.cell (World.block_lt_of_cell? w _ (hc j z hj))).trans (hc j z hj)⟩⟩
  generalize w.alloc (.cells #[.int .i64 0, .int .i64 0, .int .i64 0, .int .i64 0] 66) = W at *
  go_at_call 111; refine (l00From_any A n c zs B _ h (by omega) hz).mono ?_; rintro e W2 ⟨rfl, hW2, hs⟩
  have k0 : Blk W2 w.heap.size 66 #[.int .i64 0, .int .i64 0, .int .i64 0, .int .i64 0] := by rw [hW2]; exact k0.alloc _
  have hb0 : Below w.heap.size w W2 := by rw [hW2]; exact hb0.alloc (by omega) _
  have hz2 : W2.heap.size = w.heap.size + 2 := by rw [hW2]; simp; omega
  have HZ := Lib.hid hz2; have HZ0 := Lib.hid hz0
  clear hW2 h hz2 hz0
  go_wp2_with fail
  go_at_call 112; refine (drawK_any W.heap.size A n c zs 0 W2 hs (fun b hn hb => by have := hA b hn hb; have := HZ.out; omega)).mono ?_; rintro e W3 ⟨b, rfl, hV, hg⟩
  have k0 := k0.grown hg (by have := HZ0.out; intro e; injection e with e; omega)
  have hb3 : Below w.heap.size w W3 := hb0.grown hg (by have := HZ.out; omega) (by have := HZ0.out; intro j hj; injection hj with hj; omega)
  have r0 := k0.cell 0; have r1 := k0.cell 1; have r2 := k0.cell 2; have r3 := k0.cell 3
  have f0 := k0.frozen 0; have f1 := k0.frozen 1; have f2 := k0.frozen 2; have f3 := k0.frozen 3
  go_wp2
  refine bodyPost_ret (v := .agg #[.int .i64 b.sz, .int .i64 b.ev, .int .i64 b.lf, .int .i64 b.tm]) (by simp [results, Try.results46, go_sem, r0, r1, r2, r3]) rfl ?_
  exact ⟨b, rfl, hV, (((hb3.setCell (by simp) _).setCell (by simp) _).setCell (by simp) _).setCell (by simp) _⟩
theorem r8At_one (A : Option Addr) (n c : Nat) (k m : Int) (w : World) (hm : m ≤ 1) :
    Calls Try.prog 47 #[.slice A n c, .int .i64 k, .int .i64 m] w fun e w' => e = .returned (.int .i64 0) ∧ w = w' := by
  have x1 : decide (m ≤ 1) = true := decide_eq_true hm
  clear hm
  go_enter Try.func47, Try.ntmps47
  go_wp2
  go_ret
  exact ⟨rfl, rfl⟩
/-- a number below m, at least 0 -/
theorem r8At_pos (A : Option Addr) (n c B : Nat) (zs : List Nat) (k : Nat) (m : Int) (w : World) (h : Row u8v w B A n zs) (hz : ∀ z ∈ zs, z < 256) (hm : 1 ≤ m) (hm' : m ≤ 1000) (hk : k < 1000) (hn : n ≤ 48) :
    Calls Try.prog 47 #[.slice A n c, .int .i64 (k : Int), .int .i64 m] w fun e w' => ∃ x : Int, e = .returned (.int .i64 x) ∧ 0 ≤ x ∧ x < m ∧ w = w' := by
  by_cases h1 : m ≤ 1
  · exact (r8At_one A n c k m w h1).mono fun e w' ⟨he, hw⟩ => ⟨0, he, by omega, by omega, hw⟩
  · obtain ⟨m', rfl⟩ : ∃ m' : Nat, m = (m' : Int) := ⟨m.toNat, by omega⟩
    exact r8At_any A n c B zs k m' w h hz (by omega) (by omega) hk hn
def r8v (zs : List Nat) (k : Nat) (m : Int) : Int := if m ≤ 1 then 0 else match zs[k]? with | some z => (z : Int) % m | none => 0
theorem r8v_bd (zs : List Nat) (k : Nat) (m : Int) (hm : 1 ≤ m) : 0 ≤ r8v zs k m ∧ r8v zs k m < m := by
  unfold r8v
  split
  · omega
  · split
    · exact ⟨Int.emod_nonneg _ (by omega), Int.emod_lt_of_pos _ (by omega)⟩
    · omega
theorem r8At_v (A : Option Addr) (n c B : Nat) (zs : List Nat) (k : Nat) (m : Int) (w : World) (h : Row u8v w B A n zs) (hz : ∀ z ∈ zs, z < 256) (hm' : m ≤ 1000) (hk : k < 1000) (hn : n ≤ 48) :
    Calls Try.prog 47 #[.slice A n c, .int .i64 (k : Int), .int .i64 m] w fun e w' => e = .returned (.int .i64 (r8v zs k m)) ∧ w = w' := by
  by_cases h1 : m ≤ 1
  · have e : r8v zs k m = 0 := by unfold r8v; rw [if_pos h1]
    rw [e]
    exact r8At_one A n c k m w h1
  · have x1 : decide ((m : Int) ≤ 1) = false := decide_eq_false (by omega)
    have x0 : (m == 0) = false := by simp; omega
    by_cases hkn : k < n
    · obtain ⟨b, off, z, rfl, hb, hzk, hc⟩ := h.at_ hkn
      have hz256 := hz z (List.mem_of_getElem? hzk)
      have E := Lib.hid (show r8v zs k m = (z : Int) % m by unfold r8v; rw [if_neg h1, hzk])
      have x2 : decide ((n : Int) ≤ (k : Int)) = false := decide_eq_false (by omega)
      clear h hz hzk
      go_enter Try.func47, Try.ntmps47
      go_wp2
      go_ret
      exact ⟨ret_int E.out.symm, rfl⟩
    · have E := Lib.hid (show r8v zs k m = 0 by unfold r8v; rw [if_neg h1, List.getElem?_eq_none (by rw [h.1]; omega)])
      have x2 : decide ((n : Int) ≤ (k : Int)) = true := decide_eq_true (by omega)
      go_enter Try.func47, Try.ntmps47
      go_wp2
      go_ret
      exact ⟨ret_int E.out.symm, rfl⟩
theorem r8At_w (A : Option Addr) (n c B : Nat) (zs : List Nat) (k : Nat) (m : Int) (x : Int) (w : World) (h : Row u8v w B A n zs) (hz : ∀ z ∈ zs, z < 256) (hm' : m ≤ 1000) (hk : k < 1000) (hn : n ≤ 48) (hx : r8v zs k m = x) :
    Calls Try.prog 47 #[.slice A n c, .int .i64 (k : Int), .int .i64 m] w fun e w' => e = .returned (.int .i64 x) ∧ w = w' := by
  subst hx
  exact r8At_v A n c B zs k m w h hz hm' hk hn
end Go.Proofs.Ytmdoddikaaaamab
