import Derived.Test.YtgomffcdoglbfaaChecked
import Derived.WalkKit
import Derived.ProofKit
import Derived.OpenShut
import Derived.ShutString
import Derived.ChangeOld
import Derived.Below
import Derived.Lib.Hide
import Derived.Deep.RegionHeld3
import Derived.Maps.OwnSet
import Derived.Maps.OwnOps
import Derived.Test.YtgomffcdoglbfaaZGathC
import Derived.Test.YtgomffcdoglbfaaJw
import Derived.Test.YtgomffcdoglbfaaZPresV
namespace Go.Proofs.Ytgomffcdoglbfaa
open Go.ChangeShapes Go.WideShapes Go.ChangeAt Go.RowKit
open Go.ChangeMaps (open_string shut_string)
set_option linter.unusedVariables false
open Go.Maps
set_option maxRecDepth 100000
theorem heap_new' (w : World) (o : Obj) (k : Nat) (h : k = w.heap.size) : (w.alloc o).heap[k]? = some o := by subst h; exact heap_alloc_new w o
theorem heap_old (w : World) (o : Obj) (k : Nat) (u : Obj) (h : w.heap[k]? = some u) : (w.alloc o).heap[k]? = some u := by
  have hk : k < w.heap.size := (Array.getElem?_eq_some_iff.1 h).1
  exact (Below.heap_alloc w o k hk).trans h
/-- what is known of a presence that is valid -/
structure PresOk (hs ts ks : List Bn) : Prop where
  l1 : hs.length ≤ 30
  l2 : ts.length ≤ 30
  l3 : ks.length ≤ 30
  r1 : Rise Bn.id hs
  r2 : Rise Bn.id ts
  r3 : Rise Bn.id ks
  f1 : WfB hs
  f2 : WfB ts
  f3 : WfB ks
theorem presOk {hs ts ks : List Bn} (h : presB hs ts ks = true) : PresOk hs ts ks := by
  obtain ⟨h1, h2, h3⟩ := presB_iff.1 h
  obtain ⟨a1, _, m1⟩ := roll_rise h1
  obtain ⟨a2, _, m2⟩ := roll_rise h2
  obtain ⟨a3, _, m3⟩ := roll_rise h3
  exact ⟨a1, a2, a3, rise_map.1 (memB_pair m1), rise_map.1 (memB_pair m2), rise_map.1 (memB_pair m3), wf_of_mem m1, wf_of_mem m2, wf_of_mem m3⟩
/-- a gathering that keeps some lists -/
def Gath (M : Nat) (w : World) (base G : Nat) (hs ts ks : List Bn) : Prop := ∃ (g1 N1 : Nat) (xs : List Wt) (g2 N2 : Nat) (ys : List Wt) (g3 N3 : Nat) (zs : List Wt), GathAt w base G g1 N1 xs g2 N2 ys g3 N3 zs ∧ wbs xs = hs ∧ wbs ys = ts ∧ wbs zs = ks ∧ N1 ≤ M ∧ N2 ≤ M ∧ N3 ≤ M
set_option maxHeartbeats 3200000 in
theorem gatheringOf_any (A1 A2 A3 : Option Addr) (n1 c1 n2 c2 n3 c3 : Nat) (hs ts ks : List Bn) (w : World) (h : PresAt w w.heap.size A1 n1 A2 n2 A3 n3 hs ts ks) (ho : PresOk hs ts ks) :
    Calls Try.prog 110 #[.agg #[.slice A1 n1 c1, .slice A2 n2 c2, .slice A3 n3 c3]] w fun e w' => ∃ G, e = .returned (.pointer (some ⟨G, 0, none⟩)) ∧ Gath 100 w' w.heap.size G hs ts ks ∧ Below w.heap.size w w' := by
  have HO := Lib.hid ho
  have hl1 := ho.l1; have hl2 := ho.l2; have hl3 := ho.l3
  have e1 := h.1.1; have e2 := h.2.1.1; have e3 := h.2.2.1
  have hn : n1 ≤ 30 ∧ n2 ≤ 30 ∧ n3 ≤ 30 := ⟨by omega, by omega, by omega⟩
  have HN := Lib.hid hn
  clear ho hl1 hl2 hl3 e1 e2 e3 hn
  have hmk := makeMapW
  go_enter Try.func110, Try.ntmps110
  go_wp2_with fail
  have z1 : (w.alloc (.cells #[.slice A1 n1 c1, .slice A2 n2 c2, .slice A3 n3 c3] 31)).heap.size = w.heap.size + 1 := by simp
  have z2 : ((w.alloc (.cells #[.slice A1 n1 c1, .slice A2 n2 c2, .slice A3 n3 c3] 31)).alloc (.map #[] 0)).heap.size = w.heap.size + 1 + 1 := by simp
  have z3 : (((w.alloc (.cells #[.slice A1 n1 c1, .slice A2 n2 c2, .slice A3 n3 c3] 31)).alloc (.map #[] 0)).alloc (.map #[] 0)).heap.size = w.heap.size + 1 + 1 + 1 := by simp
  have z4 : ((((w.alloc (.cells #[.slice A1 n1 c1, .slice A2 n2 c2, .slice A3 n3 c3] 31)).alloc (.map #[] 0)).alloc (.map #[] 0)).alloc (.map #[] 0)).heap.size = w.heap.size + 1 + 1 + 1 + 1 := by simp
  have z5 : (((((w.alloc (.cells #[.slice A1 n1 c1, .slice A2 n2 c2, .slice A3 n3 c3] 31)).alloc (.map #[] 0)).alloc (.map #[] 0)).alloc (.map #[] 0)).alloc (.cells #[.map (some (w.heap.size + 1)), .map (some (w.heap.size + 1 + 1)), .map (some (w.heap.size + 1 + 1 + 1))] 109)).heap.size = w.heap.size + 1 + 1 + 1 + 1 + 1 := by simp
  have hm1 := heap_old ((((w.alloc (.cells #[.slice A1 n1 c1, .slice A2 n2 c2, .slice A3 n3 c3] 31)).alloc (.map #[] 0)).alloc (.map #[] 0)).alloc (.map #[] 0)) (.cells #[.map (some (w.heap.size + 1)), .map (some (w.heap.size + 1 + 1)), .map (some (w.heap.size + 1 + 1 + 1))] 109) _ _ (heap_old (((w.alloc (.cells #[.slice A1 n1 c1, .slice A2 n2 c2, .slice A3 n3 c3] 31)).alloc (.map #[] 0)).alloc (.map #[] 0)) (.map #[] 0) _ _ (heap_old ((w.alloc (.cells #[.slice A1 n1 c1, .slice A2 n2 c2, .slice A3 n3 c3] 31)).alloc (.map #[] 0)) (.map #[] 0) _ _ (heap_new' (w.alloc (.cells #[.slice A1 n1 c1, .slice A2 n2 c2, .slice A3 n3 c3] 31)) (.map #[] 0) (w.heap.size + 1) z1.symm)))
  have hm2 := heap_old ((((w.alloc (.cells #[.slice A1 n1 c1, .slice A2 n2 c2, .slice A3 n3 c3] 31)).alloc (.map #[] 0)).alloc (.map #[] 0)).alloc (.map #[] 0)) (.cells #[.map (some (w.heap.size + 1)), .map (some (w.heap.size + 1 + 1)), .map (some (w.heap.size + 1 + 1 + 1))] 109) _ _ (heap_old (((w.alloc (.cells #[.slice A1 n1 c1, .slice A2 n2 c2, .slice A3 n3 c3] 31)).alloc (.map #[] 0)).alloc (.map #[] 0)) (.map #[] 0) _ _ (heap_new' ((w.alloc (.cells #[.slice A1 n1 c1, .slice A2 n2 c2, .slice A3 n3 c3] 31)).alloc (.map #[] 0)) (.map #[] 0) (w.heap.size + 1 + 1) z2.symm))
  have hm3 := heap_old ((((w.alloc (.cells #[.slice A1 n1 c1, .slice A2 n2 c2, .slice A3 n3 c3] 31)).alloc (.map #[] 0)).alloc (.map #[] 0)).alloc (.map #[] 0)) (.cells #[.map (some (w.heap.size + 1)), .map (some (w.heap.size + 1 + 1)), .map (some (w.heap.size + 1 + 1 + 1))] 109) _ _ (heap_new' (((w.alloc (.cells #[.slice A1 n1 c1, .slice A2 n2 c2, .slice A3 n3 c3] 31)).alloc (.map #[] 0)).alloc (.map #[] 0)) (.map #[] 0) (w.heap.size + 1 + 1 + 1) z3.symm)
  have hm4 : Blk (((((w.alloc (.cells #[.slice A1 n1 c1, .slice A2 n2 c2, .slice A3 n3 c3] 31)).alloc (.map #[] 0)).alloc (.map #[] 0)).alloc (.map #[] 0)).alloc (.cells #[.map (some (w.heap.size + 1)), .map (some (w.heap.size + 1 + 1)), .map (some (w.heap.size + 1 + 1 + 1))] 109)) (w.heap.size + 1 + 1 + 1 + 1) 109 #[.map (some (w.heap.size + 1)), .map (some (w.heap.size + 1 + 1)), .map (some (w.heap.size + 1 + 1 + 1))] := heap_new' ((((w.alloc (.cells #[.slice A1 n1 c1, .slice A2 n2 c2, .slice A3 n3 c3] 31)).alloc (.map #[] 0)).alloc (.map #[] 0)).alloc (.map #[] 0)) _ _ z4.symm
  have hb0 : Below w.heap.size w (((((w.alloc (.cells #[.slice A1 n1 c1, .slice A2 n2 c2, .slice A3 n3 c3] 31)).alloc (.map #[] 0)).alloc (.map #[] 0)).alloc (.map #[] 0)).alloc (.cells #[.map (some (w.heap.size + 1)), .map (some (w.heap.size + 1 + 1)), .map (some (w.heap.size + 1 + 1 + 1))] 109)) := by repeat (first | exact Below.refl _ _ | refine Below.alloc ?_ (by first | (simp; omega) | simp) _)
  have hsz := z5
  clear z1 z2 z3 z4 z5
  generalize (((((w.alloc (.cells #[.slice A1 n1 c1, .slice A2 n2 c2, .slice A3 n3 c3] 31)).alloc (.map #[] 0)).alloc (.map #[] 0)).alloc (.map #[] 0)).alloc (.cells #[.map (some (w.heap.size + 1)), .map (some (w.heap.size + 1 + 1)), .map (some (w.heap.size + 1 + 1 + 1))] 109)) = W at *
  have hG : GathAt W w.heap.size (w.heap.size + 1 + 1 + 1 + 1) (w.heap.size + 1) 0 [] (w.heap.size + 1 + 1) 0 [] (w.heap.size + 1 + 1 + 1) 0 [] := ⟨by omega, hm4, watch_made hm1 (by omega), watch_made hm2 (by omega), watch_made hm3 (by omega), by simp [wblk], by simp [wblk], by simp [wblk]⟩
  clear hm1 hm2 hm3 hm4 hmk
  have hP := h.below hb0
  go_at_call 127; refine (join_any w.heap.size _ _ 0 [] _ 0 [] _ 0 [] w.heap.size _ _ _ n1 c1 n2 c2 n3 c3 hs ts ks _ hG hP (Nat.le_refl _) (by omega) ⟨by have := HN.out; omega, by have := HN.out; omega, by have := HN.out; omega⟩ ⟨by omega, by omega, by omega⟩ HO.out.f1 HO.out.f2 HO.out.f3).mono ?_; rintro e w6 ⟨rfl, xs, ys, zs, M1, M2, M3, hG6, q1, q2, q3, hM1, hM2, hM3, hst, hnb⟩
  have HF : Hid (Gath 100 w6 w.heap.size (w.heap.size + 1 + 1 + 1 + 1) hs ts ks) := Lib.hid ⟨_, _, xs, _, _, ys, _, _, zs, hG6, q1.trans (joinB_self HO.out.r1), q2.trans (joinB_self HO.out.r2), q3.trans (joinB_self HO.out.r3), by have := HN.out; omega, by have := HN.out; omega, by have := HN.out; omega⟩
  have hb6 := hst.below hb0 (by omega) (fun k hk => (hG.all k hk).1)
  clear hG hG6 q1 q2 q3 hM1 hM2 hM3 hst hnb hP
  go_wp2
  go_ret
  exact ⟨_, rfl, HF.out, hb6⟩
theorem pres_ne {w : World} {G g : Nat} {a b : Array Value} (h : Blk w G 109 a) (h' : Blk w g 31 b) : G ≠ g := by
  intro e
  subst e
  unfold Blk at h h'
  rw [h] at h'
  injection h' with h'
  injection h' with _ ht _
  exact absurd ht (by decide)
theorem PresOwn.set_ {w : World} {base n1 c1 n2 c2 n3 c3 : Nat} {A1 A2 A3 : Option Addr} {hs ts ks : List Bn} (h : PresOwn w base A1 n1 c1 A2 n2 c2 A3 n3 c3 hs ts ks) {a : Addr} (ha : a.block < base) (v : Value) : PresOwn (w.setCell a v) base A1 n1 c1 A2 n2 c2 A3 n3 c3 hs ts ks :=
  ⟨ownsRow_setCell_below h.1 ha v, ownsRow_setCell_below h.2.1 ha v, ownsRow_setCell_below h.2.2.1 ha v, h.2.2.2⟩
theorem PresOwn.set3 {w : World} {base n1 c1 n2 c2 n3 c3 g : Nat} {A1 A2 A3 : Option Addr} {hs ts ks : List Bn} (h : PresOwn w base A1 n1 c1 A2 n2 c2 A3 n3 c3 hs ts ks) (hg : g < base) (i j k : Nat) (v0 v1 v2 : Value) :
    PresOwn (((w.setCell ⟨g, i, none⟩ v0).setCell ⟨g, j, none⟩ v1).setCell ⟨g, k, none⟩ v2) base A1 n1 c1 A2 n2 c2 A3 n3 c3 hs ts ks := ((h.set_ hg v0).set_ hg v1).set_ hg v2
set_option maxHeartbeats 6400000 in
theorem presence_any (base G : Nat) (hs ts ks : List Bn) (w : World) (h : Gath 1000 w base G hs ts ks) (hbw : base ≤ w.heap.size) (f1 : WfB hs) (f2 : WfB ts) (f3 : WfB ks) (b1 : hs.length ≤ 1000) (b2 : ts.length ≤ 1000) (b3 : ks.length ≤ 1000) :
    Calls Try.prog 111 #[.pointer (some ⟨G, 0, none⟩)] w fun e w' => ∃ A1 c1 A2 c2 A3 c3, e = .returned (.agg #[.slice A1 hs.length c1, .slice A2 ts.length c2, .slice A3 ks.length c3]) ∧ PresOwn w' w.heap.size A1 hs.length c1 A2 ts.length c2 A3 ks.length c3 hs ts ks ∧ Below base w w' := by
  obtain ⟨g1, N1, xs, g2, N2, ys, g3, N3, zs, hG, rfl, rfl, rfl, _, _, _⟩ := h
  rw [wbs_len] at b1 b2 b3
  simp only [wbs_len]
  have v1 := wbs_wf f1 rfl; have v2 := wbs_wf f2 rfl; have v3 := wbs_wf f3 rfl
  have HV := Lib.hid (And.intro v1 (And.intro v2 v3))
  clear f1 f2 f3 v1 v2 v3
  go_enter Try.func111, Try.ntmps111
  go_wp2_with fail
  obtain ⟨q0, hb0⟩ := one_box w 31 #[.slice none 0 0, .slice none 0 0, .slice none 0 0]
  have hG := hG.below hb0
  generalize w.alloc (.cells #[.slice none 0 0, .slice none 0 0, .slice none 0 0] 31) = W at *
  have hG : GathAt W.drew base G g1 N1 xs g2 N2 ys g3 N3 zs := hG.below (Below.refl _ _).drew
  have q0 : Blk W.drew w.heap.size 31 #[.slice none 0 0, .slice none 0 0, .slice none 0 0] := q0
  have hS := Stir.of_below (ks := gblk g1 xs g2 ys g3 zs) hb0.drew
  have z0 := hS.size
  have y0 : w.heap.size + 1 ≤ W.drew.heap.size := q0.lt
  have k0 := hG.blk
  clear hb0
  go_region_held3 (fun w' => w'.cell? ⟨G, 0, none⟩ = some (.map (some g1)) ∧ w'.cell? ⟨G, 1, none⟩ = some (.map (some g2)) ∧ w'.cell? ⟨G, 2, none⟩ = some (.map (some g3)))
    (first | exact ⟨k4.cell 0, k4.cell 1, k4.cell 2⟩ | exact ⟨k3.cell 0, k3.cell 1, k3.cell 2⟩ | exact ⟨k2.cell 0, k2.cell 1, k2.cell 2⟩ | exact ⟨k1.cell 0, k1.cell 1, k1.cell 2⟩ | exact ⟨k0.cell 0, k0.cell 1, k0.cell 2⟩)
    ((first
      | (go_at_call 130; refine (rollE_any base g2 N2 ys _ hG1.w2 b2 HV.out.2.1).mono ?_; rintro e W2 ⟨r2, d2, rfl, ho2, hw2, hs2⟩; have hG2 := hG1.put2 hw2 hs2 (fun k hk => .inl hk); have k2 := hG2.blk; have q2 := hs2.blk q1 (hG1.w2.not_blk q1); have hS2 := hS1.next hs2 (fun k hk => .inl (gblk_2 hk)); have hoff := own_offF ho1 ho2; have ho1b := own_stir ho1 hs2 (hG1.w2.not_row ho1); have y2 : w.heap.size + 1 ≤ W2.heap.size := q2.lt)
      | (go_at_call 130; refine (rollE_any base g1 N1 xs _ hG.w1 b1 HV.out.1).mono ?_; rintro e W1 ⟨r1, d1, rfl, ho1, hw1, hs1⟩; have hG1 := hG.put1 hw1 hs1 (fun k hk => .inl hk); have k1 := hG1.blk; have q1 := hs1.blk q0 (hG.w1.not_blk q0); have hS1 := hS.next hs1 (fun k hk => .inl (gblk_1 hk)); have y1 : w.heap.size + 1 ≤ W1.heap.size := q1.lt)
      | (go_at_call 131; refine (rollK_any base g3 N3 zs _ hG2.w3 b3 HV.out.2.2).mono ?_; rintro e W3 ⟨r3, d3, rfl, ho3, hw3, hs3⟩; have hG3 := hG2.put3 hw3 hs3 (fun k hk => .inl hk); have k3 := hG3.blk; have q3 := hs3.blk q2 (hG2.w3.not_blk q2); have hS3 := hS2.next hs3 (fun k hk => .inl (gblk_3 hk)); have ho1c := own_stir ho1b hs3 (hG2.w3.not_row ho1b); have ho2c := own_stir ho2 hs3 (hG2.w3.not_row ho2); have s0 : W3.cell? ⟨w.heap.size, 0, none⟩ = some (.slice none 0 0) := q3.cell 0; have s1 : W3.cell? ⟨w.heap.size, 1, none⟩ = some (.slice none 0 0) := q3.cell 1; have s2 : W3.cell? ⟨w.heap.size, 2, none⟩ = some (.slice none 0 0) := q3.cell 2; have f0 := q3.frozen 0; have f1 := q3.frozen 1; have f2 := q3.frozen 2; have hGw := pres_ne k3 q3; have k4 := (((k3.far (p := ⟨w.heap.size, 0, none⟩) (fun e => hGw e) (.slice (some ⟨r1, 0, none⟩) xs.length d1)).far (p := ⟨w.heap.size, 1, none⟩) (fun e => hGw e) (.slice (some ⟨r2, 0, none⟩) ys.length d2)).far (p := ⟨w.heap.size, 2, none⟩) (fun e => hGw e) (.slice (some ⟨r3, 0, none⟩) zs.length d3)))))
  go_wp2
  have HO : PresOwn W3 (w.heap.size + 1) (some ⟨r1, 0, none⟩) xs.length d1 (some ⟨r2, 0, none⟩) ys.length d2 (some ⟨r3, 0, none⟩) zs.length d3 (wbs xs) (wbs ys) (wbs zs) := ⟨World.ownsRow.mono ho1c y0, World.ownsRow.mono ho2c y1, World.ownsRow.mono ho3 y2, hoff⟩
  have hB3 := hS3.below (Below.refl base w) hbw (fun k hk => (hG.all k hk).1)
  refine bodyPost_ret (v := .agg #[.slice (some ⟨r1, 0, none⟩) xs.length d1, .slice (some ⟨r2, 0, none⟩) ys.length d2, .slice (some ⟨r3, 0, none⟩) zs.length d3]) (by simp [results, Try.results111, go_sem, s0, s1, s2]) rfl ?_
  exact ⟨_, _, _, _, _, _, rfl, (HO.set3 (Nat.lt_succ_self _) _ _ _ _ _ _).mono (Nat.le_succ _), ((hB3.setCell hbw _).setCell hbw _).setCell hbw _⟩
end Go.Proofs.Ytgomffcdoglbfaa
