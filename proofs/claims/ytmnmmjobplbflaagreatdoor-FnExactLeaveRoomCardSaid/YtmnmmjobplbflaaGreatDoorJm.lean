import Derived.Test.YtmnmmjobplbflaaGreatDoorChecked
import Derived.WalkKit
import Derived.ProofKit
import Derived.OpenShut
import Derived.ShutString
import Derived.ChangeOld
import Derived.Below
import Derived.Lib.Hide
import Derived.Deep.RegionHeld3
import Derived.Test.YtmnmmjobplbflaaGreatDoorZAllowS
import Derived.Test.YtmnmmjobplbflaaGreatDoorJh
import Derived.Test.YtmnmmjobplbflaaGreatDoorJf
namespace Go.Proofs.YtmnmmjobplbflaaGreatDoor
open Go.ChangeShapes Go.WideShapes Go.ChangeAt Go.RowKit
open Go.ChangeMaps (open_string shut_string)
set_option linter.unusedVariables false
set_option maxRecDepth 100000
theorem find_split {ms : List Mb} {t : Int} {m : Mb} (h : findM ms t = some m) : ∃ K, ms[K]? = some m ∧ (mids ms)[K]? = some t ∧ NotIn (mids ms) t K := by
  obtain ⟨K, hK, hf⟩ := first_at (findM_mem h)
  obtain ⟨m', hz, hF, _⟩ := find_at hK hf
  rw [h] at hF
  injection hF with hF
  subst hF
  exact ⟨K, hz, hK, hf⟩
theorem above_no1 {ms : List Mb} {vs : List Iv} {bs : List Bn} {p t a at_ : Int} (h : roomB ms vs bs = false) : aboveB ms vs bs p t a at_ = false := by simp [aboveB, h]
end Go.Proofs.YtmnmmjobplbflaaGreatDoor
namespace Go.Proofs.YtmnmmjobplbflaaGreatDoor
open Go.ChangeShapes Go.WideShapes Go.ChangeAt Go.RowKit
open Go.ChangeMaps (open_string shut_string)
set_option linter.unusedVariables false
set_option maxRecDepth 100000
theorem flat_cells {α : Type} {sz : Nat} {f : α → List Value} {w : World} {B n : Nat} {a : Addr} {xs : List α} (hf : ∀ x, (f x).length = sz) (hsz : 0 < sz) (h : SRow sz f w B (some a) n xs) :
    ∀ (j : Nat) (u : Value), (xs.flatMap f)[j]? = some u → w.cell? (a.add j) = some u := by
  intro j u hu
  have hj : j < xs.length * sz := by
    have := (List.getElem?_eq_some_iff.1 hu).1
    rw [flat_len hf] at this
    exact this
  have hd : j / sz < xs.length := Nat.div_lt_of_lt_mul (by rw [Nat.mul_comm]; exact hj)
  have hz : xs[j / sz]? = some xs[j / sz] := List.getElem?_eq_getElem hd
  obtain ⟨b, off, e, hb, hc⟩ := h.2 (by rw [← h.1]; exact Nat.lt_of_le_of_lt (Nat.zero_le _) hd)
  injection e with e
  subst e
  have e2 : j / sz * sz + j % sz = j := Nat.div_add_mod' j sz
  have hg := flat_get hf xs (j / sz) _ hz (j % sz) (Nat.mod_lt _ hsz)
  rw [e2, hu] at hg
  have := hc (j / sz) _ hz (j % sz) u hg.symm
  rw [Nat.add_assoc, e2] at this
  clear hg e2 hz hd hj hu
  cases j <;> simpa [Addr.add] using this
theorem mbC_cells (xs : List Mb) : ∀ u ∈ xs.flatMap mbC, u.oneCell' = true := by
  intro u hu
  obtain ⟨z, _, hz⟩ := List.mem_flatMap.1 hu
  simp [mbC] at hz
  rcases hz with rfl | rfl | rfl | rfl <;> rfl
theorem ivC_cells (xs : List Iv) : ∀ u ∈ xs.flatMap ivC, u.oneCell' = true := by
  intro u hu
  obtain ⟨z, _, hz⟩ := List.mem_flatMap.1 hu
  simp [ivC] at hz
  rcases hz with rfl | rfl | rfl <;> rfl
theorem bnC_cells (xs : List Bn) : ∀ u ∈ xs.flatMap bnC, u.oneCell' = true := by
  intro u hu
  obtain ⟨z, _, hz⟩ := List.mem_flatMap.1 hu
  simp [bnC] at hz
  rcases hz with rfl | rfl <;> rfl
/-- the shape of a row that is one's own -/
theorem own_form {w : World} {base e size n : Nat} {v : Value} {xs : List Value} (h : w.ownsRow base e size v n xs) : ∃ A c, v = .slice A n c := by
  rcases h.2 with ⟨rfl, rfl⟩ | ⟨g, cap, cur, rfl, _⟩
  · exact ⟨_, _, rfl⟩
  · exact ⟨_, _, rfl⟩
end Go.Proofs.YtmnmmjobplbflaaGreatDoor
namespace Go.Proofs.YtmnmmjobplbflaaGreatDoor
open Go.ChangeShapes Go.WideShapes Go.ChangeAt Go.RowKit
open Go.ChangeMaps (open_string shut_string)
set_option linter.unusedVariables false
set_option maxRecDepth 100000
theorem own_far4 {w : World} {base e size n g : Nat} {v : Value} {xs : List Value} (h : w.ownsRow base e size v n xs) (hne : some g ≠ v.ownBlock) (i j k l : Nat) (v0 v1 v2 v3 : Value) :
    ((((w.setCell ⟨g, i, none⟩ v0).setCell ⟨g, j, none⟩ v1).setCell ⟨g, k, none⟩ v2).setCell ⟨g, l, none⟩ v3).ownsRow base e size v n xs :=
  ownsRow_setCell_other (ownsRow_setCell_other (ownsRow_setCell_other (ownsRow_setCell_other h (fun e => hne e.symm) _) (fun e => hne e.symm) _) (fun e => hne e.symm) _) (fun e => hne e.symm) _
theorem sz_set (w : World) (a : Addr) (v : Value) : (w.setCell a v).heap.size = w.heap.size := by simp
theorem sz_alloc (w : World) (x : Obj) : (w.alloc x).heap.size = w.heap.size + 1 := by simp
set_option maxHeartbeats 1600000 in
theorem l02Copy_any (G n1 c1 n2 c2 n3 c3 : Nat) (a1 a2 a3 : Addr) (o : Bool) (ms : List Mb) (vs : List Iv) (bs : List Bn) (w : World) (k : Blk w G 28 #[.bool o, .slice (some a1) n1 c1, .slice (some a2) n2 c2, .slice (some a3) n3 c3])
    (h : RoomAt w w.heap.size (some a1) n1 (some a2) n2 (some a3) n3 ms vs bs) (hn : n1 + n2 + n3 ≤ 1048576) :
    Calls Tryz.prog 57 #[.pointer (some ⟨G, 0, none⟩)] w fun e w' => ∃ A1 d1 A2 d2 A3 d3, e = .returned (.agg #[.bool o, .slice A1 n1 d1, .slice A2 n2 d2, .slice A3 n3 d3]) ∧
      RoomOwn w' w.heap.size A1 n1 d1 A2 n2 d2 A3 n3 d3 ms vs bs ∧ Below w.heap.size w w' := by
  obtain ⟨i1, hi1, hx0, hx1, hx2⟩ := info_parts Tryz.info_Member
  obtain ⟨i2, hi2, hy0, hy1, hy2⟩ := info_parts Tryz.info_Invite
  obtain ⟨i3, hi3, hz0, hz1, hz2⟩ := info_parts Tryz.info_Ban
  have HL1 := Lib.hid h.1.1; have HL2 := Lib.hid h.2.1.1; have HL3 := Lib.hid h.2.2.1
  have hG := k.lt
  obtain ⟨q0, q1, hb0⟩ := two_boxes w 28 28 #[.bool false, .slice none 0 0, .slice none 0 0, .slice none 0 0] #[.bool o, .slice none 0 0, .slice none 0 0, .slice none 0 0]
  have lA : (w.alloc (.cells #[.bool false, .slice none 0 0, .slice none 0 0, .slice none 0 0] 28)).cell? ⟨G, 0, none⟩ = some (.bool o) := (k.alloc _).cell 0
  go_enter Tryz.func57, Tryz.ntmps57
  have kB := k.below hb0 hG
  have hB := h.to hb0
  have z0 := hb0.size
  have ho := World.ownsRow_made ((w.alloc (.cells #[.bool false, .slice none 0 0, .slice none 0 0, .slice none 0 0] 28)).alloc (.cells #[.bool o, .slice none 0 0, .slice none 0 0, .slice none 0 0] 28)) (base := w.heap.size) (e := 66) (size := 4) #[] 0 z0 (by decide) rfl
  simp only [sz_alloc] at ho
  have hbC := hb0.alloc z0 (.cells #[] 66)
  have kC := kB.alloc (.cells #[] 66)
  have qC := q1.alloc (.cells #[] 66)
  have rC := q0.alloc (.cells #[] 66)
  have hC := hB.alloc (.cells #[] 66)
  have lC := kC.cell 1
  have zC := hbC.size
  clear hB kB q0 q1
  have HN1 := Lib.hid (And.intro (flat_cells (f := mbC) mbC_len (by decide) hC.1) (And.intro (show (ms.flatMap mbC).length = n1 * 4 by rw [flat_len mbC_len, HL1.out]) (show (vs.flatMap ivC).length = n2 * 3 by rw [flat_len ivC_len, HL2.out])))
  have HN3 := Lib.hid (show (bs.flatMap bnC).length = n3 * 2 by rw [flat_len bnC_len, HL3.out])
  go_wp2_with (at_builtin; first
    | (refine wpList_append_own _ rfl (.tmp 9) (.tmp 13) 24 rfl w.heap.size 66 i1 (.agg #[.int .i64 0, .int .i64 0, .int .i64 0, .int .i64 0]) 4 32 Tryz.underlying24 hi1 hx0 hx1 hx2 rfl (by decide) (.slice (some ⟨w.heap.size + 1 + 1, 0, none⟩) 0 0) 0 [] rfl ho a1 n1 c1 (ms.flatMap mbC) rfl HN1.out.2.1 HN1.out.1 (mbC_cells ms) (by unfold maxLen; omega) (by omega) (by simp; omega) ?_; intro v1 w1 ho1 hg1 _
       rw [Nat.zero_add, List.nil_append] at ho1
       obtain ⟨B1, d1, rfl⟩ := own_form ho1
       have kD := kC.grown hg1 (by intro e; simp [Value.ownBlock] at e; clear HN1; omega)
       have qD := qC.grown hg1 (by intro e; simp [Value.ownBlock] at e)
       have rD := rC.grown hg1 (by intro e; simp [Value.ownBlock] at e; omega)
       have hbD := hbC.grown hg1 zC (fun g hg => (ho.lt g hg).1)
       have hD := (h.below hbD).more hbD.size
       have x1 := qD.cell 1
       have y1 := qD.frozen 1
       have nq1 : some (w.heap.size + 1) ≠ (Value.slice B1 n1 d1).ownBlock := blk_apart qD ho1 (by decide)
       have zD := hbD.size
       have lt1 := qD.lt
       have kE := (kD.far (p := ⟨w.heap.size + 1, 1, none⟩) (by simp; omega) (.slice B1 n1 d1)).alloc (.cells #[] 36)
       have qE := (qD.set_ 1 (.slice B1 n1 d1)).alloc (.cells #[] 36)
       have rE := (rD.far (p := ⟨w.heap.size + 1, 1, none⟩) (by simp) (.slice B1 n1 d1)).alloc (.cells #[] 36)
       have hbE := (hbD.setCell (p := ⟨w.heap.size + 1, 1, none⟩) (by simp) (.slice B1 n1 d1)).alloc (by simp; omega) (.cells #[] 36)
       have oE := (ownsRow_setCell_other ho1 (a := ⟨w.heap.size + 1, 1, none⟩) (fun e => nq1 e.symm) (.slice B1 n1 d1)).alloc (.cells #[] 36)
       have ho2 := World.ownsRow_made (w1.setCell ⟨w.heap.size + 1, 1, none⟩ (.slice B1 n1 d1)) (base := w.heap.size) (e := 36) (size := 3) #[] 0 (by simp; omega) (by decide) rfl
       simp only [sz_set] at ho2
       have lE := kE.cell 2
       have zE := hbE.size
       have hE := (h.below hbE).more hbE.size
       have NE := Lib.hid (flat_cells (f := ivC) ivC_len (by decide) hE.2.1)
       clear hg1 kD qD rD ho ho1 kC qC rC hbC hC hD hbD)
    | (refine wpList_append_own _ rfl (.tmp 16) (.tmp 20) 25 rfl w.heap.size 36 i2 (.agg #[.int .i64 0, .int .i64 0, .int .i64 0]) 3 24 Tryz.underlying25 hi2 hy0 hy1 hy2 rfl (by decide) (.slice (some ⟨w1.heap.size, 0, none⟩) 0 0) 0 [] rfl ho2 a2 n2 c2 (vs.flatMap ivC) rfl HN1.out.2.2 NE.out (ivC_cells vs) (by unfold maxLen; omega) (by omega) (by simp; omega) ?_; intro v2 w2 ho3 hg2 _
       rw [Nat.zero_add, List.nil_append] at ho3
       obtain ⟨B2, d2, rfl⟩ := own_form ho3
       have kF := kE.grown hg2 (by intro e; simp [Value.ownBlock] at e; omega)
       have qF := qE.grown hg2 (by intro e; simp [Value.ownBlock] at e; omega)
       have rF := rE.grown hg2 (by intro e; simp [Value.ownBlock] at e; omega)
       have hbF := hbE.grown hg2 zE (fun g hg => (ho2.lt g hg).1)
       have oF := oE.kept hg2 (own_types2 oE ho2 (by decide))
       have x2 := qF.cell 2
       have y2 := qF.frozen 2
       have nq2 : some (w.heap.size + 1) ≠ (Value.slice B2 n2 d2).ownBlock := blk_apart qF ho3 (by decide)
       have nq1 : some (w.heap.size + 1) ≠ (Value.slice B1 n1 d1).ownBlock := blk_apart qF oF (by decide)
       have zF := hbF.size
       have lt2 := qF.lt
       have kG := (kF.far (p := ⟨w.heap.size + 1, 2, none⟩) (by simp; omega) (.slice B2 n2 d2)).alloc (.cells #[] 38)
       have qG := (qF.set_ 2 (.slice B2 n2 d2)).alloc (.cells #[] 38)
       have rG := (rF.far (p := ⟨w.heap.size + 1, 2, none⟩) (by simp) (.slice B2 n2 d2)).alloc (.cells #[] 38)
       have hbG := (hbF.setCell (p := ⟨w.heap.size + 1, 2, none⟩) (by simp) (.slice B2 n2 d2)).alloc (by simp; omega) (.cells #[] 38)
       have oG := (ownsRow_setCell_other oF (a := ⟨w.heap.size + 1, 2, none⟩) (fun e => nq1 e.symm) (.slice B2 n2 d2)).alloc (.cells #[] 38)
       have oG2 := (ownsRow_setCell_other ho3 (a := ⟨w.heap.size + 1, 2, none⟩) (fun e => nq2 e.symm) (.slice B2 n2 d2)).alloc (.cells #[] 38)
       have ho4 := World.ownsRow_made (w2.setCell ⟨w.heap.size + 1, 2, none⟩ (.slice B2 n2 d2)) (base := w.heap.size) (e := 38) (size := 2) #[] 0 (by simp; omega) (by decide) rfl
       simp only [sz_set] at ho4
       have lG := kG.cell 3
       have zG := hbG.size
       have hG := (h.below hbG).more hbG.size
       have NG := Lib.hid (flat_cells (f := bnC) bnC_len (by decide) hG.2.2)
       clear hg2 kE qE rE kF qF rF hbE hbF oE oF ho2 ho3 hE)
    | (refine wpList_append_own _ rfl (.tmp 23) (.tmp 27) 26 rfl w.heap.size 38 i3 (.agg #[.int .i64 0, .int .i64 0]) 2 16 Tryz.underlying26 hi3 hz0 hz1 hz2 rfl (by decide) (.slice (some ⟨w2.heap.size, 0, none⟩) 0 0) 0 [] rfl ho4 a3 n3 c3 (bs.flatMap bnC) rfl HN3.out NG.out (bnC_cells bs) (by unfold maxLen; omega) (by omega) (by simp; omega) ?_; intro v3 w3 ho5 hg3 _
       rw [Nat.zero_add, List.nil_append] at ho5
       obtain ⟨B3, d3, rfl⟩ := own_form ho5
       have qH := qG.grown hg3 (by intro e; simp [Value.ownBlock] at e; omega)
       have rH := rG.grown hg3 (by intro e; simp [Value.ownBlock] at e; omega)
       have hbH := hbG.grown hg3 zG (fun g hg => (ho4.lt g hg).1)
       have oH := oG.kept hg3 (own_types2 oG ho4 (by decide))
       have oH2 := oG2.kept hg3 (own_types2 oG2 ho4 (by decide))
       have x3 := qH.cell 3
       have y3 := qH.frozen 3
       have nq3 : some (w.heap.size + 1) ≠ (Value.slice B3 n3 d3).ownBlock := blk_apart qH ho5 (by decide)
       have nq2 : some (w.heap.size + 1) ≠ (Value.slice B2 n2 d2).ownBlock := blk_apart qH oH2 (by decide)
       have nq1 : some (w.heap.size + 1) ≠ (Value.slice B1 n1 d1).ownBlock := blk_apart qH oH (by decide)
       have lt3 := qH.lt
       have qI := qH.set_ 3 (.slice B3 n3 d3)
       have rI := rH.far (p := ⟨w.heap.size + 1, 3, none⟩) (by simp) (.slice B3 n3 d3)
       have hbI := hbH.setCell (p := ⟨w.heap.size + 1, 3, none⟩) (by simp) (.slice B3 n3 d3)
       have oI := ownsRow_setCell_other oH (a := ⟨w.heap.size + 1, 3, none⟩) (fun e => nq1 e.symm) (.slice B3 n3 d3)
       have oI2 := ownsRow_setCell_other oH2 (a := ⟨w.heap.size + 1, 3, none⟩) (fun e => nq2 e.symm) (.slice B3 n3 d3)
       have oI3 := ownsRow_setCell_other ho5 (a := ⟨w.heap.size + 1, 3, none⟩) (fun e => nq3 e.symm) (.slice B3 n3 d3)
       have e0 := qI.cell 0; have e1 := qI.cell 1; have e2 := qI.cell 2; have e3 := qI.cell 3
       have r0 := rI.cell 0; have r1 := rI.cell 1; have r2 := rI.cell 2; have r3 := rI.cell 3
       have f0 := rI.frozen 0; have f1 := rI.frozen 1; have f2 := rI.frozen 2; have f3 := rI.frozen 3
       clear hg3 kG qG rG qH rH hbG hbH oG oG2 oH oH2 ho4 ho5)
    | fail)
  have m1 : some w.heap.size ≠ (Value.slice B1 n1 d1).ownBlock := blk_apart rI oI (by decide)
  have m2 : some w.heap.size ≠ (Value.slice B2 n2 d2).ownBlock := blk_apart rI oI2 (by decide)
  have m3 : some w.heap.size ≠ (Value.slice B3 n3 d3).ownBlock := blk_apart rI oI3 (by decide)
  refine bodyPost_ret (v := .agg #[.bool o, .slice B1 n1 d1, .slice B2 n2 d2, .slice B3 n3 d3]) (by simp [results, Tryz.results57, go_sem, r0, r1, r2, r3]) rfl ?_
  exact ⟨_, _, _, _, _, _, rfl, ⟨own_far4 oI m1 _ _ _ _ _ _ _ _, own_far4 oI2 m2 _ _ _ _ _ _ _ _, own_far4 oI3 m3 _ _ _ _ _ _ _ _⟩, below_set4 hbI (Nat.le_refl _) _ _ _ _ _ _ _ _⟩
end Go.Proofs.YtmnmmjobplbflaaGreatDoor
namespace Go.Proofs.YtmnmmjobplbflaaGreatDoor
open Go.ChangeShapes Go.WideShapes Go.ChangeAt Go.RowKit
open Go.ChangeMaps (open_string shut_string)
set_option linter.unusedVariables false
set_option maxRecDepth 100000
theorem roomOut_yes {w w' : World} {r : ROut} {A1 A2 A3 : Option Addr} {n1 c1 n2 c2 n3 c3 : Nat} (h : RoomOwn w' w.heap.size A1 n1 c1 A2 n2 c2 A3 n3 c3 r.ms r.vs r.bs) (hb : Below w.heap.size w w') (hn : n1 + n2 + n3 ≤ 1048576) :
    RoomOut r w (.returned (.tuple #[.agg #[.bool r.o, .slice A1 n1 c1, .slice A2 n2 c2, .slice A3 n3 c3], .bool r.ok])) w' := ⟨_, _, _, _, _, _, _, _, _, rfl, h, hb, hn⟩
theorem RoomOwn.far4 {w : World} {base n1 c1 n2 c2 n3 c3 g : Nat} {A1 A2 A3 : Option Addr} {ms : List Mb} {vs : List Iv} {bs : List Bn} (h : RoomOwn w base A1 n1 c1 A2 n2 c2 A3 n3 c3 ms vs bs) {cs : Array Value} (hk : Blk w g 28 cs) (i j k l : Nat) (v0 v1 v2 v3 : Value) :
    RoomOwn ((((w.setCell ⟨g, i, none⟩ v0).setCell ⟨g, j, none⟩ v1).setCell ⟨g, k, none⟩ v2).setCell ⟨g, l, none⟩ v3) base A1 n1 c1 A2 n2 c2 A3 n3 c3 ms vs bs :=
  ⟨own_far4 h.1 (blk_apart hk h.1 (by decide)) _ _ _ _ _ _ _ _, own_far4 h.2.1 (blk_apart hk h.2.1 (by decide)) _ _ _ _ _ _ _ _, own_far4 h.2.2 (blk_apart hk h.2.2 (by decide)) _ _ _ _ _ _ _ _⟩
theorem RoomOwn.far {w : World} {base n1 c1 n2 c2 n3 c3 g : Nat} {A1 A2 A3 : Option Addr} {ms : List Mb} {vs : List Iv} {bs : List Bn} (h : RoomOwn w base A1 n1 c1 A2 n2 c2 A3 n3 c3 ms vs bs) {cs : Array Value} (hk : Blk w g 28 cs) (i : Nat) (v : Value) :
    RoomOwn (w.setCell ⟨g, i, none⟩ v) base A1 n1 c1 A2 n2 c2 A3 n3 c3 ms vs bs :=
  ⟨ownsRow_setCell_other h.1 (a := ⟨g, i, none⟩) (fun e => blk_apart hk h.1 (by decide) e.symm) v, ownsRow_setCell_other h.2.1 (a := ⟨g, i, none⟩) (fun e => blk_apart hk h.2.1 (by decide) e.symm) v, ownsRow_setCell_other h.2.2 (a := ⟨g, i, none⟩) (fun e => blk_apart hk h.2.2 (by decide) e.symm) v⟩
theorem RoomOwn.alloc {w : World} {base n1 c1 n2 c2 n3 c3 : Nat} {A1 A2 A3 : Option Addr} {ms : List Mb} {vs : List Iv} {bs : List Bn} (h : RoomOwn w base A1 n1 c1 A2 n2 c2 A3 n3 c3 ms vs bs) (x : Obj) : RoomOwn (w.alloc x) base A1 n1 c1 A2 n2 c2 A3 n3 c3 ms vs bs := ⟨h.1.alloc x, h.2.1.alloc x, h.2.2.alloc x⟩
end Go.Proofs.YtmnmmjobplbflaaGreatDoor
namespace Go.Proofs.YtmnmmjobplbflaaGreatDoor
open Go.ChangeShapes Go.WideShapes Go.ChangeAt Go.RowKit
open Go.ChangeMaps (open_string shut_string)
set_option linter.unusedVariables false
set_option maxRecDepth 100000
theorem flat_set {α : Type} {sz : Nat} {f : α → List Value} (hf : ∀ x, (f x).length = sz) : ∀ (xs : List α) (K : Nat) (z z' : α) (i : Nat) (v : Value), xs[K]? = some z → i < sz → f z' = (f z).set i v → (xs.flatMap f).set (K * sz + i) v = (xs.set K z').flatMap f := by
  intro xs
  induction xs with
  | nil => intro K z z' i v h; simp at h
  | cons x r ih =>
    intro K z z' i v h hi hz
    cases K with
    | zero =>
      simp at h; subst h
      rw [List.set_cons_zero, List.flatMap_cons, List.flatMap_cons, Nat.zero_mul, Nat.zero_add, List.set_append_left _ _ (by rw [hf]; exact hi), hz]
    | succ K =>
      have h' : r[K]? = some z := by simpa using h
      have e : (K + 1) * sz + i = sz + (K * sz + i) := by rw [Nat.add_mul]; omega
      rw [List.set_cons_succ, List.flatMap_cons, List.flatMap_cons, e, List.set_append_right _ _ (by rw [hf]; omega), hf, Nat.add_sub_cancel_left, ih K z z' i v h' hi hz]
theorem set_alter {ms : List Mb} {K : Nat} {m : Mb} (f : Mb → Mb) (hr : Rise Mb.id ms) (hz : ms[K]? = some m) : ms.set K (f m) = alter m.id f ms := by
  apply List.ext_getElem?
  intro j
  rw [List.getElem?_set, alter, List.getElem?_map]
  have hK := (List.getElem?_eq_some_iff.1 hz).1
  by_cases hj : K = j
  · subst hj
    obtain ⟨hl, he⟩ := List.getElem?_eq_some_iff.1 hz
    simp [hl, he]
  · rw [if_neg hj]
    cases hx : ms[j]? with
    | none => rfl
    | some x =>
      have hne : x.id ≠ m.id := by
        obtain ⟨a1, e1⟩ := List.getElem?_eq_some_iff.1 hz
        obtain ⟨a2, e2⟩ := List.getElem?_eq_some_iff.1 hx
        rcases Nat.lt_or_gt_of_ne hj with hl | hl
        · have := List.pairwise_iff_getElem.1 hr K j a1 a2 hl
          rw [e1, e2] at this
          omega
        · have := List.pairwise_iff_getElem.1 hr j K a2 a1 hl
          rw [e1, e2] at this
          omega
      simp [hne]
theorem above_room {ms : List Mb} {vs : List Iv} {bs : List Bn} {p t a at_ : Int} (h : aboveB ms vs bs p t a at_ = true) : RoomV ms vs bs := by
  simp only [aboveB, Bool.and_eq_true] at h
  exact roomB_iff.1 h.1.1.1.1
theorem own_some {w : World} {base e size n c : Nat} {A : Option Addr} {xs : List Value} (h : w.ownsRow base e size (.slice A n c) n xs) (hn : 0 < n) : ∃ g, A = some ⟨g, 0, none⟩ ∧ base ≤ g := by
  rcases h.2 with ⟨hv, h0⟩ | ⟨g, cap, cur, hv, hg, _⟩
  · omega
  · injection hv with h1 h2 h3
    exact ⟨g, h1, hg⟩
theorem set_mem {α : Type} {xs : List α} {K : Nat} {z : α} : (xs.set K z).length = xs.length := by simp
end Go.Proofs.YtmnmmjobplbflaaGreatDoor
namespace Go.Proofs.YtmnmmjobplbflaaGreatDoor
open Go.ChangeShapes Go.WideShapes Go.ChangeAt Go.RowKit
open Go.ChangeMaps (open_string shut_string)
set_option linter.unusedVariables false
open Go.Maps
set_option maxRecDepth 100000
theorem drop_take_same {α : Type} {k : α → Int} {t : Int} {xs : List α} {n : Nat} {z : α} (hz : xs[n]? = some z) (h : k z = t) : dropK k t (xs.take (n + 1)) = dropK k t (xs.take n) := by
  rw [take_some hz]; simp [dropK, h]
theorem drop_take_next {α : Type} {k : α → Int} {t : Int} {xs : List α} {n : Nat} {z : α} (hz : xs[n]? = some z) (h : ¬ k z = t) : dropK k t (xs.take (n + 1)) = dropK k t (xs.take n) ++ [z] := by
  rw [take_some hz]; simp [dropK, h]
theorem drop_take_len {α : Type} {k : α → Int} {t : Int} (xs : List α) (n : Nat) : (dropK k t (xs.take n)).length ≤ n := Nat.le_trans drop_len (List.length_take_le _ _)
theorem one_cells (w : World) (t : TypeId) (cs : List Value) : ∀ (j : Nat) (u : Value), cs[j]? = some u → (w.alloc (.cells cs.toArray t)).cell? ((⟨w.heap.size, 0, none⟩ : Addr).add j) = some u := by
  intro j u h
  have := (Blk.new w t cs.toArray).cell j
  rw [List.getElem?_toArray, h] at this
  cases j <;> simpa [Addr.add] using this
set_option maxHeartbeats 1600000 in
theorem l02Rest_any (A : Option Addr) (n c : Nat) (xs : List Mb) (t : Int) (w : World) (h : SRow 4 mbC w w.heap.size A n xs) (hn : n ≤ 1048576) :
    Calls Tryz.prog 58 #[.slice A n c, .int .i64 t] w fun e w' => ∃ A' m c', e = .returned (.slice A' m c') ∧ m = (dropK Mb.id t xs).length ∧ w'.ownsRow w.heap.size 66 4 (.slice A' m c') m ((dropK Mb.id t xs).flatMap mbC) ∧ Below w.heap.size w w' := by
  obtain ⟨i0, hi, hz0, hz1, hz2⟩ := info_parts Tryz.info_Member
  have HL := Lib.hid h.1
  have ho := World.ownsRow_made w (base := w.heap.size) (e := 66) (size := 4) #[] 0 (Nat.le_refl _) (by decide) rfl
  have hb0 : Below w.heap.size w (w.alloc (.cells #[] 66)) := (Below.refl _ _).alloc (Nat.le_refl _) _
  go_enter Tryz.func58, Tryz.ntmps58
  go_wp2
  go_loopw [5, 6] (fun v i wr => ∃ k : Nat, k ≤ n ∧ i = .int .i64 k ∧ wr.ownsRow w.heap.size 66 4 v (dropK Mb.id t (xs.take k)).length ((dropK Mb.id t (xs.take k)).flatMap mbC) ∧ Below w.heap.size w wr) (fun _ i _ => n - (intOf i).toNat)
  case atStart => exact ⟨0, by omega, rfl, ho, hb0⟩
  case round =>
    obtain ⟨k, hk, rfl, hown, hbel⟩ := hrel
    clear ho hb0
    have hbs := hbel.size
    by_cases hlt : k < n
    · obtain ⟨b, off, z, rfl, hb, hz, c0, c1, c2, c3⟩ := h.atm hlt
      have d0 : wr.cell? ⟨b, off + k * 4, none⟩ = some (.int .i64 z.id) := (hbel.cell hb).trans c0
      have d1 : wr.cell? ⟨b, off + k * 4 + 1, none⟩ = some (.int .i64 z.role) := (hbel.cell hb).trans c1
      have d2 : wr.cell? ⟨b, off + k * 4 + 2, none⟩ = some (.int .i64 z.since) := (hbel.cell hb).trans c2
      have d3 : wr.cell? ⟨b, off + k * 4 + 3, none⟩ = some (.int .i64 z.quiet) := (hbel.cell hb).trans c3
      have hln := drop_take_len (k := Mb.id) (t := t) xs k
      clear c0 c1 c2 c3
      by_cases he : z.id = t
      · have HS := Lib.hid (drop_take_same hz he)
        have he' : (z.id != t) = false := by simp [he]
        clear hz he h
        go_wp2
        go_roundw
        case rel => exact ⟨k + 1, by omega, by go_num, by rw [HS.out]; exact hown, hbel⟩
        case measure => simp [intOf]; omega
      · have HS := Lib.hid (drop_take_next hz he)
        have he' : (z.id != t) = true := by simp [he]
        clear hz he h
        go_wp2_with (at_builtin; refine wpList_append_own _ rfl (.tmp 21) (.tmp 26) 24 rfl w.heap.size 66 i0 (.agg #[.int .i64 0, .int .i64 0, .int .i64 0, .int .i64 0]) 4 32 Tryz.underlying24 hi hz0 hz1 hz2 rfl (by decide) _ _ _ rfl (hown.alloc _) ⟨wr.heap.size, 0, none⟩ 1 1 [.int .i64 z.id, .int .i64 z.role, .int .i64 z.since, .int .i64 z.quiet] rfl rfl (one_cells wr _ _) (by intro u hu; simp at hu; rcases hu with rfl | rfl | rfl | rfl <;> rfl) (by unfold maxLen; omega) (by omega) (by simp; omega) ?_; intro v2 w2 ho2 hg2 _)
        have hb2 : Below w.heap.size w w2 := (hbel.alloc hbs _).grown hg2 (by simp; omega) (fun g hg => (hown.lt g hg).1)
        clear hg2 hown hbel d0 d1 d2 d3
        go_roundw
        case rel => exact ⟨k + 1, by omega, by go_num, by rw [HS.out, List.flatMap_append, List.length_append]; exact ho2, hb2⟩
        case measure => simp [intOf]; omega
    · have hkn : k = n := by omega
      subst hkn
      rw [List.take_of_length_le (by have := HL.out; omega)] at hown
      go_wp2
      go_ret
      obtain ⟨A', c', rfl⟩ := own_form hown
      exact ⟨A', _, c', rfl, rfl, hown, hbel⟩
end Go.Proofs.YtmnmmjobplbflaaGreatDoor
