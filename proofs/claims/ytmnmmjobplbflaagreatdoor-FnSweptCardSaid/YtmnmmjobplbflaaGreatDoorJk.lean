import Derived.Test.YtmnmmjobplbflaaGreatDoorChecked
import Derived.WalkKit
import Derived.ProofKit
import Derived.OpenShut
import Derived.ShutString
import Derived.ChangeOld
import Derived.Below
import Derived.Lib.Hide
import Derived.Shelf.Abstract
import Derived.Test.YtmnmmjobplbflaaGreatDoorZChangeC
import Derived.Test.YtmnmmjobplbflaaGreatDoorZErrsC
namespace Go.Proofs.YtmnmmjobplbflaaGreatDoor
open Go.ChangeShapes Go.WideShapes Go.ChangeAt Go.RowKit
open Go.ChangeMaps (open_string shut_string)
set_option linter.unusedVariables false
open Go.Maps
set_option maxRecDepth 100000
/-- what a change does to a book: it is as told, or an error is handed back -/
def Change (fid : FuncId) (caps : Array Value) (o : Bool) (ms : List Mb) (vs : List Iv) (bs : List Bn) (f : ROut) (w : World) : Prop :=
  ∀ (w' : World) (g base : Nat), w.heap.size ≤ base → base ≤ w'.heap.size → Below w.heap.size w w' → BookAt w' g base 100 o ms vs bs →
    Calls Tryz.prog fid (#[.pointer (some ⟨g, 0, none⟩)] ++ caps) w' fun e w'' => ((f.ok = true ∧ e = .returned .nilIface ∧ ∃ N, BookAt w'' g base N f.o f.ms f.vs f.bs) ∨ (f.ok = false ∧ ∃ t v, e = .returned (.iface t v))) ∧ Below base w' w''
set_option maxHeartbeats 3200000 in
theorem changed_any (fid : FuncId) (caps : Array Value) (hen : Enters Tryz.prog fid) (o : Bool) (A1 A2 A3 : Option Addr) (n1 c1 n2 c2 n3 c3 : Nat) (ms : List Mb) (vs : List Iv) (bs : List Bn) (f : ROut) (w : World)
    (h : RoomAt w w.heap.size A1 n1 A2 n2 A3 n3 ms vs bs) (hn : n1 + n2 + n3 ≤ 1048576) (hc : roomB ms vs bs = true → Change fid caps o ms vs bs f w) (hf : roomB ms vs bs = true → f.ok = true → ROk f) :
    Calls Tryz.prog 27 #[.agg #[.bool o, .slice A1 n1 c1, .slice A2 n2 c2, .slice A3 n3 c3], .func (.func fid) #[] caps] w (RoomOut (changeR ms vs bs f) w) := by
  obtain ⟨rz, hrz⟩ : ∃ z, changeR ms vs bs f = z := ⟨_, rfl⟩
  have HZ := Lib.hid hrz
  rw [hrz]
  clear hrz
  unfold Enters at hen
  go_enter Tryz.func27, Tryz.ntmps27
  go_wp2_with fail
  obtain ⟨k0, k1, hb0⟩ := two_boxes w 28 28 #[.bool o, .slice A1 n1 c1, .slice A2 n2 c2, .slice A3 n3 c3] #[.bool false, .slice none 0 0, .slice none 0 0, .slice none 0 0]
  generalize ((w.alloc (.cells #[.bool o, .slice A1 n1 c1, .slice A2 n2 c2, .slice A3 n3 c3] 28)).alloc (.cells #[.bool false, .slice none 0 0, .slice none 0 0, .slice none 0 0] 28)) = W at *
  have h := (h.below hb0).more hb0.size
  have HL1 := Lib.hid h.1.1; have HL2 := Lib.hid h.2.1.1; have HL3 := Lib.hid h.2.2.1
  cases hb : roomB ms vs bs with
  | false =>
    go_at_call 12; refine (impl_ValidRoom_any _ _ _ _ _ _ _ _ _ _ _ _ _ _ h hn).mono ?_; rw [hb]; rintro e w1 ⟨rfl, hb1⟩
    have k1 := k1.below hb1 k1.lt
    have hb0 := hb0.trans (hb1.mono hb0.size)
    clear hb1
    have r0 := k1.cell 0; have r1 := k1.cell 1; have r2 := k1.cell 2; have r3 := k1.cell 3
    have f0 := k1.frozen 0; have f1 := k1.frozen 1; have f2 := k1.frozen 2; have f3 := k1.frozen 3
    go_wp2
    refine bodyPost_ret (v := .tuple #[.agg #[.bool false, .slice none 0 0, .slice none 0 0, .slice none 0 0], .bool false]) (by simp [results, Tryz.results27, go_sem, r0, r1, r2, r3]) rfl ?_
    rw [show rz = rNo by rw [← HZ.out, changeR, if_neg (by simp [hb])]]
    exact roomOut_no ((((hb0.setCell (by simp) _).setCell (by simp) _).setCell (by simp) _).setCell (by simp) _)
  | true =>
    have hv := roomB_iff.1 hb
    have hc := hc hb
    have hf := hf hb
    go_at_call 12; refine (impl_ValidRoom_any _ _ _ _ _ _ _ _ _ _ _ _ _ _ h hn).mono ?_; rw [hb]; rintro e w1 ⟨rfl, hb1⟩
    have h := h.to hb1
    have k0 := k0.below hb1 k0.lt
    have k1 := k1.below hb1 k1.lt
    have hb0 := hb0.trans (hb1.mono hb0.size)
    clear hb1
    have l0 := k0.cell 0; have l1 := k0.cell 1; have l2 := k0.cell 2; have l3 := k0.cell 3
    go_wp2_with fail
    go_at_call 30; refine (bookOf_any _ _ _ _ _ _ _ _ _ _ _ _ _ _ h (by have := hv.l1; have := hv.l2; have := hv.l3; have := HL1.out; have := HL2.out; have := HL3.out; omega) hv.facts).mono ?_; rintro e w2 ⟨g, rfl, hB, hb1⟩
    have z0 := k1.lt
    have k1 := k1.below hb1 k1.lt
    have zA := hb0.size
    have hb0 := hb0.trans (hb1.mono hb0.size)
    have hs1 := hb1.size
    clear hb1 l0 l1 l2 l3
    have cc := hc w2 g w1.heap.size zA hs1 hb0 hB
    go_wp2_with fail
    go_at_fn fid; refine cc.mono ?_; rintro e w3 ⟨hy, hb1⟩
    have k1 := k1.below hb1 z0
    have hb0 := hb0.trans (hb1.mono zA)
    rcases hy with ⟨hok, rfl, N, hB⟩ | ⟨hok, t, v, rfl⟩
    · have hF := hf hok
      have hB3 := hb1.size
      have zB := hb0.size
      have z3 : w.heap.size + 1 < w3.heap.size := k1.lt
      clear hb1
      go_wp2_with fail
      go_at_call 77; refine (bookRoom_any g w1.heap.size N _ _ _ _ _ hB hF.r1 hF.r2 hF.r3 hF.n1 hF.n2 hF.n3 hF.w1 hF.w2 hF.w3).mono ?_; rintro e w4 ⟨B1, d1, B2, d2, B3, d3, rfl, hO, hb1⟩
      have k1 := k1.below hb1 z3
      have hb0 := hb0.trans (hb1.mono zB)
      have hO' := hO.mono (Nat.le_of_lt (Nat.lt_trans (Nat.lt_succ_self _) z3))
      have hnn : f.ms.length + f.vs.length + f.bs.length ≤ 1048576 := by have := hF.n1; have := hF.n2; have := hF.n3; omega
      have z4 := k1.lt
      have hOx := hO.mono (Nat.succ_le_of_lt z3)
      clear hb1 hO
      go_wp2_with fail
      cases hb2 : roomB f.ms f.vs f.bs with
      | false =>
        go_at_call 76; refine (ifValid_no _ _ _ _ _ _ _ _ _ _ _ _ _ _ hO'.at_ hnn hb2).mono ?_; rintro e w5 ⟨rfl, hb1⟩
        have k1 := k1.below hb1 z4
        have hb0 := hb0.trans (hb1.mono hb0.size)
        clear hb1
        have r0 := k1.cell 0; have r1 := k1.cell 1; have r2 := k1.cell 2; have r3 := k1.cell 3
        have f0 := k1.frozen 0; have f1 := k1.frozen 1; have f2 := k1.frozen 2; have f3 := k1.frozen 3
        go_wp2
        refine bodyPost_ret (v := .tuple #[.agg #[.bool false, .slice none 0 0, .slice none 0 0, .slice none 0 0], .bool false]) (by simp [results, Tryz.results27, go_sem, r0, r1, r2, r3]) rfl ?_
        rw [show rz = rNo by rw [← HZ.out, changeR, if_pos hb, if_pos hok, rGive, if_neg (by simp [hb2])]]
        exact roomOut_no ((((hb0.setCell (by simp) _).setCell (by simp) _).setCell (by simp) _).setCell (by simp) _)
      | true =>
        go_at_call 76; refine (ifValid_yes _ _ _ _ _ _ _ _ _ _ _ _ _ _ hO'.at_ hnn hb2).mono ?_; rintro e w5 ⟨rfl, hb1⟩
        have k1 := k1.below hb1 z4
        have hOx := hOx.below hb1 (Nat.le_refl _)
        have hb0 := hb0.trans (hb1.mono hb0.size)
        clear hb1
        have r0 := k1.cell 0; have r1 := k1.cell 1; have r2 := k1.cell 2; have r3 := k1.cell 3
        have f0 := k1.frozen 0; have f1 := k1.frozen 1; have f2 := k1.frozen 2; have f3 := k1.frozen 3
        go_wp2
        refine bodyPost_ret (v := .tuple #[.agg #[.bool f.o, .slice B1 f.ms.length d1, .slice B2 f.vs.length d2, .slice B3 f.bs.length d3], .bool true]) (by simp [results, Tryz.results27, go_sem, r0, r1, r2, r3]) rfl ?_
        rw [show rz = ⟨f.o, f.ms, f.vs, f.bs, true⟩ by rw [← HZ.out, changeR, if_pos hb, if_pos hok, rGive, if_pos hb2]]
        exact ⟨_, _, _, _, _, _, _, _, _, rfl, (hOx.set4 (Nat.lt_succ_self _) _ _ _ _ _ _ _ _).mono (by omega), below_set4 hb0 (Nat.le_succ _) _ _ _ _ _ _ _ _, hnn⟩
    · clear hb1
      have r0 := k1.cell 0; have r1 := k1.cell 1; have r2 := k1.cell 2; have r3 := k1.cell 3
      have f0 := k1.frozen 0; have f1 := k1.frozen 1; have f2 := k1.frozen 2; have f3 := k1.frozen 3
      go_wp2
      refine bodyPost_ret (v := .tuple #[.agg #[.bool false, .slice none 0 0, .slice none 0 0, .slice none 0 0], .bool false]) (by simp [results, Tryz.results27, go_sem, r0, r1, r2, r3]) rfl ?_
      rw [show rz = rNo by rw [← HZ.out, changeR, if_pos hb, if_neg (by simp [hok])]]
      exact roomOut_no ((((hb0.setCell (by simp) _).setCell (by simp) _).setCell (by simp) _).setCell (by simp) _)
end Go.Proofs.YtmnmmjobplbflaaGreatDoor
namespace Go.Proofs.YtmnmmjobplbflaaGreatDoor
open Go.ChangeShapes Go.WideShapes Go.ChangeAt Go.RowKit
open Go.ChangeMaps (open_string shut_string)
set_option linter.unusedVariables false
open Go.Maps
set_option maxRecDepth 100000
/-- the error for who is refused -/
def ErrR (w : World) (a : Addr) : Prop := w.cell? ⟨1, 0, none⟩ = some (.iface 214 (.pointer (some a)))
theorem ErrR.below {w w' : World} {a : Addr} (h : ErrR w a) (hb : Below w.heap.size w w') : ErrR w' a := (hb.cell (World.block_lt_of_cell? w _ h)).trans h
theorem zeroB (w : World) : (zeroValue 38).run Tryz.prog w = .ok (.agg #[.int .i64 0, .int .i64 0]) w := by kernel_rfl
theorem zeroI (w : World) : (zeroValue 36).run Tryz.prog w = .ok (.agg #[.int .i64 0, .int .i64 0, .int .i64 0]) w := by kernel_rfl
theorem findB_none {bs : List Bn} {t : Int} : bs.find? (fun x => decide (x.id = t)) = none ↔ ¬ t ∈ bids bs := by
  constructor
  · intro h hm
    obtain ⟨z, hz, _⟩ := findK_mem (k := Bn.id) hm
    rw [h] at hz; cases hz
  · intro h
    exact findK_none h
theorem isBanned_any (g base N : Nat) (o : Bool) (ms : List Mb) (vs : List Iv) (bs : List Bn) (t : Int) (w : World) (h : BookAt w g base N o ms vs bs) (hw : (Lit.int .i64 t).wf = true) :
    Calls Tryz.prog 79 #[.pointer (some ⟨g, 0, none⟩), .int .i64 t] w fun e w' => e = .returned (.bool (decide (t ∈ bids bs))) ∧ Below w.heap.size w w' := by
  obtain ⟨b1, b2, b3, hk, h1, h2, h3, _, _⟩ := h
  have hl := look_tab kInt Tryz.underlying114 Tryz.underlying2 (zeroB _) h3 t hw
  have hk3 := hk.cell 3
  have hkl := hk.lt
  cases hf : bs.find? (fun x => decide (x.id = t)) with
  | none =>
    have HT := Lib.hid (findB_none.1 hf)
    have hr := (hl.2 hf).1
    clear hl hf h1 h2 h3 hk
    go_enter Tryz.func79, Tryz.ntmps79
    go_wp2
    go_ret
    exact ⟨ret_bool (decide_eq_false HT.out).symm, by repeat (first | exact Below.refl _ _ | refine Below.setCell ?_ (by simp) _ | refine Below.alloc ?_ (by first | (simp; omega) | simp) _)⟩
  | some x =>
    have HT := Lib.hid (show t ∈ bids bs from by
      have h1 := List.mem_of_find?_eq_some hf
      have h2 : x.id = t := by simpa using List.find?_some hf
      rw [← h2]; exact List.mem_map_of_mem h1)
    have hr := (hl.1 x hf).1
    simp only [bnV] at hr
    clear hl hf h1 h2 h3 hk
    go_enter Tryz.func79, Tryz.ntmps79
    go_wp2
    go_ret
    exact ⟨ret_bool (decide_eq_true HT.out).symm, by repeat (first | exact Below.refl _ _ | refine Below.setCell ?_ (by simp) _ | refine Below.alloc ?_ (by first | (simp; omega) | simp) _)⟩
end Go.Proofs.YtmnmmjobplbflaaGreatDoor
namespace Go.Proofs.YtmnmmjobplbflaaGreatDoor
open Go.ChangeShapes Go.WideShapes Go.ChangeAt Go.RowKit
open Go.ChangeMaps (open_string shut_string)
set_option linter.unusedVariables false
open Go.Maps
set_option maxRecDepth 100000
/-- a deed's own change of a book -/
def Does (fC : FuncId) (dv : Value) (at_ : Int) (o : Bool) (ms : List Mb) (vs : List Iv) (bs : List Bn) (f : ROut) (w : World) : Prop :=
  ∀ (w' : World) (g base : Nat), w.heap.size ≤ base → base ≤ w'.heap.size → Below w.heap.size w w' → BookAt w' g base 100 o ms vs bs →
    Calls Tryz.prog fC #[dv, .pointer (some ⟨g, 0, none⟩), .int .i64 at_] w' fun e w'' => ((f.ok = true ∧ e = .returned .nilIface ∧ ∃ N, BookAt w'' g base N f.o f.ms f.vs f.bs) ∨ (f.ok = false ∧ ∃ t v, e = .returned (.iface t v))) ∧ Below base w' w''
theorem below_lower {B C : Nat} {w w' : World} (h : Below B w w') (hB : C ≤ B) : Below C w w' := h.mono hB
end Go.Proofs.YtmnmmjobplbflaaGreatDoor
namespace Go.Proofs.YtmnmmjobplbflaaGreatDoor
open Go.ChangeShapes Go.WideShapes Go.ChangeAt Go.RowKit
open Go.ChangeMaps (open_string shut_string)
set_option linter.unusedVariables false
open Go.Maps
set_option maxRecDepth 100000
theorem Does.later {fC : FuncId} {dv : Value} {at_ : Int} {o : Bool} {ms : List Mb} {vs : List Iv} {bs : List Bn} {f : ROut} {w w1 : World} (h : Does fC dv at_ o ms vs bs f w) (hb : Below w.heap.size w w1) : Does fC dv at_ o ms vs bs f w1 :=
  fun w' g base h1 h2 h3 h4 => h w' g base (Nat.le_trans hb.size h1) h2 (hb.trans (h3.mono hb.size)) h4
theorem alloc_sz (w : World) (x : Obj) : (w.alloc x).heap.size = w.heap.size + 1 := by simp
theorem five_boxes (w : World) (t0 t1 t2 t3 t4 : TypeId) (c0 c1 c2 c3 c4 : Array Value) :
    Blk (((((w.alloc (.cells c0 t0)).alloc (.cells c1 t1)).alloc (.cells c2 t2)).alloc (.cells c3 t3)).alloc (.cells c4 t4)) w.heap.size t0 c0 ∧
    Blk (((((w.alloc (.cells c0 t0)).alloc (.cells c1 t1)).alloc (.cells c2 t2)).alloc (.cells c3 t3)).alloc (.cells c4 t4)) (w.heap.size + 1) t1 c1 ∧
    Blk (((((w.alloc (.cells c0 t0)).alloc (.cells c1 t1)).alloc (.cells c2 t2)).alloc (.cells c3 t3)).alloc (.cells c4 t4)) (w.heap.size + 1 + 1) t2 c2 ∧
    Blk (((((w.alloc (.cells c0 t0)).alloc (.cells c1 t1)).alloc (.cells c2 t2)).alloc (.cells c3 t3)).alloc (.cells c4 t4)) (w.heap.size + 1 + 1 + 1) t3 c3 ∧
    Blk (((((w.alloc (.cells c0 t0)).alloc (.cells c1 t1)).alloc (.cells c2 t2)).alloc (.cells c3 t3)).alloc (.cells c4 t4)) (w.heap.size + 1 + 1 + 1 + 1) t4 c4 ∧
    Below w.heap.size w (((((w.alloc (.cells c0 t0)).alloc (.cells c1 t1)).alloc (.cells c2 t2)).alloc (.cells c3 t3)).alloc (.cells c4 t4)) := by
  have e1 := Blk.new (w.alloc (.cells c0 t0)) t1 c1
  have e2 := Blk.new ((w.alloc (.cells c0 t0)).alloc (.cells c1 t1)) t2 c2
  have e3 := Blk.new (((w.alloc (.cells c0 t0)).alloc (.cells c1 t1)).alloc (.cells c2 t2)) t3 c3
  have e4 := Blk.new ((((w.alloc (.cells c0 t0)).alloc (.cells c1 t1)).alloc (.cells c2 t2)).alloc (.cells c3 t3)) t4 c4
  simp only [alloc_sz] at e1 e2 e3 e4
  refine ⟨((((Blk.new _ _ _).alloc _).alloc _).alloc _).alloc _, ((e1.alloc _).alloc _).alloc _, (e2.alloc _).alloc _, e3.alloc _, e4, ?_⟩
  exact (((((Below.refl _ _).alloc (Nat.le_refl _) _).alloc (by simp) _).alloc (by simp; omega) _).alloc (by simp; omega) _).alloc (by simp; omega) _
end Go.Proofs.YtmnmmjobplbflaaGreatDoor
namespace Go.Proofs.YtmnmmjobplbflaaGreatDoor
open Go.ChangeShapes Go.WideShapes Go.ChangeAt Go.RowKit
open Go.ChangeMaps (open_string shut_string)
set_option linter.unusedVariables false
open Go.Maps
set_option maxRecDepth 100000
/-- a book whose tables are named -/
def BookX (w : World) (g base N b1 b2 b3 : Nat) (o : Bool) (ms : List Mb) (vs : List Iv) (bs : List Bn) : Prop :=
  Blk w g 116 #[.bool o, .map (some b1), .map (some b2), .map (some b3)] ∧ mM w b1 N ms ∧ mI w b2 N vs ∧ mB w b3 N bs ∧ (b1 ≠ b2 ∧ b1 ≠ b3 ∧ b2 ≠ b3) ∧ (base ≤ b1 ∧ base ≤ b2 ∧ base ≤ b3 ∧ base ≤ g)
section
variable {w w' : World} {g base N b1 b2 b3 : Nat} {o : Bool} {ms : List Mb} {vs : List Iv} {bs : List Bn}
theorem BookAt.x (h : BookAt w g base N o ms vs bs) : ∃ b1 b2 b3, BookX w g base N b1 b2 b3 o ms vs bs := h
theorem BookX.at_ (h : BookX w g base N b1 b2 b3 o ms vs bs) : BookAt w g base N o ms vs bs := ⟨b1, b2, b3, h⟩
theorem BookX.below (h : BookX w g base N b1 b2 b3 o ms vs bs) (hb : Below w.heap.size w w') : BookX w' g base N b1 b2 b3 o ms vs bs := by
  obtain ⟨hk, h1, h2, h3, r⟩ := h
  exact ⟨hk.below hb hk.lt, ownsMap_below h1 hb h1.lt, ownsMap_below h2 hb h2.lt, ownsMap_below h3 hb h3.lt, r⟩
theorem BookX.drew (h : BookX w g base N b1 b2 b3 o ms vs bs) : BookX w.drew g base N b1 b2 b3 o ms vs bs := h.below (Below.refl _ _).drew
theorem BookX.alloc (h : BookX w g base N b1 b2 b3 o ms vs bs) (x : Obj) : BookX (w.alloc x) g base N b1 b2 b3 o ms vs bs := h.below ((Below.refl _ _).alloc (Nat.le_refl _) _)
theorem BookX.base_le (h : BookX w g base N b1 b2 b3 o ms vs bs) : base ≤ w.heap.size := Nat.le_trans h.2.2.2.2.2.2.2.2 (Nat.le_of_lt h.1.lt)
/-- cells of another block -/
theorem BookX.far (h : BookX w g base N b1 b2 b3 o ms vs bs) {a : Addr} (ha : a.block ≠ g) (hc : (w.cell? a).isSome = true) (v : Value) : BookX (w.setCell a v) g base N b1 b2 b3 o ms vs bs := by
  obtain ⟨hk, h1, h2, h3, r⟩ := h
  have q : ∀ {b N D}, w.ownsMap Tryz.prog 2 heldR b N D → b ≠ a.block := fun hm e => by
    obtain ⟨es, cl, hb, _⟩ := hm
    rw [e] at hb
    simp [World.cell?, hb] at hc
  exact ⟨hk.far (fun e => ha e.symm) _, h1.setCell (q h1) _, h2.setCell (q h2) _, h3.setCell (q h3) _, r⟩

theorem BookX.dropM (h : BookX w g base N b1 b2 b3 o ms vs bs) (t : Int) (hw : (Lit.int .i64 t).wf = true) (ty : TypeId) :
    ∃ w', (Builtin.delete_ #[112, 2] ty #[.map (some b1), .int .i64 t]).run Tryz.prog w = .ok (.tuple #[]) w' ∧ BookX w' g base N b1 b2 b3 o (dropK Mb.id t ms) vs bs ∧ w.mapTurned w' b1 := by
  obtain ⟨hk, h1, h2, h3, r1, r2⟩ := h
  obtain ⟨w', hrun, hown, ht⟩ := h1.drop kInt Tryz.underlying112 (keyOf_int_mk Tryz.underlying2 hw) ty
  rw [tab_del] at hown
  exact ⟨w', hrun, ⟨hk.turned ht, hown, h2.kept ht.grown (by intro e; cases e; exact r1.1 rfl), h3.kept ht.grown (by intro e; cases e; exact r1.2.1 rfl), r1, r2⟩, ht⟩
theorem BookX.putM (h : BookX w g base N b1 b2 b3 o ms vs bs) (hN : N < maxLen) (x : Mb) (hw : (Lit.int .i64 x.id).wf = true) :
    ∃ w', (Instr.mapUpdate 112 (.map (some b1)) (.int .i64 x.id) (mbV x)).run Tryz.prog w = .ok () w' ∧ BookX w' g base (N + 1) b1 b2 b3 o (putK Mb.id x ms) vs bs ∧ w.mapTurned w' b1 := by
  obtain ⟨hk, h1, h2, h3, r1, r2⟩ := h
  obtain ⟨w', hrun, hown, ht⟩ := h1.store kInt Tryz.underlying112 hN (keyOf_int_mk Tryz.underlying2 hw) (show heldR (mbV x) = some (.held (mbV x), []) from rfl)
  rw [tab_put] at hown
  exact ⟨w', hrun, ⟨hk.turned ht, hown, (h2.kept ht.grown (by intro e; cases e; exact r1.1 rfl)).mono (Nat.le_succ _), (h3.kept ht.grown (by intro e; cases e; exact r1.2.1 rfl)).mono (Nat.le_succ _), r1, r2⟩, ht⟩

theorem BookX.dropI (h : BookX w g base N b1 b2 b3 o ms vs bs) (t : Int) (hw : (Lit.int .i64 t).wf = true) (ty : TypeId) :
    ∃ w', (Builtin.delete_ #[113, 2] ty #[.map (some b2), .int .i64 t]).run Tryz.prog w = .ok (.tuple #[]) w' ∧ BookX w' g base N b1 b2 b3 o ms (dropK Iv.id t vs) bs ∧ w.mapTurned w' b2 := by
  obtain ⟨hk, h1, h2, h3, r1, r2⟩ := h
  obtain ⟨w', hrun, hown, ht⟩ := h2.drop kInt Tryz.underlying113 (keyOf_int_mk Tryz.underlying2 hw) ty
  rw [tab_del] at hown
  exact ⟨w', hrun, ⟨hk.turned ht, h1.kept ht.grown (by intro e; cases e; exact r1.1 rfl), hown, h3.kept ht.grown (by intro e; cases e; exact r1.2.2 rfl), r1, r2⟩, ht⟩
theorem BookX.putI (h : BookX w g base N b1 b2 b3 o ms vs bs) (hN : N < maxLen) (x : Iv) (hw : (Lit.int .i64 x.id).wf = true) :
    ∃ w', (Instr.mapUpdate 113 (.map (some b2)) (.int .i64 x.id) (ivV x)).run Tryz.prog w = .ok () w' ∧ BookX w' g base (N + 1) b1 b2 b3 o ms (putK Iv.id x vs) bs ∧ w.mapTurned w' b2 := by
  obtain ⟨hk, h1, h2, h3, r1, r2⟩ := h
  obtain ⟨w', hrun, hown, ht⟩ := h2.store kInt Tryz.underlying113 hN (keyOf_int_mk Tryz.underlying2 hw) (show heldR (ivV x) = some (.held (ivV x), []) from rfl)
  rw [tab_put] at hown
  exact ⟨w', hrun, ⟨hk.turned ht, (h1.kept ht.grown (by intro e; cases e; exact r1.1 rfl)).mono (Nat.le_succ _), hown, (h3.kept ht.grown (by intro e; cases e; exact r1.2.2 rfl)).mono (Nat.le_succ _), r1, r2⟩, ht⟩
theorem BookX.dropB (h : BookX w g base N b1 b2 b3 o ms vs bs) (t : Int) (hw : (Lit.int .i64 t).wf = true) (ty : TypeId) :
    ∃ w', (Builtin.delete_ #[114, 2] ty #[.map (some b3), .int .i64 t]).run Tryz.prog w = .ok (.tuple #[]) w' ∧ BookX w' g base N b1 b2 b3 o ms vs (dropK Bn.id t bs) ∧ w.mapTurned w' b3 := by
  obtain ⟨hk, h1, h2, h3, r1, r2⟩ := h
  obtain ⟨w', hrun, hown, ht⟩ := h3.drop kInt Tryz.underlying114 (keyOf_int_mk Tryz.underlying2 hw) ty
  rw [tab_del] at hown
  exact ⟨w', hrun, ⟨hk.turned ht, h1.kept ht.grown (by intro e; cases e; exact r1.2.1 rfl), h2.kept ht.grown (by intro e; cases e; exact r1.2.2 rfl), hown, r1, r2⟩, ht⟩
theorem BookX.putB (h : BookX w g base N b1 b2 b3 o ms vs bs) (hN : N < maxLen) (x : Bn) (hw : (Lit.int .i64 x.id).wf = true) :
    ∃ w', (Instr.mapUpdate 114 (.map (some b3)) (.int .i64 x.id) (bnV x)).run Tryz.prog w = .ok () w' ∧ BookX w' g base (N + 1) b1 b2 b3 o ms vs (putK Bn.id x bs) ∧ w.mapTurned w' b3 := by
  obtain ⟨hk, h1, h2, h3, r1, r2⟩ := h
  obtain ⟨w', hrun, hown, ht⟩ := h3.store kInt Tryz.underlying114 hN (keyOf_int_mk Tryz.underlying2 hw) (show heldR (bnV x) = some (.held (bnV x), []) from rfl)
  rw [tab_put] at hown
  exact ⟨w', hrun, ⟨hk.turned ht, (h1.kept ht.grown (by intro e; cases e; exact r1.2.1 rfl)).mono (Nat.le_succ _), (h2.kept ht.grown (by intro e; cases e; exact r1.2.2 rfl)).mono (Nat.le_succ _), hown, r1, r2⟩, ht⟩
end
/-- what a change must leave -/
abbrev Left (g base : Nat) (f : ROut) (W : World) (e : Ending) (w'' : World) : Prop := ((f.ok = true ∧ e = .returned .nilIface ∧ ∃ N, BookAt w'' g base N f.o f.ms f.vs f.bs) ∨ (f.ok = false ∧ ∃ t v, e = .returned (.iface t v))) ∧ Below base W w''
theorem findM_find {ms : List Mb} {t : Int} : findM ms t = ms.find? (fun x => decide (x.id = t)) := rfl
theorem RoomV.ok {ms : List Mb} {vs : List Iv} {bs : List Bn} (h : RoomV ms vs bs) {o b : Bool} : ROk ⟨o, ms, vs, bs, b⟩ :=
  ⟨h.r1, h.r2, h.r3, Nat.le_trans h.l1 (by decide), Nat.le_trans h.l2 (by decide), Nat.le_trans h.l3 (by decide), fun x hx => wf_id (h.s1 x hx).2, fun x hx => wf_id (h.s2 x hx).2, fun x hx => wf_id (h.s3 x hx).2⟩
theorem ins_len {α : Type} {k : α → Int} (x : α) : ∀ xs : List α, (insK k x xs).length = xs.length + 1
  | [] => rfl
  | y :: r => by
    rw [insK]
    split
    · simp
    · simp [ins_len x r]
theorem put_le {α : Type} {k : α → Int} (x : α) (xs : List α) : (putK k x xs).length ≤ xs.length + 1 := by
  rw [putK, ins_len]
  exact Nat.succ_le_succ drop_len
end Go.Proofs.YtmnmmjobplbflaaGreatDoor
