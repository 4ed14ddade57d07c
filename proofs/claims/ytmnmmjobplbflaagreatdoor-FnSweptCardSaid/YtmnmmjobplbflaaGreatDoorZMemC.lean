import Derived.Test.YtmnmmjobplbflaaGreatDoorChecked
import Derived.WalkKit
import Derived.ProofKit
import Derived.OpenShut
import Derived.ShutString
import Derived.ChangeOld
import Derived.Below
import Derived.Lib.Hide
import Derived.Test.YtmnmmjobplbflaaGreatDoorZBookC
namespace Go.Proofs.YtmnmmjobplbflaaGreatDoor
open Go.ChangeShapes Go.WideShapes Go.ChangeAt Go.RowKit
open Go.ChangeMaps (open_string shut_string)
set_option linter.unusedVariables false
open Go.Maps
set_option maxRecDepth 100000
/-- what a look-up in a table gives -/
theorem look_tab {α : Type} {k : α → Int} {v : α → Value} {P : Program} {kt mt et : TypeId} (K : Keyed P kt) (ht : P.underlying mt = some (.map kt et)) (hi : P.underlying kt = some (.int .i64)) {z : Value} {w : World} (hz : (zeroValue et).run P w = .ok z w) {b N : Nat} {xs : List α}
    (h : w.ownsMap P kt heldR b N (tabD k v xs)) (t : Int) (hw : (Lit.int .i64 t).wf = true) :
    (∀ x, xs.find? (fun x => decide (k x = t)) = some x → (Instr.lookup mt (.map (some b)) (.int .i64 t) true).run P w = .ok (.tuple #[v x, .bool true]) w ∧ (Instr.lookup mt (.map (some b)) (.int .i64 t) false).run P w = .ok (v x) w) ∧
    (xs.find? (fun x => decide (k x = t)) = none → (Instr.lookup mt (.map (some b)) (.int .i64 t) true).run P w = .ok (.tuple #[z, .bool false]) w ∧ (Instr.lookup mt (.map (some b)) (.int .i64 t) false).run P w = .ok z w) := by
  obtain ⟨u, ps, hrun, hv⟩ := h.look_ok K ht hz (show heldR z = some (.held z, []) from rfl) (keyOf_int_mk hi hw)
  obtain ⟨u', ps', hrun', hv'⟩ := h.lookup K ht hz (show heldR z = some (.held z, []) from rfl) (keyOf_int_mk hi hw)
  rw [tab_has] at hrun
  rw [tab_at] at hv hv'
  constructor
  · intro x hx
    rw [hx] at hv hv'
    simp only [heldR, Option.some.injEq, Prod.mk.injEq, DataW.held.injEq] at hv hv'
    have hm : t ∈ xs.map k := by
      have h1 := List.mem_of_find?_eq_some hx
      have h2 : k x = t := by simpa using List.find?_some hx
      rw [← h2]; exact List.mem_map_of_mem h1
    rw [decide_eq_true hm] at hrun
    rw [hrun, hv.1, hrun', hv'.1]
    exact ⟨rfl, rfl⟩
  · intro hx
    rw [hx] at hv hv'
    simp only [heldR, Option.some.injEq, Prod.mk.injEq, DataW.held.injEq] at hv hv'
    have hm : ¬ t ∈ xs.map k := fun hm => by
      obtain ⟨z, hz, _⟩ := findK_mem hm
      rw [hx] at hz; cases hz
    rw [decide_eq_false hm] at hrun
    rw [hrun, hv.1, hrun', hv'.1]
    exact ⟨rfl, rfl⟩
/-- the error for who is no member -/
def ErrN (w : World) (a : Addr) : Prop := w.cell? ⟨0, 0, none⟩ = some (.iface 214 (.pointer (some a)))
theorem ErrN.below {w w' : World} {a : Addr} (h : ErrN w a) (hb : Below w.heap.size w w') : ErrN w' a := (hb.cell (World.block_lt_of_cell? w _ h)).trans h
theorem zeroM (w : World) : (zeroValue 66).run Tryz.prog w = .ok (.agg #[.int .i64 0, .int .i64 0, .int .i64 0, .int .i64 0]) w := by kernel_rfl
theorem member_any (g base N : Nat) (o : Bool) (ms : List Mb) (vs : List Iv) (bs : List Bn) (t : Int) (a : Addr) (w : World) (h : BookAt w g base N o ms vs bs) (hw : (Lit.int .i64 t).wf = true) :
    (∀ m, findM ms t = some m → Calls Tryz.prog 31 #[.pointer (some ⟨g, 0, none⟩), .int .i64 t] w fun e w' => e = .returned (.tuple #[.agg #[.int .i64 m.id, .int .i64 m.role, .int .i64 m.since, .int .i64 m.quiet], .nilIface]) ∧ Below w.heap.size w w') ∧
    (findM ms t = none → ErrN w a → Calls Tryz.prog 31 #[.pointer (some ⟨g, 0, none⟩), .int .i64 t] w fun e w' => e = .returned (.tuple #[.agg #[.int .i64 0, .int .i64 0, .int .i64 0, .int .i64 0], .iface 214 (.pointer (some a))]) ∧ Below w.heap.size w w') := by
  obtain ⟨b1, b2, b3, hk, h1, h2, h3, _, _⟩ := h
  have hl := look_tab kInt Tryz.underlying112 Tryz.underlying2 (zeroM _) (h1.alloc (.cells #[.int .i64 0, .int .i64 0, .int .i64 0, .int .i64 0] 66)) t hw
  have hk1 := hk.cell 1
  have hkl := hk.lt
  constructor
  · intro m hm
    have hr := (hl.1 m hm).1
    simp only [mbV] at hr
    clear hl hm h1 h2 h3 hk
    go_enter Tryz.func31, Tryz.ntmps31
    go_wp2
    exact bodyPost_ret (v := .tuple #[.agg #[.int .i64 m.id, .int .i64 m.role, .int .i64 m.since, .int .i64 m.quiet], .nilIface]) (by simp [results, Tryz.results31, go_sem]) rfl ⟨rfl, by repeat (first | exact Below.refl _ _ | refine Below.setCell ?_ (by simp) _ | refine Below.alloc ?_ (by first | (simp; omega) | simp) _)⟩
  · intro hm he
    have hr := (hl.2 hm).1
    clear hl hm h1 h2 h3 hk
    unfold ErrN at he
    have hel := World.block_lt_of_cell? w _ he
    go_enter Tryz.func31, Tryz.ntmps31
    go_wp2
    obtain ⟨q0, q1, hb0⟩ := two_boxes w 66 66 #[.int .i64 0, .int .i64 0, .int .i64 0, .int .i64 0] #[.int .i64 0, .int .i64 0, .int .i64 0, .int .i64 0]
    have he1 := (hb0.cell (p := ⟨0, 0, none⟩) hel).trans he
    generalize ((w.alloc (.cells #[.int .i64 0, .int .i64 0, .int .i64 0, .int .i64 0] 66)).alloc (.cells #[.int .i64 0, .int .i64 0, .int .i64 0, .int .i64 0] 66)) = W at *
    have r0 : W.cell? ⟨w.heap.size, 0, none⟩ = some (.int .i64 0) := q0.cell 0
    have r1 : W.cell? ⟨w.heap.size, 1, none⟩ = some (.int .i64 0) := q0.cell 1
    have r2 : W.cell? ⟨w.heap.size, 2, none⟩ = some (.int .i64 0) := q0.cell 2
    have r3 : W.cell? ⟨w.heap.size, 3, none⟩ = some (.int .i64 0) := q0.cell 3
    have f0 := q0.frozen 0; have f1 := q0.frozen 1; have f2 := q0.frozen 2; have f3 := q0.frozen 3
    have hel' : 0 < w.heap.size := hel
    have hne : ¬ w.heap.size = 0 := by omega
    have hne' : ¬ 0 = w.heap.size := by omega
    go_region
    all_goals (try go_wp2)
    all_goals
      exact bodyPost_ret (v := .tuple #[.agg #[.int .i64 0, .int .i64 0, .int .i64 0, .int .i64 0], .iface 214 (.pointer (some a))]) (by simp [results, Tryz.results31, go_sem, r0, r1, r2, r3]) rfl ⟨rfl, (below_set4 hb0 (Nat.le_refl _) _ _ _ _ _ _ _ _).drew⟩
set_option maxHeartbeats 800000 in
theorem impl_RoleOf_any (o : Bool) (A1 A2 A3 : Option Addr) (n1 c1 n2 c2 n3 c3 : Nat) (ms : List Mb) (vs : List Iv) (bs : List Bn) (t : Int) (a : Addr) (w : World)
    (h : RoomAt w w.heap.size A1 n1 A2 n2 A3 n3 ms vs bs) (hn : n1 + n2 + n3 ≤ 1048576) (he : ErrN w a) (hw : (Lit.int .i64 t).wf = true) :
    Calls Tryz.prog 10 #[.agg #[.bool o, .slice A1 n1 c1, .slice A2 n2 c2, .slice A3 n3 c3], .int .i64 t] w fun e w' => e = .returned (.tuple #[.int .i64 (if roomB ms vs bs = true then roleAt ms t else 0), .bool (roomB ms vs bs && decide (t ∈ mids ms))]) ∧ Below w.heap.size w w' := by
  go_enter Tryz.func10, Tryz.ntmps10
  go_wp2_with fail
  obtain ⟨k0, hb0⟩ := one_box w 28 #[.bool o, .slice A1 n1 c1, .slice A2 n2 c2, .slice A3 n3 c3]
  generalize w.alloc (.cells #[.bool o, .slice A1 n1 c1, .slice A2 n2 c2, .slice A3 n3 c3] 28) = W at *
  have h := (h.below hb0).more hb0.size
  have he := he.below hb0
  have HL1 := Lib.hid h.1.1; have HL2 := Lib.hid h.2.1.1; have HL3 := Lib.hid h.2.2.1
  cases hb : roomB ms vs bs with
  | false =>
    go_at_call 12; refine (impl_ValidRoom_any _ _ _ _ _ _ _ _ _ _ _ _ _ _ h hn).mono ?_; rw [hb]; rintro e w1 ⟨rfl, hb1⟩
    have hb0 := hb0.trans (hb1.mono hb0.size)
    go_wp2
    all_goals exact bodyPost_ret (v := .tuple #[.int .i64 0, .bool false]) (by simp [results, Tryz.results10, go_sem]) rfl ⟨by simp, hb0⟩
  | true =>
    have hv := roomB_iff.1 hb
    go_at_call 12; refine (impl_ValidRoom_any _ _ _ _ _ _ _ _ _ _ _ _ _ _ h hn).mono ?_; rw [hb]; rintro e w1 ⟨rfl, hb1⟩
    have h := h.to hb1
    have he := he.below hb1
    have k0 := k0.below hb1 k0.lt
    have hb0 := hb0.trans (hb1.mono hb0.size)
    clear hb1
    have l0 := k0.cell 0; have l1 := k0.cell 1; have l2 := k0.cell 2; have l3 := k0.cell 3
    go_wp2_with fail
    go_at_call 30; refine (bookOf_any _ _ _ _ _ _ _ _ _ _ _ _ _ _ h (by have := hv.l1; have := hv.l2; have := hv.l3; have := HL1.out; have := HL2.out; have := HL3.out; omega) hv.facts).mono ?_; rintro e w2 ⟨g, rfl, hB, hb1⟩
    have he := he.below hb1
    have hb0 := hb0.trans (hb1.mono hb0.size)
    clear hb1 l0 l1 l2 l3
    go_wp2_with fail
    obtain ⟨hy, hno⟩ := member_any g _ _ _ _ _ _ t a _ hB hw
    cases hf : findM ms t with
    | none =>
      have HT := Lib.hid (findM_none.1 hf)
      have HA := Lib.hid (show roleAt ms t = 0 by simp [roleAt, hf])
      go_at_call 31; refine (hno hf he).mono ?_; rintro e w3 ⟨rfl, hb1⟩
      have hb0 := hb0.trans (hb1.mono hb0.size)
      clear hb1 hy hno
      go_wp2
      obtain ⟨q0, hb1⟩ := one_box w3 66 #[.int .i64 0, .int .i64 0, .int .i64 0, .int .i64 0]
      generalize w3.alloc (.cells #[.int .i64 0, .int .i64 0, .int .i64 0, .int .i64 0] 66) = W3 at *
      have hb0 := hb0.trans (hb1.mono hb0.size)
      clear hb1
      have r1 : W3.cell? ⟨w3.heap.size, 1, none⟩ = some (.int .i64 0) := q0.cell 1
      go_region
      all_goals (try go_wp2)
      all_goals exact bodyPost_ret (v := .tuple #[.int .i64 0, .bool false]) (by simp [results, Tryz.results10, go_sem]) rfl ⟨by rw [HA.out, decide_eq_false HT.out], hb0.drew⟩
    | some m =>
      have HT := Lib.hid (findM_mem hf)
      have HA := Lib.hid (show roleAt ms t = m.role by simp [roleAt, hf])
      go_at_call 31; refine (hy m hf).mono ?_; rintro e w3 ⟨rfl, hb1⟩
      have hb0 := hb0.trans (hb1.mono hb0.size)
      clear hb1 hy hno
      go_wp2
      obtain ⟨q0, hb1⟩ := one_box w3 66 #[.int .i64 m.id, .int .i64 m.role, .int .i64 m.since, .int .i64 m.quiet]
      generalize w3.alloc (.cells #[.int .i64 m.id, .int .i64 m.role, .int .i64 m.since, .int .i64 m.quiet] 66) = W3 at *
      have hb0 := hb0.trans (hb1.mono hb0.size)
      clear hb1
      have r1 : W3.cell? ⟨w3.heap.size, 1, none⟩ = some (.int .i64 m.role) := q0.cell 1
      go_region
      all_goals (try go_wp2)
      all_goals exact bodyPost_ret (v := .tuple #[.int .i64 m.role, .bool true]) (by simp [results, Tryz.results10, go_sem]) rfl ⟨by rw [HA.out, decide_eq_true HT.out], hb0.drew⟩
end Go.Proofs.YtmnmmjobplbflaaGreatDoor
