import Derived.Test.YtgomffcdoglbfaaChecked
import Derived.WalkKit
import Derived.ProofKit
import Derived.OpenShut
import Derived.ShutString
import Derived.ChangeOld
import Derived.Below
import Derived.Lib.Hide
import Derived.Conc.LoneCalls
import Derived.Conc.LoneSelect
import Derived.KernelRfl
import Derived.Laws.Rows
import Derived.MapKept
import Derived.Maps.OwnSet
import Derived.Maps.OwnOps
import Derived.Test.YtgomffcdoglbfaaZChanW
import Derived.Test.YtgomffcdoglbfaaZLookT
namespace Go.Proofs.Ytgomffcdoglbfaa
open Go.ChangeShapes Go.WideShapes Go.ChangeAt Go.RowKit
open Go.ChangeMaps (open_string shut_string)
set_option linter.unusedVariables false
open Go.Conc Go.Maps
set_option maxRecDepth 100000
/-- a watch: its map and its watchers' channels -/
structure WatchAt (w : World) (base g N : Nat) (xs : List Wt) : Prop where
  lo : base ≤ g
  own : w.ownsMap Try.prog 2 heldR g N (tabD Wt.id wtV xs)
  rise : Rise Wt.id xs
  chan : ∀ x ∈ xs, base ≤ x.ch ∧ Chan w x.ch x.til
  apart : xs.Pairwise fun x y => x.ch ≠ y.ch
def wblk (g : Nat) (xs : List Wt) : List Nat := g :: xs.map Wt.ch
theorem Chan.lt {w : World} {c : Nat} {v : Int} (h : Chan w c v) : c < w.heap.size := by
  obtain ⟨s, r, hc⟩ := h
  rcases Nat.lt_or_ge c w.heap.size with hlt | hge
  · exact hlt
  · rw [Array.getElem?_eq_none hge] at hc; cases hc
theorem WatchAt.ne {w : World} {base g N : Nat} {xs : List Wt} (h : WatchAt w base g N xs) {x : Wt} (hx : x ∈ xs) : x.ch ≠ g := by
  intro e
  obtain ⟨s, r, hc⟩ := (h.chan x hx).2
  obtain ⟨es, cl, he, _⟩ := h.own
  rw [e, he] at hc
  cases hc
theorem WatchAt.lt {w : World} {base g N : Nat} {xs : List Wt} (h : WatchAt w base g N xs) : ∀ k ∈ wblk g xs, base ≤ k ∧ k < w.heap.size := by
  intro k hk
  rcases List.mem_cons.1 hk with rfl | hk
  · exact ⟨h.lo, h.own.lt⟩
  · obtain ⟨x, hx, rfl⟩ := List.mem_map.1 hk
    exact ⟨(h.chan x hx).1, (h.chan x hx).2.lt⟩
theorem Chan.stir {w w' : World} {c : Nat} {v : Int} {ks : List Nat} (h : Chan w c v) (hs : Stir w w' ks) (hn : c ∉ ks) : Chan w' c v := by
  have hl := h.lt
  obtain ⟨s, r, hc⟩ := h
  exact ⟨s, r, (hs.block c hl hn).trans hc⟩
theorem WatchAt.stir {w w' : World} {base g N : Nat} {xs : List Wt} {ks : List Nat} (h : WatchAt w base g N xs) (hs : Stir w w' ks) (hd : ∀ k ∈ wblk g xs, k ∉ ks) : WatchAt w' base g N xs := by
  refine ⟨h.lo, ?_, h.rise, fun x hx => ⟨(h.chan x hx).1, (h.chan x hx).2.stir hs (hd _ (List.mem_cons_of_mem _ (List.mem_map_of_mem hx)))⟩, h.apart⟩
  obtain ⟨es, clock, he, r⟩ := h.own
  exact ⟨es, clock, (hs.block g h.own.lt (hd g (by simp [wblk]))).trans he, r⟩
theorem WatchAt.below {w w' : World} {base g N : Nat} {xs : List Wt} (h : WatchAt w base g N xs) (hb : Below w.heap.size w w') : WatchAt w' base g N xs := h.stir (ks := []) (Stir.of_below hb) (by simp)
theorem WatchAt.mono {w : World} {base base' g N : Nat} {xs : List Wt} (h : WatchAt w base g N xs) (hb : base' ≤ base) : WatchAt w base' g N xs := ⟨Nat.le_trans hb h.lo, h.own, h.rise, fun x hx => ⟨Nat.le_trans hb (h.chan x hx).1, (h.chan x hx).2⟩, h.apart⟩
theorem zeroC (w : World) : (zeroValue 120).run Try.prog w = .ok (.chan none) w := by kernel_rfl
theorem eqC_some (c : Nat) (w : World) : (binOp .eql 120 (.chan (some c)) (.chan none)).run Try.prog w = .ok (.bool false) w := by kernel_rfl
theorem eqC_none (w : World) : (binOp .eql 120 (.chan none) (.chan none)).run Try.prog w = .ok (.bool true) w := by kernel_rfl
theorem mkC (w : World) : (Instr.makeChan 120 (.int .i64 1)).run Try.prog w = .ok (.chan (some w.heap.size)) (w.alloc (.chan 1 #[] false 0 0 false)) := by
  obtain ⟨i, hi, hb⟩ : ∃ i, Try.prog.info? 2 = some i ∧ i.bytes = 8 := by
    have h : (Try.prog.info? 2).map (·.bytes) = some 8 := by kernel_rfl
    obtain ⟨i, hi, hb⟩ := Option.map_eq_some_iff.1 h
    exact ⟨i, hi, hb⟩
  simpa using run_makeChan (P := Try.prog) (w := w) Try.underlying120 hi .i64 1 (by omega) (by rw [hb]; omega)
theorem extract_one (v : Value) : (#[v] : Array Value).extract 1 (#[v] : Array Value).size = #[] := rfl
set_option maxHeartbeats 3200000 in
/-- a number told of a member that has a watcher -/
theorem tell_in (base g N : Nat) (xs : List Wt) (t n : Int) (x : Wt) (w : World) (h : WatchAt w base g N xs) (hf : findW xs t = some x) (wft : (Lit.int .i64 t).wf = true) :
    Calls Try.prog 74 #[.map (some g), .int .i64 t, .int .i64 n] w fun e w' => e = .returned (.tuple #[]) ∧ WatchAt w' base g N (setW xs t (max x.til n)) ∧ Stir w w' (wblk g xs) := by
  obtain ⟨hx, hxt⟩ := findW_mem hf
  have HW := Lib.hid h
  obtain ⟨s, r, hc⟩ := (h.chan x hx).2
  have hlt := (h.chan x hx).2.lt
  have hlk := ((look_tabT kInt Try.underlying107 Try.underlying2 (zeroC w) h.own t wft).1 x hf).2
  simp only [wtV] at hlk
  have HX := Lib.hid hx
  have HT := Lib.hid hxt
  obtain ⟨c, hxc⟩ : ∃ c, x.ch = c := ⟨_, rfl⟩
  obtain ⟨v, hxv⟩ : ∃ v, x.til = v := ⟨_, rfl⟩
  rw [hxc] at hc hlt hlk
  rw [hxv] at hc
  have HC := Lib.hid hxc
  have HV := Lib.hid hxv
  clear h hf hx hxt hxc hxv
  have eqs := eqC_some c
  have key : ∀ m : Int, max v n = m → (if n > v then n else v) = m → Calls Try.prog 74 #[.map (some g), .int .i64 t, .int .i64 n] w fun e w' => e = .returned (.tuple #[]) ∧ w' = (w.setChan c 1 #[] false s (r + 1) false).setChan c 1 #[.int .i64 m] false (s + 1) (r + 1) false := by
    intro m hm1 hm
    refine calls_of_loneTo fun cs => ?_
    have e : Frame.enter Try.prog 74 #[.map (some g), .int .i64 t, .int .i64 n] .normal = (Go.Conc.base 74).at ⟨#[.map (some g), .int .i64 t, .int .i64 n, undef, undef, undef, undef, undef, undef, undef, undef, undef, undef, undef, undef, undef, undef, undef, undef, undef, undef, undef, undef, undef, undef, undef, undef, undef, undef], []⟩ [.code (Try.f74.body.getD .skip)] := by
      simp [Frame.enter, Frame.at, Try.func74, Go.Conc.base, Try.f74]
    rw [e]
    clear hm1
    refine LoneTo.goes (n := 60) ?_
    simp only [Try.f74, Option.getD_some]
    s_c stepG_seq
    s_c stepG_seq
    s_reg
    s_op
    s_op
    s_op
    s_op
    s_c stepG_region_end
    s_cond false
    s_c stepG_skip
    s_c stepG_seq
    s_reg
    s_op
    s_op
    s_op
    s_op
    s_c stepG_region_end
    s_c stepG_seq
    s_reg
    s_op
    s_c stepG_region_end
    s_c stepG_seq
    s_reg
    s_stop
    refine LoneTo.step (step_lone_select_recv_buf (c := c) (z := .int .i64 0) (cap := 1) (buf := #[.int .i64 v]) (closed := false) (s := s) (r := r) (tm := false) (stepG_comm (cases := #[rcase c (.int .i64 0)]) (blocking := false) (shape := .select) (w' := w) rfl rfl (by decide) (by simp [go_sem, execOp, rcase, Act.eval])) hc (by simp)) ?_
    rw [Frame.finish_at]
    simp only [show (#[Value.int IntKind.i64 v] : Array Value).getD 0 undef = .int .i64 v from rfl, extract_one]
    walk_nrm
    have hc1 := heap_setChan w c 1 #[] false s (r + 1) false hlt
    refine LoneTo.goes (n := 30) ?_
    s_op
    s_op
    s_c stepG_region_end
    s_c stepG_block
    s_cond true
    s_c stepG_seq
    s_reg
    s_op
    s_op
    s_c stepG_region_end
    s_reg
    s_op
    s_op
    s_op
    s_op
    s_stop
    refine LoneTo.step (step_lone_send_room (c := c) (cap := 1) (buf := #[]) (s := s) (r := r + 1) (tm := false) (stepG_comm (cases := #[scase c (.int .i64 m) (.tuple #[])]) (blocking := true) (shape := .send) (w' := w.setChan c 1 #[] false s (r + 1) false) rfl rfl (by decide) (by simp [execOp, scase, Act.eval])) hc1 (by simp)) ?_
    rw [Frame.finish_at]
    walk_nrm
    refine LoneTo.goes (n := 30) ?_
    s_c stepG_region_end
    s_c stepG_inBlock
    s_c stepG_end
    s_stop
    exact LoneTo.done ⟨.returned (.tuple #[]), _, rfl, ⟨rfl, by simp⟩, rfl, rfl, rfl, rfl, _, Try.func74, by simp [results, Try.f74, Frame.at]⟩
  refine (key _ rfl (by by_cases h : n > v <;> simp [h] <;> omega)).mono ?_
  rintro e w' ⟨rfl, rfl⟩
  have hw := HW.out
  have hcm : c ∈ wblk g xs := List.mem_cons_of_mem _ (HC.out ▸ List.mem_map_of_mem HX.out)
  have hst : Stir w ((w.setChan c 1 #[] false s (r + 1) false).setChan c 1 #[.int .i64 (max v n)] false (s + 1) (r + 1) false) [c] := (Stir.chan w c 1 #[] false s (r + 1) false (by simp)).trans (Stir.chan _ c _ _ false _ _ false (by simp))
  have hnew : Chan ((w.setChan c 1 #[] false s (r + 1) false).setChan c 1 #[.int .i64 (max v n)] false (s + 1) (r + 1) false) c (max v n) := ⟨s + 1, r + 1, heap_setChan (w.setChan c 1 #[] false s (r + 1) false) c 1 #[.int .i64 (max v n)] false (s + 1) (r + 1) false (by rw [size_setChan]; exact hlt)⟩
  generalize (w.setChan c 1 #[] false s (r + 1) false).setChan c 1 #[.int .i64 (max v n)] false (s + 1) (r + 1) false = w' at *
  have hgc : g ≠ c := fun e => hw.ne HX.out (HC.out.trans e.symm)
  rw [HV.out]
  refine ⟨rfl, ⟨hw.lo, ?_, set_rise hw.rise, fun y hy => ?_, set_apart hw.apart⟩, hst.more (by intro k hk _; simp at hk; subst hk; exact hcm)⟩
  · rw [set_tab]
    obtain ⟨es, clock, he, q⟩ := hw.own
    exact ⟨es, clock, (hst.block g hw.own.lt (by simpa using hgc)).trans he, q⟩
  · obtain ⟨z, hz, e1, e2, h3⟩ := set_mem hy
    rw [e1]
    refine ⟨(hw.chan z hz).1, ?_⟩
    rcases h3 with ⟨e3, e4⟩ | ⟨e3, e4⟩
    · obtain rfl := rise_same hw.rise hz HX.out (e3.trans HT.out.symm)
      rw [e4, HC.out]; exact hnew
    · rw [e4]
      refine (hw.chan z hz).2.stir hst ?_
      intro hm
      simp at hm
      exact e3 (apart_same hw.apart hz HX.out (hm.trans HC.out.symm) ▸ HT.out)
set_option maxHeartbeats 3200000 in
/-- a number told of a member that has no watcher yet -/
theorem tell_new (base g N : Nat) (xs : List Wt) (t n : Int) (w : World) (h : WatchAt w base g N xs) (hB : base ≤ w.heap.size) (hN : N ≤ 1000000) (hf : findW xs t = none) (wft : (Lit.int .i64 t).wf = true) :
    Calls Try.prog 74 #[.map (some g), .int .i64 t, .int .i64 n] w fun e w' => e = .returned (.tuple #[]) ∧ WatchAt w' base g (N + 1) (putK Wt.id ⟨t, n, w.heap.size⟩ xs) ∧ Stir w w' (wblk g xs) := by
  have HW := Lib.hid h
  have HF := Lib.hid hf
  have hlk0 := ((look_tabT kInt Try.underlying107 Try.underlying2 (zeroC w) h.own t wft).2 hf).2
  have hmk := mkC w
  have hgl := h.own.lt
  obtain ⟨w2, hrun, hown2, hturn⟩ := (h.own.alloc (.chan 1 #[] false 0 0 false)).store kInt Try.underlying107 (by unfold maxLen; omega) (keyOf_int_mk Try.underlying2 wft) (show heldR (.chan (some w.heap.size)) = some (.held (wtV ⟨t, n, w.heap.size⟩), []) from rfl)
  rw [show DataW.put (tabD Wt.id wtV xs) (.int .i64 t) (.held (wtV ⟨t, n, w.heap.size⟩)) = tabD Wt.id wtV (putK Wt.id ⟨t, n, w.heap.size⟩ xs) from tab_put (k := Wt.id) (v := wtV) ⟨t, n, w.heap.size⟩ xs] at hown2
  have hr2 : Rise Wt.id (putK Wt.id ⟨t, n, w.heap.size⟩ xs) := put_rise h.rise
  have hlk := ((look_tabT kInt Try.underlying107 Try.underlying2 (zeroC w2) hown2 t wft).1 ⟨t, n, w.heap.size⟩ (Rise_find (k := Wt.id) hr2 (z := ⟨t, n, w.heap.size⟩) (put_mem.2 (.inl rfl)))).2
  simp only [wtV] at hlk
  have hc1 : (w.alloc (.chan 1 #[] false 0 0 false)).heap[w.heap.size]? = some (.chan 1 #[] false 0 0 false) := heap_alloc_new _ _
  have hz1 : (w.alloc (.chan 1 #[] false 0 0 false)).heap.size = w.heap.size + 1 := by simp
  have hc2 : w2.heap[w.heap.size]? = some (.chan 1 #[] false 0 0 false) := (hturn.grown.block _ (by rw [hz1]; omega) (by intro e; injection e with e; omega)).trans hc1
  have hz2 : w.heap.size < w2.heap.size := by have := hturn.grown.size; rw [hz1] at this; omega
  have hst2 : Stir w w2 [g] := by
    refine ⟨hturn.grown.os, hturn.grown.tape, hturn.grown.output, by omega, fun k hk hn => ?_⟩
    refine (hturn.grown.block k (by rw [hz1]; omega) ?_).trans (Below.heap_alloc w _ k hk)
    intro e
    injection e with e
    exact hn (by simp [e])
  have H2 := Lib.hid (And.intro hown2 hst2)
  have HR := Lib.hid hr2
  have HZ := Lib.hid hz2
  clear h hf hown2 hturn hr2 hc1 hz1 hst2 hgl
  have eqn := eqC_none
  have key : Calls Try.prog 74 #[.map (some g), .int .i64 t, .int .i64 n] w fun e w' => e = .returned (.tuple #[]) ∧ w' = w2.setChan w.heap.size 1 #[.int .i64 n] false 1 0 false := by
    refine calls_of_loneTo fun cs => ?_
    have e : Frame.enter Try.prog 74 #[.map (some g), .int .i64 t, .int .i64 n] .normal = (Go.Conc.base 74).at ⟨#[.map (some g), .int .i64 t, .int .i64 n, undef, undef, undef, undef, undef, undef, undef, undef, undef, undef, undef, undef, undef, undef, undef, undef, undef, undef, undef, undef, undef, undef, undef, undef, undef, undef], []⟩ [.code (Try.f74.body.getD .skip)] := by
      simp [Frame.enter, Frame.at, Try.func74, Go.Conc.base, Try.f74]
    rw [e]
    refine LoneTo.goes (n := 60) ?_
    simp only [Try.f74, Option.getD_some]
    s_c stepG_seq
    s_c stepG_seq
    s_reg
    s_op
    s_op
    s_op
    s_op
    s_c stepG_region_end
    s_cond true
    s_reg
    s_op
    s_op
    s_op
    s_op
    s_c stepG_region_end
    s_c stepG_seq
    s_reg
    s_op
    s_op
    s_op
    s_op
    s_c stepG_region_end
    s_c stepG_seq
    s_reg
    s_op
    s_c stepG_region_end
    s_c stepG_seq
    s_reg
    s_stop
    refine LoneTo.step (step_lone_select_default (c := w.heap.size) (z := .int .i64 0) (cap := 1) (s := 0) (r := 0) (tm := false) (stepG_comm (cases := #[rcase w.heap.size (.int .i64 0)]) (blocking := false) (shape := .select) (w' := w2) rfl rfl (by decide) (by simp [go_sem, execOp, rcase, Act.eval])) hc2) ?_
    rw [Frame.finish_at]
    walk_nrm
    refine LoneTo.goes (n := 30) ?_
    s_op
    s_op
    s_c stepG_region_end
    s_c stepG_block
    s_cond false
    s_reg
    s_op
    s_op
    s_stop
    refine LoneTo.step (step_lone_send_room (c := w.heap.size) (cap := 1) (buf := #[]) (s := 0) (r := 0) (tm := false) (stepG_comm (cases := #[scase w.heap.size (.int .i64 n) (.tuple #[])]) (blocking := true) (shape := .send) (w' := w2) rfl rfl (by decide) (by simp [execOp, scase, Act.eval])) hc2 (by simp)) ?_
    rw [Frame.finish_at]
    walk_nrm
    refine LoneTo.goes (n := 30) ?_
    s_c stepG_region_end
    s_c stepG_inBlock
    s_c stepG_end
    s_stop
    exact LoneTo.done ⟨.returned (.tuple #[]), _, rfl, ⟨rfl, by simp⟩, rfl, rfl, rfl, rfl, _, Try.func74, by simp [results, Try.f74, Frame.at]⟩
  refine key.mono ?_
  rintro e w' ⟨rfl, rfl⟩
  have hw := HW.out
  have hst : Stir w2 (w2.setChan w.heap.size 1 #[.int .i64 n] false 1 0 false) [w.heap.size] := Stir.chan w2 _ 1 _ false _ _ false (by simp)
  have hnew : Chan (w2.setChan w.heap.size 1 #[.int .i64 n] false 1 0 false) w.heap.size n := ⟨1, 0, heap_setChan w2 w.heap.size 1 #[.int .i64 n] false 1 0 false HZ.out⟩
  generalize w2.setChan w.heap.size 1 #[.int .i64 n] false 1 0 false = w' at *
  have hgl := hw.own.lt
  have hall : Stir w w' (wblk g xs) := by
    have hq := H2.out.2.more (ls := wblk g xs) (fun k hk _ => by simp at hk; subst hk; exact List.mem_cons_self ..)
    refine ⟨hst.os.trans hq.os, hst.tape.trans hq.tape, hst.output.trans hq.output, Nat.le_trans hq.size hst.size, fun k hk hn => ?_⟩
    exact (hst.block k (Nat.lt_of_lt_of_le hk hq.size) (by simp; omega)).trans (hq.block k hk hn)
  refine ⟨rfl, ⟨hw.lo, ?_, HR.out, fun y hy => ?_, ?_⟩, hall⟩
  · obtain ⟨es, clock, he, q⟩ := H2.out.1
    exact ⟨es, clock, (hst.block g (H2.out.1).lt (by simp; omega)).trans he, q⟩
  · rcases put_mem.1 hy with rfl | ⟨hy, hne⟩
    · exact ⟨hB, hnew⟩
    · have hl := (hw.chan y hy).2.lt
      obtain ⟨s, r, hc⟩ := (hw.chan y hy).2
      refine ⟨(hw.chan y hy).1, s, r, ?_⟩
      have h3 : w2.heap[y.ch]? = w.heap[y.ch]? := H2.out.2.block y.ch hl (by simpa using hw.ne hy)
      exact (hst.block y.ch (by have := HZ.out; omega) (by simp; omega)).trans (h3.trans hc)
  · unfold putK
    refine ins_apart (List.Pairwise.filter _ hw.apart) fun x hx => ?_
    have := (hw.chan x (List.mem_filter.1 hx).1).2.lt
    show x.ch ≠ w.heap.size
    omega
end Go.Proofs.Ytgomffcdoglbfaa
