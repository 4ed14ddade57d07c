import Derived.Test.YtgomffcdoglbfaaChecked
import Derived.WalkKit
import Derived.ProofKit
import Derived.OpenShut
import Derived.ShutString
import Derived.ChangeOld
import Derived.Below
import Derived.Lib.Hide
import Derived.Conc.LoneCalls
import Derived.Conc.LoneSelect
import Derived.KernelRfl
import Derived.Laws.Rows
import Derived.Test.YtgomffcdoglbfaaJf
import Derived.Test.YtgomffcdoglbfaaJp
namespace Go.Proofs.Ytgomffcdoglbfaa
open Go.ChangeShapes Go.WideShapes Go.ChangeAt Go.RowKit
open Go.ChangeMaps (open_string shut_string)
set_option linter.unusedVariables false
open Go.Conc
set_option maxRecDepth 100000
/-- a watcher's channel: it keeps one number -/
def Chan (w : World) (c : Nat) (v : Int) : Prop := ∃ s r, w.heap[c]? = some (.chan 1 #[.int .i64 v] false s r false)
theorem heap_setChan2 (w : World) (c cap : Nat) (buf : Array Value) (cl : Bool) (s r : Nat) (tm : Bool) (k : Nat) (h : k ≠ c) : (w.setChan c cap buf cl s r tm).heap[k]? = w.heap[k]? := by
  simp only [World.setChan]; rw [Array.getElem?_setIfInBounds_ne (by omega)]
/-- w' is w but for some blocks, and new ones -/
structure Stir (w w' : World) (ks : List Nat) : Prop where
  os : w'.os = w.os
  tape : w'.tape = w.tape
  output : w'.output = w.output
  size : w.heap.size ≤ w'.heap.size
  block : ∀ k, k < w.heap.size → k ∉ ks → w'.heap[k]? = w.heap[k]?
theorem Stir.refl (w : World) (ks : List Nat) : Stir w w ks := ⟨rfl, rfl, rfl, Nat.le_refl _, fun _ _ _ => rfl⟩
theorem Stir.trans {a b c : World} {ks : List Nat} (h : Stir a b ks) (k : Stir b c ks) : Stir a c ks :=
  ⟨k.os.trans h.os, k.tape.trans h.tape, k.output.trans h.output, Nat.le_trans h.size k.size, fun i hi hn => (k.block i (Nat.lt_of_lt_of_le hi h.size) hn).trans (h.block i hi hn)⟩
theorem Stir.more {w w' : World} {ks ls : List Nat} (h : Stir w w' ks) (hs : ∀ k ∈ ks, k < w.heap.size → k ∈ ls) : Stir w w' ls := ⟨h.os, h.tape, h.output, h.size, fun k hk hn => h.block k hk fun hm => hn (hs k hm hk)⟩
theorem Stir.of_below {w w' : World} {ks : List Nat} (h : Below w.heap.size w w') : Stir w w' ks := ⟨h.os, h.tape, h.output, h.size, fun k hk _ => h.block k hk⟩
theorem Stir.below {B : Nat} {w0 w w' : World} {ks : List Nat} (h : Stir w w' ks) (hb : Below B w0 w) (hB : B ≤ w.heap.size) (hk : ∀ k ∈ ks, B ≤ k) : Below B w0 w' :=
  ⟨h.os.trans hb.os, h.tape.trans hb.tape, h.output.trans hb.output, Nat.le_trans hb.size h.size, fun k hkB => (h.block k (by omega) (fun hm => by have := hk k hm; omega)).trans (hb.block k hkB)⟩
theorem Stir.chan (w : World) (c cap : Nat) (buf : Array Value) (cl : Bool) (s r : Nat) (tm : Bool) {ks : List Nat} (hc : c ∈ ks) : Stir w (w.setChan c cap buf cl s r tm) ks :=
  ⟨rfl, rfl, rfl, by rw [size_setChan]; exact Nat.le_refl _, fun k _ hn => heap_setChan2 w c cap buf cl s r tm k (fun e => hn (e ▸ hc))⟩
theorem Stir.blk {w w' : World} {ks : List Nat} {g t : Nat} {cs : Array Value} (h : Stir w w' ks) (hb : Blk w g t cs) (hn : g ∉ ks) : Blk w' g t cs := (h.block g hb.lt hn).trans hb
set_option maxHeartbeats 1600000 in
theorem last_some (c : Nat) (v : Int) (w : World) (h : Chan w c v) :
    Calls Try.prog 88 #[.chan (some c)] w fun e w' => e = .returned (.int .i64 v) ∧ Chan w' c v ∧ Stir w w' [c] := by
  obtain ⟨s, r, hc⟩ := h
  have hlt : c < w.heap.size := by
    rcases Nat.lt_or_ge c w.heap.size with hlt | hge
    · exact hlt
    · rw [Array.getElem?_eq_none hge] at hc; cases hc
  refine calls_of_loneTo fun cs => ?_
  have e : Frame.enter Try.prog 88 #[.chan (some c)] .normal = (base 88).at ⟨#[.chan (some c), undef, undef, undef, undef, undef, undef, undef, undef, undef, undef, undef], []⟩ [.code (Try.f88.body.getD .skip)] := by
    simp [Frame.enter, Frame.at, Try.func88, base, Try.f88]
  rw [e]
  refine LoneTo.goes (n := 30) ?_
  simp only [Try.f88, Option.getD_some]
  s_c stepG_seq
  s_reg
  s_op
  s_c stepG_region_end
  s_c stepG_seq
  s_reg
  s_op
  s_c stepG_region_end
  s_c stepG_seq
  s_reg
  s_stop
  refine LoneTo.step (step_lone_select_recv_buf (c := c) (z := .int .i64 0) (cap := 1) (buf := #[.int .i64 v]) (closed := false) (s := s) (r := r) (tm := false) (stepG_comm (cases := #[rcase c (.int .i64 0)]) (blocking := false) (shape := .select) (w' := w) rfl rfl (by decide) (by simp [go_sem, execOp, rcase, Act.eval])) hc (by simp)) ?_
  rw [Frame.finish_at]
  simp only [show (#[Value.int IntKind.i64 v] : Array Value).getD 0 undef = .int .i64 v from rfl, show (#[Value.int IntKind.i64 v] : Array Value).extract 1 (#[Value.int IntKind.i64 v] : Array Value).size = #[] from rfl]
  walk_nrm
  have hc1 := heap_setChan w c 1 #[] false s (r + 1) false hlt
  refine LoneTo.goes (n := 30) ?_
  s_op
  s_op
  s_c stepG_region_end
  s_c stepG_block
  s_cond true
  s_c stepG_seq
  s_reg
  s_op
  s_op
  s_c stepG_region_end
  s_c stepG_seq
  s_reg
  s_op
  s_op
  s_stop
  refine LoneTo.step (step_lone_send_room (c := c) (cap := 1) (buf := #[]) (s := s) (r := r + 1) (tm := false) (stepG_comm (cases := #[scase c (.int .i64 v) (.tuple #[])]) (blocking := true) (shape := .send) (w' := w.setChan c 1 #[] false s (r + 1) false) rfl rfl (by decide) (by simp [execOp, scase, Act.eval])) hc1 (by simp)) ?_
  rw [Frame.finish_at]
  walk_nrm
  refine LoneTo.goes (n := 30) ?_
  s_c stepG_region_end
  s_c stepG_seq
  s_reg
  s_op
  s_op
  s_c stepG_region_end
  s_c stepG_ret'
  s_stop
  refine LoneTo.done ⟨.returned (.int .i64 v), _, rfl, ⟨rfl, ?_, ?_⟩, rfl, rfl, rfl, rfl, _, Try.func88, by simp [results, Try.f88, Frame.at]⟩
  · exact ⟨s + 1, r + 1, by simpa using heap_setChan (w.setChan c 1 #[] false s (r + 1) false) c 1 #[.int .i64 v] false (s + 1) (r + 1) false (by rw [size_setChan]; exact hlt)⟩
  · exact (Stir.chan w c 1 #[] false s (r + 1) false (by simp)).trans (Stir.chan _ c _ _ false _ _ false (by simp))
set_option maxHeartbeats 1600000 in
theorem last_nil (w : World) :
    Calls Try.prog 88 #[.chan none] w fun e w' => e = .returned (.int .i64 0) ∧ w = w' := by
  refine calls_of_loneTo fun cs => ?_
  have e : Frame.enter Try.prog 88 #[.chan none] .normal = (base 88).at ⟨#[.chan none, undef, undef, undef, undef, undef, undef, undef, undef, undef, undef, undef], []⟩ [.code (Try.f88.body.getD .skip)] := by
    simp [Frame.enter, Frame.at, Try.func88, base, Try.f88]
  rw [e]
  refine LoneTo.goes (n := 30) ?_
  simp only [Try.f88, Option.getD_some]
  s_c stepG_seq
  s_reg
  s_op
  s_c stepG_region_end
  s_c stepG_seq
  s_reg
  s_op
  s_c stepG_region_end
  s_c stepG_seq
  s_reg
  s_stop
  refine LoneTo.step (step_lone_select_recv_nil (z := .int .i64 0) (stepG_comm (cases := #[rcaseNil (.int .i64 0)]) (blocking := false) (shape := .select) (w' := w) rfl rfl (by decide) (by simp [go_sem, execOp, rcaseNil, Act.eval]))) ?_
  rw [Frame.finish_at]
  walk_nrm
  refine LoneTo.goes (n := 30) ?_
  s_op
  s_op
  s_c stepG_region_end
  s_c stepG_block
  s_cond false
  s_c stepG_seq
  s_reg
  s_op
  s_c stepG_region_end
  s_c stepG_ret'
  s_stop
  exact LoneTo.done ⟨.returned (.int .i64 0), _, rfl, ⟨rfl, rfl⟩, rfl, rfl, rfl, rfl, _, Try.func88, by simp [results, Try.f88, Frame.at]⟩
end Go.Proofs.Ytgomffcdoglbfaa
