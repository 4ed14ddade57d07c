import Derived.Test.YteeodjbionjlmaaChecked
import Derived.WalkKit
import Derived.ProofKit
import Derived.OpenShut
import Derived.ShutString
import Derived.ChangeOld
import Derived.Below
import Derived.Lib.Hide
import Derived.Deep.Onto
import Derived.Test.YteeodjbionjlmaaJc
import Derived.Test.YteeodjbionjlmaaZMsgP
import Derived.Test.YteeodjbionjlmaaJr
namespace Go.Proofs.Yteeodjbionjlmaa
open Go.ChangeShapes Go.WideShapes Go.ChangeAt Go.RowKit
open Go.ChangeMaps (open_string shut_string)
set_option linter.unusedVariables false
set_option maxRecDepth 100000
/-- a message in memory: its likes lie in a row -/
structure Rm where
  m : Mg
  la : Option Addr
  ln : Nat
  lc : Nat
def rmC (r : Rm) : List Value := [.int .i64 r.m.num, .int .i64 r.m.sdr, .int .i64 r.m.tick, .string r.m.text, .int .i64 r.m.edits, .bool r.m.gone, .int .i64 r.m.reply, .slice r.la r.ln r.lc]
theorem rmC_len (r : Rm) : (rmC r).length = 8 := rfl
/-- every likes row reads as the message says -/
def LikesAt (w : World) (B : Nat) (rs : List Rm) : Prop := ∀ r ∈ rs, Row i64v w B r.la r.ln r.m.likes
def LogAt (w : World) (B : Nat) (A : Option Addr) (n : Nat) (rs : List Rm) : Prop := SRow 8 rmC w B A n rs ∧ LikesAt w B rs
section
variable {w w' : World} {B B' n k : Nat} {A : Option Addr} {rs : List Rm}
theorem LikesAt.below (h : LikesAt w B rs) (hb : Below B w w') : LikesAt w' B rs := fun r hr => (h r hr).below hb
theorem LikesAt.more (h : LikesAt w B rs) (hB : B ≤ B') : LikesAt w B' rs := fun r hr => (h r hr).more hB
theorem LogAt.below (h : LogAt w B A n rs) (hb : Below B w w') : LogAt w' B A n rs := ⟨h.1.below hb, h.2.below hb⟩
theorem LogAt.more (h : LogAt w B A n rs) (hB : B ≤ B') : LogAt w B' A n rs := ⟨h.1.more hB, h.2.more hB⟩
theorem LogAt.to (h : LogAt w w.heap.size A n rs) (hb : Below w.heap.size w w') : LogAt w' w'.heap.size A n rs := (h.below hb).more hb.size
theorem LogAt.drewN (h : LogAt w B A n rs) (q : Nat) : LogAt (w.drewN q) B A n rs := h
theorem LogAt.len (h : LogAt w B A n rs) : rs.length = n := h.1.1
theorem LogAt.none_ : LogAt w B none 0 [] := ⟨SRow.none_, fun _ h => by cases h⟩
theorem LogAt.atr (h : LogAt w B A n rs) (hk : k < n) : ∃ b off r, A = some ⟨b, off, none⟩ ∧ b < B ∧ rs[k]? = some r ∧ Row i64v w B r.la r.ln r.m.likes ∧
    w.cell? ⟨b, off + k * 8, none⟩ = some (.int .i64 r.m.num) ∧ w.cell? ⟨b, off + k * 8 + 1, none⟩ = some (.int .i64 r.m.sdr) ∧ w.cell? ⟨b, off + k * 8 + 2, none⟩ = some (.int .i64 r.m.tick) ∧ w.cell? ⟨b, off + k * 8 + 3, none⟩ = some (.string r.m.text) ∧
    w.cell? ⟨b, off + k * 8 + 4, none⟩ = some (.int .i64 r.m.edits) ∧ w.cell? ⟨b, off + k * 8 + 5, none⟩ = some (.bool r.m.gone) ∧ w.cell? ⟨b, off + k * 8 + 6, none⟩ = some (.int .i64 r.m.reply) ∧ w.cell? ⟨b, off + k * 8 + 7, none⟩ = some (.slice r.la r.ln r.lc) := by
  obtain ⟨b, off, z, e, hb, hz, hc⟩ := h.1.at_ hk
  exact ⟨b, off, z, e, hb, hz, h.2 z (List.mem_of_getElem? hz), hc 0 _ rfl, hc 1 _ rfl, hc 2 _ rfl, hc 3 _ rfl, hc 4 _ rfl, hc 5 _ rfl, hc 6 _ rfl, hc 7 _ rfl⟩
end
theorem rmC_one (r : Rm) : (#[.int .i64 r.m.num, .int .i64 r.m.sdr, .int .i64 r.m.tick, .string r.m.text, .int .i64 r.m.edits, .bool r.m.gone, .int .i64 r.m.reply, .slice r.la r.ln r.lc] : Array Value).all (·.oneCell') = true := by simp [Value.oneCell']
def mgs (rs : List Rm) : List Mg := rs.map Rm.m
theorem mgs_len (rs : List Rm) : (mgs rs).length = rs.length := by simp [mgs]
theorem mgs_at {rs : List Rm} {k : Nat} {r : Rm} (h : rs[k]? = some r) : (mgs rs)[k]? = some r.m := by simp [mgs, h]
/-- how long the texts and the likes are -/
def mgSz (m : Mg) : Nat := m.text.size + m.likes.length
def logSz (ms : List Mg) : Nat := ms.length + (ms.map mgSz).sum
/-- rows of the call's own: the messages, and each one's likes in a row of its own -/
def LikesOwn (w : World) (base : Nat) (rs : List Rm) : Prop := (∀ r ∈ rs, w.ownsRow base 2 1 (.slice r.la r.ln r.lc) r.ln (r.m.likes.map i64v)) ∧ rs.Pairwise fun r s => (Value.slice r.la r.ln r.lc).ownBlock = none ∨ (Value.slice r.la r.ln r.lc).ownBlock ≠ (Value.slice s.la s.ln s.lc).ownBlock
def LogOwn (w : World) (base : Nat) (A : Option Addr) (n c : Nat) (rs : List Rm) : Prop := w.ownsRow base 41 8 (.slice A n c) n (rs.flatMap rmC) ∧ LikesOwn w base rs
section
variable {w w' : World} {B base base' n c : Nat} {A : Option Addr} {rs : List Rm}
theorem LikesOwn.nil : LikesOwn w base [] := ⟨fun _ h => (by cases h), List.Pairwise.nil⟩
theorem LikesOwn.below (h : LikesOwn w base rs) (hb : Below B w w') (hB : w.heap.size ≤ B) : LikesOwn w' base rs := ⟨fun r hr => own_below (h.1 r hr) hb hB, h.2⟩
theorem LikesOwn.mono (h : LikesOwn w base rs) (hb : base' ≤ base) : LikesOwn w base' rs := ⟨fun r hr => World.ownsRow.mono (h.1 r hr) hb, h.2⟩
theorem LogOwn.below (h : LogOwn w base A n c rs) (hb : Below B w w') (hB : w.heap.size ≤ B) : LogOwn w' base A n c rs := ⟨own_below h.1 hb hB, h.2.below hb hB⟩
theorem LogOwn.mono (h : LogOwn w base A n c rs) (hb : base' ≤ base) : LogOwn w base' A n c rs := ⟨World.ownsRow.mono h.1 hb, h.2.mono hb⟩
theorem LikesOwn.at_ (h : LikesOwn w base rs) : LikesAt w w.heap.size rs := fun r hr => Row.of_own_any (h.1 r hr)
theorem LogOwn.at_ (h : LogOwn w base A n c rs) : LogAt w w.heap.size A n rs := ⟨SRow.of_own_any rmC_len (by omega) h.1, h.2.at_⟩
theorem LogOwn.len (h : LogOwn w base A n c rs) : rs.length = n := h.at_.len
/-- one more row of likes, newer than all others -/
theorem LikesOwn.snoc {r : Rm} (h : LikesOwn w base rs) (hb : Below w.heap.size w w') (hr : w'.ownsRow w.heap.size 2 1 (.slice r.la r.ln r.lc) r.ln (r.m.likes.map i64v)) (hB : base ≤ w.heap.size) : LikesOwn w' base (rs ++ [r]) := by
  refine ⟨fun s hs => ?_, ?_⟩
  · rcases List.mem_append.1 hs with hs | hs
    · exact own_below (h.1 s hs) hb (Nat.le_refl _)
    · simp at hs; subst hs; exact World.ownsRow.mono hr hB
  · rw [List.pairwise_append]
    refine ⟨h.2, List.pairwise_singleton _ _, fun s hs t ht => ?_⟩
    simp at ht; subst ht
    exact own_ne (h.1 s hs) hr
end
theorem lc_grown {w w' : World} {base : Nat} {rs : List Rm} {row : Option Nat} (h : LikesOwn w base rs) (hg : w.grownBy w' row) (hn : ∀ r ∈ rs, (Value.slice r.la r.ln r.lc).ownBlock = none ∨ (Value.slice r.la r.ln r.lc).ownBlock ≠ row) : LikesOwn w' base rs :=
  ⟨fun r hr => (h.1 r hr).kept hg (hn r hr), h.2⟩
theorem fit_ln {w : World} {B : Nat} {rs : List Rm} (h : LikesAt w B rs) (hf : fitL (mgs rs)) {r : Rm} (hr : r ∈ rs) : r.ln ≤ 1048576 ∧ r.m.text.size ≤ 1048576 := by
  have h1 := hf.2 r.m (List.mem_map_of_mem hr)
  have h2 := (h r hr).1
  omega
theorem fit_n {w : World} {B n : Nat} {A : Option Addr} {rs : List Rm} (h : LogAt w B A n rs) (hf : fitL (mgs rs)) : n ≤ 1048576 := by
  have h1 := hf.1
  rw [mgs_len, h.len] at h1
  exact h1
end Go.Proofs.Yteeodjbionjlmaa
