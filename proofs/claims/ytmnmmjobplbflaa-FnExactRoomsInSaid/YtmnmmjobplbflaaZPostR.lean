import Derived.Test.YtmnmmjobplbflaaChecked
import Derived.WalkKit
import Derived.ProofKit
import Derived.OpenShut
import Derived.ShutString
import Derived.ChangeOld
import Derived.Below
import Derived.Lib.Hide
import Derived.Deep.Onto
import Derived.Test.YtmnmmjobplbflaaJc
import Derived.Test.YtmnmmjobplbflaaZPostP
import Derived.Test.YtmnmmjobplbflaaJr
namespace Go.Proofs.Ytmnmmjobplbflaa
open Go.ChangeShapes Go.WideShapes Go.ChangeAt Go.RowKit
open Go.ChangeMaps (open_string shut_string)
set_option linter.unusedVariables false
set_option maxRecDepth 100000
/-- a box in memory: what it holds lies in a row -/
structure Rb where
  b : Bx
  la : Option Addr
  ln : Nat
  lc : Nat
def rbC (r : Rb) : List Value := [.string r.b.tok, .int .i64 r.b.mem, .int .i64 r.b.mis, .slice r.la r.ln r.lc]
theorem rbC_len (r : Rb) : (rbC r).length = 4 := rfl
/-- every likes row reads as the message says -/
def HeldAt (w : World) (B : Nat) (rs : List Rb) : Prop := ∀ r ∈ rs, SRow 2 bnC w B r.la r.ln r.b.held
def PostAt (w : World) (B : Nat) (A : Option Addr) (n : Nat) (rs : List Rb) : Prop := SRow 4 rbC w B A n rs ∧ HeldAt w B rs
section
variable {w w' : World} {B B' n k : Nat} {A : Option Addr} {rs : List Rb}
theorem HeldAt.below (h : HeldAt w B rs) (hb : Below B w w') : HeldAt w' B rs := fun r hr => SRow.below (h r hr) hb
theorem HeldAt.more (h : HeldAt w B rs) (hB : B ≤ B') : HeldAt w B' rs := fun r hr => SRow.more (h r hr) hB
theorem PostAt.below (h : PostAt w B A n rs) (hb : Below B w w') : PostAt w' B A n rs := ⟨h.1.below hb, h.2.below hb⟩
theorem PostAt.more (h : PostAt w B A n rs) (hB : B ≤ B') : PostAt w B' A n rs := ⟨h.1.more hB, h.2.more hB⟩
theorem PostAt.to (h : PostAt w w.heap.size A n rs) (hb : Below w.heap.size w w') : PostAt w' w'.heap.size A n rs := (h.below hb).more hb.size
theorem PostAt.drewN (h : PostAt w B A n rs) (q : Nat) : PostAt (w.drewN q) B A n rs := h
theorem PostAt.len (h : PostAt w B A n rs) : rs.length = n := h.1.1
theorem PostAt.none_ : PostAt w B none 0 [] := ⟨SRow.none_, fun _ h => by cases h⟩
theorem PostAt.atr (h : PostAt w B A n rs) (hk : k < n) : ∃ b off r, A = some ⟨b, off, none⟩ ∧ b < B ∧ rs[k]? = some r ∧ SRow 2 bnC w B r.la r.ln r.b.held ∧
    w.cell? ⟨b, off + k * 4, none⟩ = some (.string r.b.tok) ∧ w.cell? ⟨b, off + k * 4 + 1, none⟩ = some (.int .i64 r.b.mem) ∧ w.cell? ⟨b, off + k * 4 + 2, none⟩ = some (.int .i64 r.b.mis) ∧ w.cell? ⟨b, off + k * 4 + 3, none⟩ = some (.slice r.la r.ln r.lc) := by
  obtain ⟨b, off, z, e, hb, hz, hc⟩ := h.1.at_ hk
  exact ⟨b, off, z, e, hb, hz, h.2 z (List.mem_of_getElem? hz), hc 0 _ rfl, hc 1 _ rfl, hc 2 _ rfl, hc 3 _ rfl⟩
end
theorem rbC_one (r : Rb) : (#[.string r.b.tok, .int .i64 r.b.mem, .int .i64 r.b.mis, .slice r.la r.ln r.lc] : Array Value).all (·.oneCell') = true := by simp [Value.oneCell']
def bxs (rs : List Rb) : List Bx := rs.map Rb.b
theorem bxs_len (rs : List Rb) : (bxs rs).length = rs.length := by simp [bxs]
theorem bxs_at {rs : List Rb} {k : Nat} {r : Rb} (h : rs[k]? = some r) : (bxs rs)[k]? = some r.b := by simp [bxs, h]
/-- rows of the call's own: the messages, and each one's likes in a row of its own -/
def HeldOwn (w : World) (base : Nat) (rs : List Rb) : Prop := (∀ r ∈ rs, w.ownsRow base 74 2 (.slice r.la r.ln r.lc) r.ln (r.b.held.flatMap bnC)) ∧ rs.Pairwise fun r s => (Value.slice r.la r.ln r.lc).ownBlock = none ∨ (Value.slice r.la r.ln r.lc).ownBlock ≠ (Value.slice s.la s.ln s.lc).ownBlock
def PostOwn (w : World) (base : Nat) (A : Option Addr) (n c : Nat) (rs : List Rb) : Prop := w.ownsRow base 62 4 (.slice A n c) n (rs.flatMap rbC) ∧ HeldOwn w base rs
section
variable {w w' : World} {B base base' n c : Nat} {A : Option Addr} {rs : List Rb}
theorem HeldOwn.nil : HeldOwn w base [] := ⟨fun _ h => (by cases h), List.Pairwise.nil⟩
theorem HeldOwn.below (h : HeldOwn w base rs) (hb : Below B w w') (hB : w.heap.size ≤ B) : HeldOwn w' base rs := ⟨fun r hr => own_below (h.1 r hr) hb hB, h.2⟩
theorem HeldOwn.mono (h : HeldOwn w base rs) (hb : base' ≤ base) : HeldOwn w base' rs := ⟨fun r hr => World.ownsRow.mono (h.1 r hr) hb, h.2⟩
theorem PostOwn.below (h : PostOwn w base A n c rs) (hb : Below B w w') (hB : w.heap.size ≤ B) : PostOwn w' base A n c rs := ⟨own_below h.1 hb hB, h.2.below hb hB⟩
theorem PostOwn.mono (h : PostOwn w base A n c rs) (hb : base' ≤ base) : PostOwn w base' A n c rs := ⟨World.ownsRow.mono h.1 hb, h.2.mono hb⟩
theorem HeldOwn.at_ (h : HeldOwn w base rs) : HeldAt w w.heap.size rs := fun r hr => SRow.of_own_any bnC_len (by omega) (h.1 r hr)
theorem PostOwn.at_ (h : PostOwn w base A n c rs) : PostAt w w.heap.size A n rs := ⟨SRow.of_own_any rbC_len (by omega) h.1, h.2.at_⟩
theorem PostOwn.len (h : PostOwn w base A n c rs) : rs.length = n := h.at_.len
/-- one more row of likes, newer than all others -/
theorem HeldOwn.snoc {r : Rb} (h : HeldOwn w base rs) (hb : Below w.heap.size w w') (hr : w'.ownsRow w.heap.size 74 2 (.slice r.la r.ln r.lc) r.ln (r.b.held.flatMap bnC)) (hB : base ≤ w.heap.size) : HeldOwn w' base (rs ++ [r]) := by
  refine ⟨fun s hs => ?_, ?_⟩
  · rcases List.mem_append.1 hs with hs | hs
    · exact own_below (h.1 s hs) hb (Nat.le_refl _)
    · simp at hs; subst hs; exact World.ownsRow.mono hr hB
  · rw [List.pairwise_append]
    refine ⟨h.2, List.pairwise_singleton _ _, fun s hs t ht => ?_⟩
    simp at ht; subst ht
    exact own_ne (h.1 s hs) hr
end
theorem hc_grown {w w' : World} {base : Nat} {rs : List Rb} {row : Option Nat} (h : HeldOwn w base rs) (hg : w.grownBy w' row) (hn : ∀ r ∈ rs, (Value.slice r.la r.ln r.lc).ownBlock = none ∨ (Value.slice r.la r.ln r.lc).ownBlock ≠ row) : HeldOwn w' base rs :=
  ⟨fun r hr => (h.1 r hr).kept hg (hn r hr), h.2⟩
theorem fitP_ln {w : World} {B : Nat} {rs : List Rb} (h : HeldAt w B rs) (hf : fitP (bxs rs)) {r : Rb} (hr : r ∈ rs) : r.ln ≤ 1048576 ∧ r.b.tok.size ≤ 1048576 := by
  have h1 := hf.2 r.b (List.mem_map_of_mem hr)
  have h2 := (h r hr).1
  omega
theorem fitP_n {w : World} {B n : Nat} {A : Option Addr} {rs : List Rb} (h : PostAt w B A n rs) (hf : fitP (bxs rs)) : n ≤ 1048576 := by
  have h1 := hf.1
  rw [bxs_len, h.len] at h1
  exact h1
end Go.Proofs.Ytmnmmjobplbflaa
