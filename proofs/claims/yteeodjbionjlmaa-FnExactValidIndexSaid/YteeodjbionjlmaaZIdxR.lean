import Derived.Test.YteeodjbionjlmaaChecked
import Derived.WalkKit
import Derived.ProofKit
import Derived.OpenShut
import Derived.ShutString
import Derived.ChangeOld
import Derived.Below
import Derived.Lib.Hide
import Derived.Deep.Onto
import Derived.Test.YteeodjbionjlmaaJc
import Derived.Test.YteeodjbionjlmaaZIdxP
import Derived.Test.YteeodjbionjlmaaJr
namespace Go.Proofs.Yteeodjbionjlmaa
open Go.ChangeShapes Go.WideShapes Go.ChangeAt Go.RowKit
open Go.ChangeMaps (open_string shut_string)
set_option linter.unusedVariables false
set_option maxRecDepth 100000
/-- a message in memory: its likes lie in a row -/
structure Re where
  m : En
  la : Option Addr
  ln : Nat
  lc : Nat
def reC (r : Re) : List Value := [.string r.m.word, .slice r.la r.ln r.lc]
theorem reC_len (r : Re) : (reC r).length = 2 := rfl
/-- every likes row reads as the message says -/
def NumsAt (w : World) (B : Nat) (rs : List Re) : Prop := ∀ r ∈ rs, Row i64v w B r.la r.ln r.m.nums
def IdxAt (w : World) (B : Nat) (A : Option Addr) (n : Nat) (rs : List Re) : Prop := SRow 2 reC w B A n rs ∧ NumsAt w B rs
section
variable {w w' : World} {B B' n k : Nat} {A : Option Addr} {rs : List Re}
theorem NumsAt.below (h : NumsAt w B rs) (hb : Below B w w') : NumsAt w' B rs := fun r hr => (h r hr).below hb
theorem NumsAt.more (h : NumsAt w B rs) (hB : B ≤ B') : NumsAt w B' rs := fun r hr => (h r hr).more hB
theorem IdxAt.below (h : IdxAt w B A n rs) (hb : Below B w w') : IdxAt w' B A n rs := ⟨h.1.below hb, h.2.below hb⟩
theorem IdxAt.more (h : IdxAt w B A n rs) (hB : B ≤ B') : IdxAt w B' A n rs := ⟨h.1.more hB, h.2.more hB⟩
theorem IdxAt.to (h : IdxAt w w.heap.size A n rs) (hb : Below w.heap.size w w') : IdxAt w' w'.heap.size A n rs := (h.below hb).more hb.size
theorem IdxAt.drewN (h : IdxAt w B A n rs) (q : Nat) : IdxAt (w.drewN q) B A n rs := h
theorem IdxAt.len (h : IdxAt w B A n rs) : rs.length = n := h.1.1
theorem IdxAt.none_ : IdxAt w B none 0 [] := ⟨SRow.none_, fun _ h => by cases h⟩
theorem IdxAt.atr (h : IdxAt w B A n rs) (hk : k < n) : ∃ b off r, A = some ⟨b, off, none⟩ ∧ b < B ∧ rs[k]? = some r ∧ Row i64v w B r.la r.ln r.m.nums ∧
    w.cell? ⟨b, off + k * 2, none⟩ = some (.string r.m.word) ∧ w.cell? ⟨b, off + k * 2 + 1, none⟩ = some (.slice r.la r.ln r.lc) := by
  obtain ⟨b, off, z, e, hb, hz, hc⟩ := h.1.at_ hk
  exact ⟨b, off, z, e, hb, hz, h.2 z (List.mem_of_getElem? hz), hc 0 _ rfl, hc 1 _ rfl⟩
end
theorem reC_one (r : Re) : (#[.string r.m.word, .slice r.la r.ln r.lc] : Array Value).all (·.oneCell') = true := by simp [Value.oneCell']
def ens (rs : List Re) : List En := rs.map Re.m
theorem ens_len (rs : List Re) : (ens rs).length = rs.length := by simp [ens]
theorem ens_at {rs : List Re} {k : Nat} {r : Re} (h : rs[k]? = some r) : (ens rs)[k]? = some r.m := by simp [ens, h]
/-- how long the texts and the likes are -/
def enSz (m : En) : Nat := m.word.size + m.nums.length
def idxSz (ms : List En) : Nat := ms.length + (ms.map enSz).sum
/-- rows of the call's own: the messages, and each one's likes in a row of its own -/
def NumsOwn (w : World) (base : Nat) (rs : List Re) : Prop := (∀ r ∈ rs, w.ownsRow base 2 1 (.slice r.la r.ln r.lc) r.ln (r.m.nums.map i64v)) ∧ rs.Pairwise fun r s => (Value.slice r.la r.ln r.lc).ownBlock = none ∨ (Value.slice r.la r.ln r.lc).ownBlock ≠ (Value.slice s.la s.ln s.lc).ownBlock
def IdxOwn (w : World) (base : Nat) (A : Option Addr) (n c : Nat) (rs : List Re) : Prop := w.ownsRow base 100 2 (.slice A n c) n (rs.flatMap reC) ∧ NumsOwn w base rs
section
variable {w w' : World} {B base base' n c : Nat} {A : Option Addr} {rs : List Re}
theorem NumsOwn.nil : NumsOwn w base [] := ⟨fun _ h => (by cases h), List.Pairwise.nil⟩
theorem NumsOwn.below (h : NumsOwn w base rs) (hb : Below B w w') (hB : w.heap.size ≤ B) : NumsOwn w' base rs := ⟨fun r hr => own_below (h.1 r hr) hb hB, h.2⟩
theorem NumsOwn.mono (h : NumsOwn w base rs) (hb : base' ≤ base) : NumsOwn w base' rs := ⟨fun r hr => World.ownsRow.mono (h.1 r hr) hb, h.2⟩
theorem IdxOwn.below (h : IdxOwn w base A n c rs) (hb : Below B w w') (hB : w.heap.size ≤ B) : IdxOwn w' base A n c rs := ⟨own_below h.1 hb hB, h.2.below hb hB⟩
theorem IdxOwn.mono (h : IdxOwn w base A n c rs) (hb : base' ≤ base) : IdxOwn w base' A n c rs := ⟨World.ownsRow.mono h.1 hb, h.2.mono hb⟩
theorem NumsOwn.at_ (h : NumsOwn w base rs) : NumsAt w w.heap.size rs := fun r hr => Row.of_own_any (h.1 r hr)
theorem IdxOwn.at_ (h : IdxOwn w base A n c rs) : IdxAt w w.heap.size A n rs := ⟨SRow.of_own_any reC_len (by omega) h.1, h.2.at_⟩
theorem IdxOwn.len (h : IdxOwn w base A n c rs) : rs.length = n := h.at_.len
/-- one more row of likes, newer than all others -/
theorem NumsOwn.snoc {r : Re} (h : NumsOwn w base rs) (hb : Below w.heap.size w w') (hr : w'.ownsRow w.heap.size 2 1 (.slice r.la r.ln r.lc) r.ln (r.m.nums.map i64v)) (hB : base ≤ w.heap.size) : NumsOwn w' base (rs ++ [r]) := by
  refine ⟨fun s hs => ?_, ?_⟩
  · rcases List.mem_append.1 hs with hs | hs
    · exact own_below (h.1 s hs) hb (Nat.le_refl _)
    · simp at hs; subst hs; exact World.ownsRow.mono hr hB
  · rw [List.pairwise_append]
    refine ⟨h.2, List.pairwise_singleton _ _, fun s hs t ht => ?_⟩
    simp at ht; subst ht
    exact own_ne (h.1 s hs) hr
end
theorem nc_grown {w w' : World} {base : Nat} {rs : List Re} {row : Option Nat} (h : NumsOwn w base rs) (hg : w.grownBy w' row) (hn : ∀ r ∈ rs, (Value.slice r.la r.ln r.lc).ownBlock = none ∨ (Value.slice r.la r.ln r.lc).ownBlock ≠ row) : NumsOwn w' base rs :=
  ⟨fun r hr => (h.1 r hr).kept hg (hn r hr), h.2⟩
theorem fitE_ln {w : World} {B : Nat} {rs : List Re} (h : NumsAt w B rs) (hf : fitE (ens rs)) {r : Re} (hr : r ∈ rs) : r.ln ≤ 1048576 ∧ r.m.word.size ≤ 1048576 := by
  have h1 := hf.2 r.m (List.mem_map_of_mem hr)
  have h2 := (h r hr).1
  omega
theorem fitE_n {w : World} {B n : Nat} {A : Option Addr} {rs : List Re} (h : IdxAt w B A n rs) (hf : fitE (ens rs)) : n ≤ 1048576 := by
  have h1 := hf.1
  rw [ens_len, h.len] at h1
  exact h1
end Go.Proofs.Yteeodjbionjlmaa
