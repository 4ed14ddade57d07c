import Derived.Test.YtdpclbmcmgknjaaChecked
import Derived.WalkKit
import Derived.ProofKit
import Derived.OpenShut
import Derived.ShutString
import Derived.ChangeOld
import Derived.Below
import Derived.Lib.Hide
import Derived.Test.YtdpclbmcmgknjaaJr
import Derived.Test.YtdpclbmcmgknjaaZOwnF
import Derived.Test.YtdpclbmcmgknjaaJd
namespace Go.Proofs.Ytdpclbmcmgknjaa
open Go.ChangeShapes Go.WideShapes Go.ChangeAt Go.RowKit
open Go.ChangeMaps (open_string shut_string)
set_option linter.unusedVariables false
set_option maxRecDepth 100000
/-- w' is w but for the blocks from lo on below hi, and new ones -/
structure Moved (lo hi : Nat) (w w' : World) : Prop where
  os : w'.os = w.os
  tape : w'.tape = w.tape
  output : w'.output = w.output
  size : w.heap.size ≤ w'.heap.size
  block : ∀ k, k < w.heap.size → ¬ (lo ≤ k ∧ k < hi) → w'.heap[k]? = w.heap[k]?
theorem Moved.refl (lo hi : Nat) (w : World) : Moved lo hi w w := ⟨rfl, rfl, rfl, Nat.le_refl _, fun _ _ _ => rfl⟩
theorem Moved.trans {lo hi : Nat} {a b c : World} (h : Moved lo hi a b) (k : Moved lo hi b c) : Moved lo hi a c :=
  ⟨k.os.trans h.os, k.tape.trans h.tape, k.output.trans h.output, Nat.le_trans h.size k.size, fun i hi' hn => (k.block i (Nat.lt_of_lt_of_le hi' h.size) hn).trans (h.block i hi' hn)⟩
theorem Moved.of_below {lo hi : Nat} {w w' : World} (h : Below w.heap.size w w') : Moved lo hi w w' := ⟨h.os, h.tape, h.output, h.size, fun k hk _ => h.block k hk⟩
theorem Moved.of_grown {lo hi : Nat} {w w' : World} {row : Option Nat} (h : w.grownBy w' row) (hr : ∀ k, row = some k → lo ≤ k ∧ k < hi) : Moved lo hi w w' :=
  ⟨h.os, h.tape, h.output, h.size, fun k hk hn => h.block k hk fun e => hn (hr k e.symm)⟩
theorem Moved.below {lo hi B : Nat} {w0 w w' : World} (h : Moved lo hi w w') (hb : Below B w0 w) (hB : B ≤ lo) (hBw : B ≤ w.heap.size) : Below B w0 w' :=
  ⟨h.os.trans hb.os, h.tape.trans hb.tape, h.output.trans hb.output, Nat.le_trans hb.size h.size, fun k hk => (h.block k (by omega) (by omega)).trans (hb.block k hk)⟩
/-- the block of a value lies from lo on below hi -/
def Span (lo hi : Nat) (v : Value) : Prop := ∀ g, v.ownBlock = some g → lo ≤ g ∧ g < hi
theorem Span.wide {lo hi lo' hi' : Nat} {v : Value} (h : Span lo hi v) (h1 : lo' ≤ lo) (h2 : hi ≤ hi') : Span lo' hi' v := fun g hg => by have := h g hg; omega
theorem span_own {w : World} {base e s n : Nat} {v : Value} {xs : List Value} (h : w.ownsRow base e s v n xs) : Span base w.heap.size v := fun g hg => h.lt g hg
theorem own_block {w w' : World} {b e s n : Nat} {v : Value} {xs : List Value} (ho : w.ownsRow b e s v n xs) (h : ∀ g, v.ownBlock = some g → w'.heap[g]? = w.heap[g]?) : w'.ownsRow b e s v n xs := by
  refine ⟨ho.1, ?_⟩
  rcases ho.2 with ⟨rfl, hn⟩ | ⟨g, cap, cur, rfl, hg, hc, r⟩
  · exact .inl ⟨rfl, hn⟩
  · exact .inr ⟨g, cap, cur, rfl, hg, (h g rfl).trans hc, r⟩
theorem Moved.own {lo hi lo' hi' b e s n : Nat} {w w' : World} {v : Value} {xs : List Value} (h : Moved lo hi w w') (ho : w.ownsRow b e s v n xs) (hs : Span lo' hi' v) (hd : hi' ≤ lo ∨ hi ≤ lo') : w'.ownsRow b e s v n xs :=
  own_block ho fun g hg => h.block g (ho.lt g hg).2 (by have := hs g hg; omega)
theorem Moved.blk {lo hi g : Nat} {w w' : World} {t : TypeId} {cs : Array Value} (h : Moved lo hi w w') (hb : Blk w g t cs) (hg : g < lo ∨ hi ≤ g) : Blk w' g t cs := (h.block g hb.lt (by omega)).trans hb
theorem below_moved {lo hi : Nat} {w w1 w' : World} (hb : Below w.heap.size w w1) (h : Moved lo hi w1 w') : Moved lo hi w w' := (Moved.of_below hb).trans h
theorem mark_mov (A : Option Addr) (n c k0 base hi : Nat) (xs : List Int) (w : World) (h : w.ownsRow base 2 1 (.slice A n c) n (xs.map i64v)) (hs : Span base hi (.slice A n c)) (hn : n ≤ 1073741824) (hk0 : k0 ≤ 1099511627776) :
    Calls Try.prog 37 #[.slice A n c, .int .i64 k0] w fun e w' => e = .returned (.int .i64 ((k0 + n : Nat) : Int)) ∧
      w'.ownsRow base 2 1 (.slice A n c) n ((marks k0 n).map i64v) ∧ Moved base hi w w' := by
  rcases h.2 with ⟨hv, hn0⟩ | ⟨g, cap, cur, hv, hbg, _⟩
  · injection hv with h1 h2 h3
    subst h1; subst hn0; subst h3
    exact (markInt64S_nil k0 w).mono fun e w' ⟨he, hw⟩ => by subst hw; exact ⟨he, World.ownsRow_nil _ _ _ _, Moved.refl _ _ _⟩
  · injection hv with h1 h2 h3
    subst h1
    refine (markInt64S_some g n c k0 base xs w h hn hk0).mono fun e w' ⟨he, ho, hg, _⟩ => ⟨he, ho, Moved.of_grown hg ?_⟩
    intro k hk
    exact hs k hk
end Go.Proofs.Ytdpclbmcmgknjaa
