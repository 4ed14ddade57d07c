import Derived.Test.YtgomffcdoglbfaaChecked
import Derived.WalkKit
import Derived.ProofKit
import Derived.OpenShut
import Derived.ShutString
import Derived.ChangeOld
import Derived.Below
import Derived.Lib.Hide
import Derived.Maps.OwnSet
import Derived.Maps.OwnOps
import Derived.Test.YtgomffcdoglbfaaZWatC
import Derived.Test.YtgomffcdoglbfaaZMoveS
namespace Go.Proofs.Ytgomffcdoglbfaa
open Go.ChangeShapes Go.WideShapes Go.ChangeAt Go.RowKit
open Go.ChangeMaps (open_string shut_string)
set_option linter.unusedVariables false
open Go.Maps
set_option maxRecDepth 100000
theorem own_stir {w w' : World} {b e s n : Nat} {v : Value} {xs : List Value} {ks : List Nat} (ho : w.ownsRow b e s v n xs) (hs : Stir w w' ks) (hn : ∀ g, v.ownBlock = some g → g ∉ ks) : w'.ownsRow b e s v n xs :=
  own_block ho fun g hg => hs.block g (ho.lt g hg).2 (hn g hg)
theorem own_cells {w : World} {b e s n g : Nat} {v : Value} {xs : List Value} (ho : w.ownsRow b e s v n xs) (hg : v.ownBlock = some g) : ∃ cur, w.heap[g]? = some (.cells cur e (0, 0)) := by
  rcases ho.2 with ⟨rfl, _⟩ | ⟨g', cap, cur, rfl, _, hc, _⟩
  · cases hg
  · injection hg with hg
    subst hg
    exact ⟨cur, hc⟩
theorem WatchAt.not_cells {w : World} {base g N k t : Nat} {xs : List Wt} {cs : Array Value} {z : Nat × Nat} (h : WatchAt w base g N xs) (hk : w.heap[k]? = some (.cells cs t z)) : k ∉ wblk g xs := by
  intro hm
  rcases List.mem_cons.1 hm with rfl | hm
  · obtain ⟨es, cl, he, _⟩ := h.own
    rw [he] at hk; cases hk
  · obtain ⟨x, hx, rfl⟩ := List.mem_map.1 hm
    obtain ⟨s, r, hc⟩ := (h.chan x hx).2
    rw [hc] at hk; cases hk
theorem WatchAt.not_row {w : World} {base g N b e s n : Nat} {xs : List Wt} {v : Value} {ys : List Value} (h : WatchAt w base g N xs) (ho : w.ownsRow b e s v n ys) : ∀ k, v.ownBlock = some k → k ∉ wblk g xs := fun k hk => by
  obtain ⟨cur, hc⟩ := own_cells ho hk
  exact h.not_cells hc
theorem WatchAt.not_blk {w : World} {base g N G t : Nat} {xs : List Wt} {cs : Array Value} (h : WatchAt w base g N xs) (hb : Blk w G t cs) : G ∉ wblk g xs := h.not_cells hb
theorem Stir.of_grown {w w' : World} {row : Option Nat} (hg : w.grownBy w' row) : Stir w w' row.toList := ⟨hg.os, hg.tape, hg.output, hg.size, fun k hk hn => hg.block k hk (fun e => hn (by rw [← e]; simp))⟩
theorem Stir.grown {w0 w w' : World} {ks : List Nat} {row : Option Nat} (h : Stir w0 w ks) (hg : w.grownBy w' row) (hr : ∀ g, row = some g → w0.heap.size ≤ g) : Stir w0 w' ks :=
  ⟨hg.os.trans h.os, hg.tape.trans h.tape, hg.output.trans h.output, Nat.le_trans h.size hg.size, fun k hk hn => (hg.block k (Nat.lt_of_lt_of_le hk h.size) (fun e => by have := hr k e.symm; omega)).trans (h.block k hk hn)⟩
theorem Stir.call {w0 w w' : World} {ks : List Nat} (h : Stir w0 w ks) (hb : Below w.heap.size w w') : Stir w0 w' ks := h.trans (Stir.of_below hb)
theorem WatchAt.grown {w w' : World} {base g N b e s n : Nat} {xs : List Wt} {v : Value} {ys : List Value} (h : WatchAt w base g N xs) (ho : w.ownsRow b e s v n ys) (hg : w.grownBy w' v.ownBlock) : WatchAt w' base g N xs :=
  h.stir (Stir.of_grown hg) fun k hk hm => by
    have : v.ownBlock = some k := by cases hv : v.ownBlock <;> rw [hv] at hm <;> simp at hm; rw [hm]
    exact h.not_row ho k this hk
theorem take_wbs {xs : List Wt} {k : Nat} {z : Wt} (hz : xs[k]? = some z) : (wbs (xs.take (k + 1))).flatMap bnC = (wbs (xs.take k)).flatMap bnC ++ [.int .i64 z.id, .int .i64 z.til] := by
  unfold wbs
  rw [List.take_add_one, hz]
  simp [bnC, wB]
/-- a watcher is asked: the watch is as before -/
theorem watch_last {w w' : World} {base g N : Nat} {xs : List Wt} {z : Wt} (h : WatchAt w base g N xs) (hz : z ∈ xs) (hs : Stir w w' [z.ch]) (hc : Chan w' z.ch z.til) : WatchAt w' base g N xs := by
  refine ⟨h.lo, ?_, h.rise, fun x hx => ⟨(h.chan x hx).1, ?_⟩, h.apart⟩
  · obtain ⟨es, clock, he, q⟩ := h.own
    exact ⟨es, clock, (hs.block g h.own.lt (by simpa using (h.ne hz).symm)).trans he, q⟩
  · by_cases e : x.ch = z.ch
    · obtain rfl := apart_same h.apart hx hz e
      exact hc
    · exact (h.chan x hx).2.stir hs (by simpa using e)
end Go.Proofs.Ytgomffcdoglbfaa
