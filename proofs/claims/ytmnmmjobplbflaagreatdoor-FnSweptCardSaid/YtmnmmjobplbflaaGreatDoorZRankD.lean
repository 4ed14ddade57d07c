import Derived.Test.YtmnmmjobplbflaaGreatDoorChecked
import Derived.WalkKit
import Derived.ProofKit
import Derived.OpenShut
import Derived.ShutString
import Derived.ChangeOld
import Derived.Below
import Derived.Lib.Hide
import Derived.Shelf.Abstract
import Derived.OwnWalkIn
import Derived.TacticsInMore
import Derived.LoopNIn
import Derived.LoopIn
import Derived.RangeFuncBox
import Derived.RangeFuncNested
import Derived.RangeFuncLeaves
import Derived.RangeFuncBound
import Derived.RangeFuncCalls
import Derived.Maps.AppendAt
import Derived.Test.YtmnmmjobplbflaaGreatDoorZRankS
namespace Go.Proofs.YtmnmmjobplbflaaGreatDoor
open Go.ChangeShapes Go.WideShapes Go.ChangeAt Go.RowKit
open Go.ChangeMaps (open_string shut_string)
set_option linter.unusedVariables false
set_option maxRecDepth 100000
theorem collectM_any (Bs : Nat) (A : Option Addr) (cap : Nat) (ms : List Mb) (hl : ms.length ≤ 1048576) (w : World) (hBs : Bs < w.heap.size)
    (hc : w.cell? ⟨Bs, 0, none⟩ = some (.slice A ms.length cap)) (hr : SRow 4 mbC w w.heap.size A ms.length ms) :
    Calls Tryz.prog 120 #[.func (.func 122) #[] #[.pointer (some ⟨Bs, 0, none⟩)]] w fun e W' => ∃ v, e = .returned v ∧ W'.ownsRow w.heap.size 66 4 v ms.length (ms.flatMap mbC) ∧ Below w.heap.size w W' :=
  (callsIn_wide (n := 7)).1 (collectM_in Fence.wide 7 trivial trivial trivial rfl (by omega) Bs A cap ms hl w hBs hc hr)
theorem valuesM_any (a : Option Addr) (len cap : Nat) (w : World) :
    Calls Tryz.prog 94 #[.slice a len cap] w fun e w' => e = .returned (.func (.func 122) #[] #[.pointer (some ⟨w.heap.size, 0, none⟩)]) ∧ w' = w.alloc (.cells #[.slice a len cap] 24) :=
  (callsIn_wide (n := 7)).1 (valuesM_in Fence.wide 7 trivial rfl a len cap w)
theorem sortedFuncM_any (Bs : Nat) (A : Option Addr) (cap : Nat) (ms : List Mb) (hl : ms.length ≤ 1048576) (w : World) (hBs : Bs < w.heap.size)
    (hc : w.cell? ⟨Bs, 0, none⟩ = some (.slice A ms.length cap)) (hr : SRow 4 mbC w w.heap.size A ms.length ms) :
    Calls Tryz.prog 93 #[.func (.func 122) #[] #[.pointer (some ⟨Bs, 0, none⟩)], .func (.func 95) #[] #[]] w fun e W' => ∃ (v : Value) (ys : List Mb), e = .returned v ∧ ys.Perm ms ∧ (ys.Pairwise fun a b => rankLt b a = false) ∧ W'.ownsRow w.heap.size 66 4 v ms.length (ys.flatMap mbC) ∧ Below w.heap.size w W' := by
  go_enter Tryz.func93, Tryz.ntmps93
  go_wp2_with (first | (go_at_call 120; refine (collectM_any Bs A cap ms hl w hBs hc hr).mono ?_; rintro e w1 ⟨v, rfl, ho, hb⟩) | (go_at_call 121; refine (sortFuncM_any _ ms _ _ ho hl hb.size).mono ?_; rintro e w2 ⟨rfl, ys, hp, hs, ho2, hb2⟩))
  go_ret
  exact ⟨_, ys, rfl, hp, hs, ho2, hb.trans hb2⟩
theorem ranked_any (A : Option Addr) (n c : Nat) (ms : List Mb) (w : World) (hn : n ≤ 1048576) (h : SRow 4 mbC w w.heap.size A n ms) :
    Calls Tryz.prog 46 #[.slice A n c] w fun e W' => ∃ (v : Value) (ys : List Mb), e = .returned v ∧ ys.Perm ms ∧ (ys.Pairwise fun a b => rankLt b a = false) ∧ W'.ownsRow w.heap.size 66 4 v n (ys.flatMap mbC) ∧ Below w.heap.size w W' := by
  obtain rfl := h.1
  have hb0 : Below w.heap.size w (w.alloc (.cells #[.slice A ms.length c] 24)) := (Below.refl _ _).alloc (Nat.le_refl _) _
  have hcell : (w.alloc (.cells #[.slice A ms.length c] 24)).cell? ⟨w.heap.size, 0, none⟩ = some (.slice A ms.length c) := (Boxed.new w 24 (.slice A ms.length c)).cell
  have hs1 := sortedFuncM_any w.heap.size A c ms hn _ (by simp) hcell (h.to hb0)
  clear hcell
  go_enter Tryz.func46, Tryz.ntmps46
  go_wp2_with (first | (go_at_call 94; refine (valuesM_any _ _ _ _).mono ?_; rintro e w1 ⟨rfl, rfl⟩) | (go_at_call 93; refine hs1.mono ?_; rintro e w2 ⟨v, ys, rfl, hp, hs, ho2, hb2⟩))
  go_ret
  exact ⟨_, ys, rfl, hp, hs, World.ownsRow.mono ho2 hb0.size, hb0.trans (hb2.mono hb0.size)⟩
end Go.Proofs.YtmnmmjobplbflaaGreatDoor
