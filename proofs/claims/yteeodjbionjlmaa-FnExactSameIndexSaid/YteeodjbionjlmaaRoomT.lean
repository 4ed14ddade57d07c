import Derived.Test.YteeodjbionjlmaaChecked
import Derived.WalkKit
import Derived.ProofKit
import Derived.OpenShut
import Derived.ShutString
import Derived.ChangeOld
import Derived.Below
import Derived.Lib.Hide
import Derived.Deep.Onto
import Derived.Test.YteeodjbionjlmaaEqM
import Derived.Test.YteeodjbionjlmaaEqI
import Derived.Test.YteeodjbionjlmaaEqB
namespace Go.Proofs.Yteeodjbionjlmaa
open Go.ChangeShapes Go.WideShapes Go.ChangeAt Go.RowKit
open Go.ChangeMaps (open_string shut_string)
set_option linter.unusedVariables false
set_option maxRecDepth 100000
theorem bcell {W w1 : World} (hb : Below W.heap.size W w1) : (∀ b o, b < W.heap.size → w1.cell? ⟨b, o, none⟩ = W.cell? ⟨b, o, none⟩) ∧ (∀ b o, b < W.heap.size → w1.frozen? ⟨b, o, none⟩ = W.frozen? ⟨b, o, none⟩) :=
  ⟨fun b o h => hb.cell (p := ⟨b, o, none⟩) h, fun b o h => hb.frozen (p := ⟨b, o, none⟩) h⟩
def RoomAt (w : World) (B : Nat) (A1 : Option Addr) (n1 : Nat) (A2 : Option Addr) (n2 : Nat) (A3 : Option Addr) (n3 : Nat) (ms : List Mb) (vs : List Iv) (bs : List Bn) : Prop :=
  SRow 4 mbC w B A1 n1 ms ∧ SRow 3 ivC w B A2 n2 vs ∧ SRow 2 bnC w B A3 n3 bs
section
variable {w w' : World} {B B' n1 n2 n3 : Nat} {A1 A2 A3 : Option Addr} {ms : List Mb} {vs : List Iv} {bs : List Bn}
theorem RoomAt.below (h : RoomAt w B A1 n1 A2 n2 A3 n3 ms vs bs) (hb : Below B w w') : RoomAt w' B A1 n1 A2 n2 A3 n3 ms vs bs := ⟨h.1.below hb, h.2.1.below hb, h.2.2.below hb⟩
theorem RoomAt.more (h : RoomAt w B A1 n1 A2 n2 A3 n3 ms vs bs) (hB : B ≤ B') : RoomAt w B' A1 n1 A2 n2 A3 n3 ms vs bs := ⟨h.1.more hB, h.2.1.more hB, h.2.2.more hB⟩
theorem RoomAt.to (h : RoomAt w w.heap.size A1 n1 A2 n2 A3 n3 ms vs bs) (hb : Below w.heap.size w w') : RoomAt w' w'.heap.size A1 n1 A2 n2 A3 n3 ms vs bs := ⟨h.1.to hb, h.2.1.to hb, h.2.2.to hb⟩
theorem RoomAt.alloc (h : RoomAt w w.heap.size A1 n1 A2 n2 A3 n3 ms vs bs) (o : Obj) : RoomAt (w.alloc o) (w.alloc o).heap.size A1 n1 A2 n2 A3 n3 ms vs bs := h.to ((Below.refl _ _).alloc (Nat.le_refl _) _)
theorem SRow.keepA {α : Type} {sz : Nat} {f : α → List Value} {n : Nat} {A : Option Addr} {xs : List α} (h : SRow sz f w B A n xs) (hk : ∀ p : Addr, p.block < B → w'.cell? p = w.cell? p) : SRow sz f w' B A n xs := h.keep hk
end
end Go.Proofs.Yteeodjbionjlmaa
