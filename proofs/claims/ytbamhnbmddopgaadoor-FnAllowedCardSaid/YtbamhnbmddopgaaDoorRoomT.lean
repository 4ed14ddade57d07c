import Derived.Test.YtbamhnbmddopgaaDoorChecked
import Derived.WalkKit
import Derived.ProofKit
import Derived.OpenShut
import Derived.ShutString
import Derived.ChangeOld
import Derived.Below
import Derived.Lib.Hide
import Derived.Deep.Onto
import Derived.Test.YtbamhnbmddopgaaDoorEqM
import Derived.Test.YtbamhnbmddopgaaDoorEqI
import Derived.Test.YtbamhnbmddopgaaDoorEqB
namespace Go.Proofs.YtbamhnbmddopgaaDoor
open Go.ChangeShapes Go.WideShapes Go.ChangeAt Go.RowKit
open Go.ChangeMaps (open_string shut_string)
set_option linter.unusedVariables false
set_option maxRecDepth 100000
theorem bcell {W w1 : World} (hb : Below W.heap.size W w1) : (∀ b o, b < W.heap.size → w1.cell? ⟨b, o, none⟩ = W.cell? ⟨b, o, none⟩) ∧ (∀ b o, b < W.heap.size → w1.frozen? ⟨b, o, none⟩ = W.frozen? ⟨b, o, none⟩) :=
  ⟨fun b o h => hb.cell (p := ⟨b, o, none⟩) h, fun b o h => hb.frozen (p := ⟨b, o, none⟩) h⟩
def RoomAt (w : World) (B : Nat) (A1 : Option Addr) (n1 : Nat) (A2 : Option Addr) (n2 : Nat) (A3 : Option Addr) (n3 : Nat) (ms : List Mb) (vs : List Iv) (bs : List Bn) : Prop :=
  SRow 4 mbC w B A1 n1 ms ∧ SRow 3 ivC w B A2 n2 vs ∧ SRow 2 bnC w B A3 n3 bs
def RoomOwn (w : World) (base : Nat) (A1 : Option Addr) (n1 c1 : Nat) (A2 : Option Addr) (n2 c2 : Nat) (A3 : Option Addr) (n3 c3 : Nat) (ms : List Mb) (vs : List Iv) (bs : List Bn) : Prop :=
  w.ownsRow base 42 4 (.slice A1 n1 c1) n1 (ms.flatMap mbC) ∧ w.ownsRow base 57 3 (.slice A2 n2 c2) n2 (vs.flatMap ivC) ∧ w.ownsRow base 60 2 (.slice A3 n3 c3) n3 (bs.flatMap bnC)
section
variable {w w' : World} {B B' n1 n2 n3 : Nat} {A1 A2 A3 : Option Addr} {ms : List Mb} {vs : List Iv} {bs : List Bn}
theorem RoomAt.below (h : RoomAt w B A1 n1 A2 n2 A3 n3 ms vs bs) (hb : Below B w w') : RoomAt w' B A1 n1 A2 n2 A3 n3 ms vs bs := ⟨h.1.below hb, h.2.1.below hb, h.2.2.below hb⟩
theorem RoomAt.more (h : RoomAt w B A1 n1 A2 n2 A3 n3 ms vs bs) (hB : B ≤ B') : RoomAt w B' A1 n1 A2 n2 A3 n3 ms vs bs := ⟨h.1.more hB, h.2.1.more hB, h.2.2.more hB⟩
theorem RoomAt.to (h : RoomAt w w.heap.size A1 n1 A2 n2 A3 n3 ms vs bs) (hb : Below w.heap.size w w') : RoomAt w' w'.heap.size A1 n1 A2 n2 A3 n3 ms vs bs := ⟨h.1.to hb, h.2.1.to hb, h.2.2.to hb⟩
theorem RoomAt.alloc (h : RoomAt w w.heap.size A1 n1 A2 n2 A3 n3 ms vs bs) (o : Obj) : RoomAt (w.alloc o) (w.alloc o).heap.size A1 n1 A2 n2 A3 n3 ms vs bs := h.to ((Below.refl _ _).alloc (Nat.le_refl _) _)
theorem RoomOwn.at_ {base c1 c2 c3 : Nat} (h : RoomOwn w base A1 n1 c1 A2 n2 c2 A3 n3 c3 ms vs bs) : RoomAt w w.heap.size A1 n1 A2 n2 A3 n3 ms vs bs :=
  ⟨SRow.of_own_any mbC_len (by omega) h.1, SRow.of_own_any ivC_len (by omega) h.2.1, SRow.of_own_any bnC_len (by omega) h.2.2⟩
theorem RoomOwn.below {base c1 c2 c3 : Nat} (h : RoomOwn w base A1 n1 c1 A2 n2 c2 A3 n3 c3 ms vs bs) (hb : Below B w w') (hB : w.heap.size ≤ B) : RoomOwn w' base A1 n1 c1 A2 n2 c2 A3 n3 c3 ms vs bs :=
  ⟨own_below h.1 hb hB, own_below h.2.1 hb hB, own_below h.2.2 hb hB⟩
theorem RoomOwn.mono {base base' c1 c2 c3 : Nat} (h : RoomOwn w base A1 n1 c1 A2 n2 c2 A3 n3 c3 ms vs bs) (hb : base' ≤ base) : RoomOwn w base' A1 n1 c1 A2 n2 c2 A3 n3 c3 ms vs bs :=
  ⟨World.ownsRow.mono h.1 hb, World.ownsRow.mono h.2.1 hb, World.ownsRow.mono h.2.2 hb⟩
theorem SRow.keepA {α : Type} {sz : Nat} {f : α → List Value} {n : Nat} {A : Option Addr} {xs : List α} (h : SRow sz f w B A n xs) (hk : ∀ p : Addr, p.block < B → w'.cell? p = w.cell? p) : SRow sz f w' B A n xs := h.keep hk
end
end Go.Proofs.YtbamhnbmddopgaaDoor
