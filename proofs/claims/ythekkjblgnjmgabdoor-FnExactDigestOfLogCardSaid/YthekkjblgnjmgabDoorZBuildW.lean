import Derived.Test.YthekkjblgnjmgabDoorChecked
import Derived.WalkKit
import Derived.ProofKit
import Derived.OpenShut
import Derived.ShutString
import Derived.ChangeOld
import Derived.Below
import Derived.Lib.Hide
import Derived.Test.YthekkjblgnjmgabDoorZDigP
import Derived.Test.YthekkjblgnjmgabDoorShelfJ
namespace Go.Proofs.YthekkjblgnjmgabDoor
open Go.ChangeShapes Go.WideShapes Go.ChangeAt Go.RowKit
open Go.ChangeMaps (open_string shut_string)
set_option linter.unusedVariables false
theorem Tryd.lays166 : Go.Proofs.Lays.n166 Tryd.prog Tryd.lays156_ren :=
  have L := Tryd.lays156
  { mixed := L.mixed, f166 := L.f166, f240 := L.f240, f276 := L.f276, t0 := L.t0, a0 := L.a0, z0 := L.z0, v0 := L.v0, t3 := L.t3, a3 := L.a3, z3 := L.z3, v3 := L.v3, t4 := L.t4, a4 := L.a4, z4 := L.z4, v4 := L.v4, t9 := L.t9, a9 := L.a9, z9 := L.z9, v9 := L.v9, t20 := L.t20, a20 := L.a20, z20 := L.z20, v20 := L.v20, t37 := L.t37, a37 := L.a37, z37 := L.z37, v37 := L.v37, t70 := L.t70, a70 := L.a70, z70 := L.z70, v70 := L.v70, t72 := L.t72, a72 := L.a72, z72 := L.z72, v72 := L.v72, t75 := L.t75, a75 := L.a75, z75 := L.z75, v75 := L.v75, t164 := L.t164, a164 := L.a164, z164 := L.z164, v164 := L.v164 }
abbrev IsB (B b : Nat) (t : ByteArray) (w : World) : Prop := Lib.IsBuilder 44 5 B b (Lib.byteCells t.data.toList) w
theorem cells_app (a s : ByteArray) : Lib.byteCells a.data.toList ++ Lib.strCells s = Lib.byteCells (a ++ s).data.toList := by
  rw [Lib.strCells_eq]; simp [Lib.byteCells]
theorem cells_len (a : ByteArray) : (Lib.byteCells a.data.toList).length = a.size := by simp [Lib.byteCells]
theorem write_any (B b : Nat) (t s : ByteArray) (w : World) (h : IsB B b t w) (hl : t.size + s.size ≤ 1000000) (hB : B ≤ w.heap.size) :
    Calls Tryd.prog 15 #[.pointer (some ⟨b, 0, none⟩), .string s] w fun e w' => e = .returned (.tuple #[.int .i64 s.size, .nilIface]) ∧ IsB B b (t ++ s) w' ∧ Below B w w' := by
  refine (Any.Builder_WriteString Tryd.lays166 Tryd.Builder_Extra_156 B b _ s w h (by rw [cells_len]; omega) hB).mono ?_
  rintro e w' ⟨he, hb, hbel⟩
  exact ⟨he, .inr (by rw [← cells_app]; exact hb), hbel⟩
theorem string_any (B b : Nat) (t : ByteArray) (w : World) (h : IsB B b t w) (hB : B ≤ w.heap.size) :
    Calls Tryd.prog 19 #[.pointer (some ⟨b, 0, none⟩)] w fun e w' => e = .returned (.string t) ∧ Below B w w' :=
  Tryd.Builder_String_any B b t.data.toList w h hB
end Go.Proofs.YthekkjblgnjmgabDoor
