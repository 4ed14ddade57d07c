import Derived.Test.YteeodjbionjlmaaChecked
import Derived.WalkKit
import Derived.ProofKit
import Derived.OpenShut
import Derived.ShutString
import Derived.ChangeOld
import Derived.Below
import Derived.Lib.Hide
import Derived.Shelf.Strings.BuilderK
import Derived.Test.YteeodjbionjlmaaJyb
import Derived.Test.YteeodjbionjlmaaShelfJ
import Derived.Test.YteeodjbionjlmaaJb
namespace Go.Proofs.Yteeodjbionjlmaa
open Go.ChangeShapes Go.WideShapes Go.ChangeAt Go.RowKit
open Go.ChangeMaps (open_string shut_string)
set_option linter.unusedVariables false
theorem Try.lays166 : Go.Proofs.Lays.n166 Try.prog Try.lays105_ren :=
  have L := Try.lays105
  { mixed := L.mixed, f166 := L.f166, f240 := L.f240, f276 := L.f276, t0 := L.t0, a0 := L.a0, z0 := L.z0, v0 := L.v0, t3 := L.t3, a3 := L.a3, z3 := L.z3, v3 := L.v3, t4 := L.t4, a4 := L.a4, z4 := L.z4, v4 := L.v4, t9 := L.t9, a9 := L.a9, z9 := L.z9, v9 := L.v9, t20 := L.t20, a20 := L.a20, z20 := L.z20, v20 := L.v20, t37 := L.t37, a37 := L.a37, z37 := L.z37, v37 := L.v37, t70 := L.t70, a70 := L.a70, z70 := L.z70, v70 := L.v70, t72 := L.t72, a72 := L.a72, z72 := L.z72, v72 := L.v72, t75 := L.t75, a75 := L.a75, z75 := L.z75, v75 := L.v75, t164 := L.t164, a164 := L.a164, z164 := L.z164, v164 := L.v164 }
/-- the builder in block b holds t, its head frozen or not -/
def IsBF (B b : Nat) (t : ByteArray) (w : World) : Prop := Lib.IsBuilderF 132 5 B b (Lib.byteCells t.data.toList) w
theorem cells_appF (a s : ByteArray) : Lib.byteCells a.data.toList ++ Lib.strCells s = Lib.byteCells (a ++ s).data.toList := by
  rw [Lib.strCells_eq]; simp [Lib.byteCells]
theorem cells_lenF (a : ByteArray) : (Lib.byteCells a.data.toList).length = a.size := by simp [Lib.byteCells]
theorem write_k (B b : Nat) (t s : ByteArray) (w : World) (h : IsBF B b t w) (hl : t.size + s.size ≤ 1000000) (hB : B ≤ w.heap.size) :
    Calls Try.prog 126 #[.pointer (some ⟨b, 0, none⟩), .string s] w fun e w' => e = .returned (.tuple #[.int .i64 s.size, .nilIface]) ∧ IsBF B b (t ++ s) w' ∧ Below B w w' ∧ Lib.OthersKept 5 (some b) w w' := by
  refine (Any.Builder_WriteString_k Try.lays166 Try.Builder_Extra_105 B b _ s w h (by rw [cells_lenF]; omega) hB).mono ?_
  rintro e w' ⟨he, hb, hbel, hk⟩
  exact ⟨he, .inr (by rw [← cells_appF]; exact hb), hbel, hk⟩
theorem string_k (B b : Nat) (t : ByteArray) (w : World) (h : IsBF B b t w) (hB : B ≤ w.heap.size) :
    Calls Try.prog 127 #[.pointer (some ⟨b, 0, none⟩)] w fun e w' => e = .returned (.string t) ∧ Below B w w' ∧ Lib.OthersKept 5 (some b) w w' := by
  refine (Any.Builder_String_any_k Try.lays169 Try.Builder_Extra_169 B b t.data.toList w h hB).mono ?_
  rintro e w' ⟨he, -, hbel, hk⟩
  exact ⟨he, hbel, hk⟩
theorem IsBF.box {B b : Nat} {t : ByteArray} {w : World} (h : IsBF B b t w) : ∃ cs, w.heap[b]? = some (.cells cs 132 (0, 0)) := by
  rcases h with ⟨-, v, h, -⟩ | ⟨-, v, h, -⟩ <;> exact ⟨_, h⟩
/-- it stands where its two blocks stand -/
theorem IsBF.keep {B b : Nat} {t : ByteArray} {X Y : World} (h : IsBF B b t X) (k : ∀ (i : Nat) cs e fz, X.heap[i]? = some (.cells cs e fz) → (e = 132 ∨ e = 5) → Y.heap[i]? = some (.cells cs e fz)) : IsBF B b t Y := by
  have one : ∀ {p : Value}, Lib.BuilderAtF 132 5 B b p (Lib.byteCells t.data.toList) X → Lib.BuilderAtF 132 5 B b p (Lib.byteCells t.data.toList) Y := by
    rintro p ⟨hB, v, hb, ho, hne⟩
    refine ⟨hB, v, k _ _ _ _ hb (.inl rfl), ⟨ho.1, ?_⟩, hne⟩
    rcases ho.2 with h0 | ⟨g, cap, cur, fz, hv, hg, hh, rest⟩
    · exact .inl h0
    · exact .inr ⟨g, cap, cur, fz, hv, hg, k _ _ _ _ hh (.inr rfl), rest⟩
  rcases h with h | h
  · exact .inl (one h)
  · exact .inr (one h)
theorem IsBF.grown {B b : Nat} {t : ByteArray} {X Y : World} {row : Option Nat} (h : IsBF B b t X) (hg : X.grownBy Y row) (hr : ∀ i, row = some i → ∀ cs e fz, X.heap[i]? = some (.cells cs e fz) → e ≠ 132 ∧ e ≠ 5) : IsBF B b t Y :=
  h.keep fun i cs e fz hi he => (hg.block i (Array.getElem?_eq_some_iff.1 hi).1 (fun er => by obtain ⟨h1, h2⟩ := hr i er.symm _ _ _ hi; rcases he with rfl | rfl; exact h1 rfl; exact h2 rfl)).trans hi
theorem IsBF.alloc {B b : Nat} {t : ByteArray} {X : World} (h : IsBF B b t X) (o : Obj) : IsBF B b t (X.alloc o) := h.grown (World.grownBy_alloc X o none) (fun i e => by cases e)
theorem IsBF.below {B b : Nat} {t : ByteArray} {X Y : World} (h : IsBF B b t X) (hb : Below X.heap.size X Y) : IsBF B b t Y :=
  h.keep fun i cs e fz hi _ => (hb.block i (Array.getElem?_eq_some_iff.1 hi).1).trans hi
theorem IsBF.rl {B b n0 : Nat} {t : ByteArray} {X Y : World} {r : TypeId} (h : IsBF B b t X) (h1 : 132 ≠ r) (h2 : 5 ≠ r) (k : Rl r n0 X Y) : IsBF B b t Y :=
  h.keep fun i cs e fz hi he => k.same _ _ hi (.inr (by rcases he with rfl | rfl <;> simp [loose, h1, h2]))
theorem IsBF.set {B b n : Nat} {t : ByteArray} {e : TypeId} {v : Value} {X : World} (h : IsBF B b t X) (hx : Boxed X n e v) (h1 : e ≠ 132) (h2 : e ≠ 5) (u : Value) : IsBF B b t (X.setCell ⟨n, 0, none⟩ u) :=
  h.grown (grownBy_setCell' X n u) (fun i ei cs e2 fz hi => by cases ei; rw [show X.heap[n]? = _ from hx] at hi; cases hi; exact ⟨h1, h2⟩)
/-- what a builder's write leaves as it lay -/
theorem Kt.others {T : TypeId → Bool} {X Y : World} {b : Nat} {cs : Array Value} {t : TypeId} {fz : Nat × Nat} (h : Lib.OthersKept 5 (some b) X Y) (hb : X.heap[b]? = some (.cells cs t fz)) (ht : T t = false) (hu : T 5 = false) (hs : X.heap.size ≤ Y.heap.size) : Kt T X Y :=
  ⟨hs, fun k o hk hh => h k o hk (fun e => by cases e; rw [hb] at hk; cases hk; rw [show held T (.cells cs t fz) = T t from rfl, ht] at hh; cases hh) (fun c f e => by subst e; rw [show held T (.cells c 5 f) = T 5 from rfl, hu] at hh; cases hh)⟩
theorem keeps_others {X Y : World} {b : Nat} {cs : Array Value} {t : TypeId} {fz : Nat × Nat} (h : Lib.OthersKept 5 (some b) X Y) (hb : X.heap[b]? = some (.cells cs t fz)) (hs : X.heap.size ≤ Y.heap.size) : KeepsOthers X Y :=
  ⟨hs, fun k o hk ho => h k o hk (fun e => by cases e; rw [hb] at hk; cases hk; cases ho) (fun c f e => by subst e; cases ho)⟩
theorem boxed_others {X Y : World} {b n : Nat} {e : TypeId} {v : Value} (hx : Boxed X n e v) (h : Lib.OthersKept 5 (some b) X Y) (hn : n ≠ b) (he : e ≠ 5) : Boxed Y n e v :=
  h n _ hx (fun e2 => hn (by cases e2; rfl)) (fun c f e2 => by cases e2; exact he rfl)
end Go.Proofs.Yteeodjbionjlmaa
