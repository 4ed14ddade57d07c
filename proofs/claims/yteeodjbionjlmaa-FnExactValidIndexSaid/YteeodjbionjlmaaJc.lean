import Derived.Test.YteeodjbionjlmaaChecked
import Derived.WalkKit
import Derived.ProofKit
import Derived.OpenShut
import Derived.ShutString
import Derived.ChangeOld
import Derived.Below
import Derived.Lib.Hide
import Derived.OwnWalk
import Derived.Laws.OwnMore
import Derived.Deep.Slices
import Derived.Deep.Fields
import Derived.ChangeSame
import Derived.Deep.MidRow
import Derived.Test.YteeodjbionjlmaaJb
import Derived.Test.YteeodjbionjlmaaJr
import Derived.Test.YteeodjbionjlmaaJa
import Derived.StillTailTactics
import Derived.Deep.Onto
namespace Go.Proofs.Yteeodjbionjlmaa
open Go.ChangeShapes Go.WideShapes Go.ChangeAt Go.RowKit
open Go.ChangeMaps (open_string shut_string)
set_option linter.unusedVariables false
open Go.Deep
set_option maxRecDepth 100000
/-- A slice of structs that reads as a list: f tells the cells of an element, sz their number. -/
def SRow {α : Type} (sz : Nat) (f : α → List Value) (w : World) (B : Nat) (A : Option Addr) (n : Nat) (xs : List α) : Prop :=
  xs.length = n ∧ (0 < n → ∃ b off, A = some ⟨b, off, none⟩ ∧ b < B ∧ ∀ j z, xs[j]? = some z → w.rangeAt b (off + j * sz) (f z))
def mbC (m : Mb) : List Value := [.int .i64 m.id, .int .i64 m.role, .int .i64 m.since, .int .i64 m.quiet]
def ivC (x : Iv) : List Value := [.int .i64 x.id, .int .i64 x.byy, .int .i64 x.til]
def bnC (x : Bn) : List Value := [.int .i64 x.id, .int .i64 x.til]
section
variable {α : Type} {sz : Nat} {f : α → List Value} {w w' : World} {B B' n : Nat} {A : Option Addr} {xs : List α}
theorem SRow.none_ : SRow sz f w B A 0 ([] : List α) := ⟨rfl, fun h => absurd h (by omega)⟩
theorem SRow.at_ {k : Nat} (h : SRow sz f w B A n xs) (hk : k < n) : ∃ b off z, A = some ⟨b, off, none⟩ ∧ b < B ∧ xs[k]? = some z ∧ w.rangeAt b (off + k * sz) (f z) := by
  obtain ⟨b, off, e, hb, hc⟩ := h.2 (by omega)
  have hl : k < xs.length := by have := h.1; omega
  exact ⟨b, off, xs[k], e, hb, List.getElem?_eq_getElem hl, hc k _ (List.getElem?_eq_getElem hl)⟩
theorem SRow.keep (h : SRow sz f w B A n xs) (hk : ∀ p : Addr, p.block < B → w'.cell? p = w.cell? p) : SRow sz f w' B A n xs :=
  ⟨h.1, fun hn => by
    obtain ⟨b, off, e, hb, hc⟩ := h.2 hn
    exact ⟨b, off, e, hb, fun j u hu i v hv => (hk _ hb).trans (hc j u hu i v hv)⟩⟩
theorem SRow.more (h : SRow sz f w B A n xs) (hB : B ≤ B') : SRow sz f w B' A n xs :=
  ⟨h.1, fun hn => by
    obtain ⟨b, off, e, hb, hc⟩ := h.2 hn
    exact ⟨b, off, e, by omega, hc⟩⟩
theorem SRow.below (h : SRow sz f w B A n xs) (hb : Below B w w') : SRow sz f w' B A n xs := h.keep fun _ hp => hb.cell hp
theorem SRow.to (h : SRow sz f w w.heap.size A n xs) (hb : Below w.heap.size w w') : SRow sz f w' w'.heap.size A n xs := (h.below hb).more hb.size
theorem SRow.drewN (h : SRow sz f w B A n xs) (k : Nat) : SRow sz f (w.drewN k) B A n xs := h
theorem SRow.alloc (h : SRow sz f w B A n xs) (hB : B ≤ w.heap.size) (o : Obj) : SRow sz f (w.alloc o) B A n xs := h.keep fun p hp => World.cell?_alloc_lt w o p (by omega)
theorem flat_get (hf : ∀ x, (f x).length = sz) : ∀ (xs : List α) (j : Nat) (z : α), xs[j]? = some z → ∀ i, i < sz → (xs.flatMap f)[j * sz + i]? = (f z)[i]? := by
  intro xs
  induction xs with
  | nil => intro j z h; simp at h
  | cons x r ih =>
    intro j z h i hi
    rw [List.flatMap_cons]
    cases j with
    | zero =>
      simp at h; subst h
      rw [List.getElem?_append_left (by rw [hf]; omega)]
      simp
    | succ j =>
      have h' : r[j]? = some z := by simpa using h
      have e : (j + 1) * sz + i = sz + (j * sz + i) := by rw [Nat.add_mul]; omega
      rw [e, List.getElem?_append_right (by rw [hf]; omega), hf, Nat.add_sub_cancel_left]
      exact ih j z h' i hi
theorem flat_len (hf : ∀ x, (f x).length = sz) (xs : List α) : (xs.flatMap f).length = xs.length * sz := by
  induction xs with
  | nil => simp
  | cons x r ih => rw [List.flatMap_cons, List.length_append, ih, hf, List.length_cons, Nat.add_mul]; omega
theorem SRow.of_own {base e c g : Nat} (hf : ∀ x, (f x).length = sz) (hsz : 0 < sz) (h : w.ownsRow base e sz (.slice (some ⟨g, 0, none⟩) n c) n (xs.flatMap f)) : SRow sz f w w.heap.size (some ⟨g, 0, none⟩) n xs := by
  have hl : xs.length = n := by
    have h1 := h.1
    rw [flat_len hf] at h1
    exact Nat.eq_of_mul_eq_mul_right hsz h1
  refine ⟨hl, fun hn => ⟨g, 0, rfl, (h.lt g rfl).2, fun j z hz i v hv => ?_⟩⟩
  have hj : j < n := by rw [← hl]; exact (List.getElem?_eq_some_iff.1 hz).1
  have hi : i < sz := by rw [← hf z]; exact (List.getElem?_eq_some_iff.1 hv).1
  have hb : j * sz + i < n * sz := by
    have : (j + 1) * sz ≤ n * sz := Nat.mul_le_mul_right _ hj
    rw [Nat.add_mul] at this
    omega
  rw [Nat.zero_add, h.cellAt _ hb, flat_get hf xs j z hz i hi, hv]
theorem SRow.of_own_any {base e c : Nat} {A : Option Addr} (hf : ∀ x, (f x).length = sz) (hsz : 0 < sz) (h : w.ownsRow base e sz (.slice A n c) n (xs.flatMap f)) : SRow sz f w w.heap.size A n xs := by
  rcases h.2 with ⟨hv, hn⟩ | ⟨g, cap, cur, hv, _⟩
  · have h1 := h.1
    rw [flat_len hf] at h1
    have hl : xs.length = n := Nat.eq_of_mul_eq_mul_right hsz h1
    exact ⟨hl, fun h0 => by omega⟩
  · injection hv with h1 h2 h3
    subst h1
    exact SRow.of_own hf hsz h
end
theorem mbC_len (x : Mb) : (mbC x).length = 4 := rfl
theorem ivC_len (x : Iv) : (ivC x).length = 3 := rfl
theorem bnC_len (x : Bn) : (bnC x).length = 2 := rfl
theorem SRow.atm {w : World} {B n k : Nat} {A : Option Addr} {xs : List Mb} (h : SRow 4 mbC w B A n xs) (hk : k < n) : ∃ b off z, A = some ⟨b, off, none⟩ ∧ b < B ∧ xs[k]? = some z ∧
    w.cell? ⟨b, off + k * 4, none⟩ = some (.int .i64 z.id) ∧ w.cell? ⟨b, off + k * 4 + 1, none⟩ = some (.int .i64 z.role) ∧ w.cell? ⟨b, off + k * 4 + 2, none⟩ = some (.int .i64 z.since) ∧ w.cell? ⟨b, off + k * 4 + 3, none⟩ = some (.int .i64 z.quiet) := by
  obtain ⟨b, off, z, e, hb, hz, hc⟩ := h.at_ hk
  exact ⟨b, off, z, e, hb, hz, hc 0 _ rfl, hc 1 _ rfl, hc 2 _ rfl, hc 3 _ rfl⟩
theorem SRow.ativ {w : World} {B n k : Nat} {A : Option Addr} {xs : List Iv} (h : SRow 3 ivC w B A n xs) (hk : k < n) : ∃ b off z, A = some ⟨b, off, none⟩ ∧ b < B ∧ xs[k]? = some z ∧
    w.cell? ⟨b, off + k * 3, none⟩ = some (.int .i64 z.id) ∧ w.cell? ⟨b, off + k * 3 + 1, none⟩ = some (.int .i64 z.byy) ∧ w.cell? ⟨b, off + k * 3 + 2, none⟩ = some (.int .i64 z.til) := by
  obtain ⟨b, off, z, e, hb, hz, hc⟩ := h.at_ hk
  exact ⟨b, off, z, e, hb, hz, hc 0 _ rfl, hc 1 _ rfl, hc 2 _ rfl⟩
theorem SRow.atbn {w : World} {B n k : Nat} {A : Option Addr} {xs : List Bn} (h : SRow 2 bnC w B A n xs) (hk : k < n) : ∃ b off z, A = some ⟨b, off, none⟩ ∧ b < B ∧ xs[k]? = some z ∧
    w.cell? ⟨b, off + k * 2, none⟩ = some (.int .i64 z.id) ∧ w.cell? ⟨b, off + k * 2 + 1, none⟩ = some (.int .i64 z.til) := by
  obtain ⟨b, off, z, e, hb, hz, hc⟩ := h.at_ hk
  exact ⟨b, off, z, e, hb, hz, hc 0 _ rfl, hc 1 _ rfl⟩
theorem mbC_one (z : Mb) : (#[.int .i64 z.id, .int .i64 z.role, .int .i64 z.since, .int .i64 z.quiet] : Array Value).all (·.oneCell') = true := by simp [Value.oneCell']
theorem ivC_one (z : Iv) : (#[.int .i64 z.id, .int .i64 z.byy, .int .i64 z.til] : Array Value).all (·.oneCell') = true := by simp [Value.oneCell']
theorem bnC_one (z : Bn) : (#[.int .i64 z.id, .int .i64 z.til] : Array Value).all (·.oneCell') = true := by simp [Value.oneCell']
end Go.Proofs.Yteeodjbionjlmaa
namespace Go.Proofs.Yteeodjbionjlmaa
open Go.ChangeShapes Go.WideShapes Go.ChangeAt Go.RowKit
open Go.ChangeMaps (open_string shut_string)
set_option linter.unusedVariables false
set_option maxRecDepth 100000
theorem grown_tr {w w1 w2 : World} {row : Option Nat} (h1 : w.grownBy w1 row) (h2 : w1.grownBy w2 row) : w.grownBy w2 row :=
  ⟨h2.os.trans h1.os, h2.tape.trans h1.tape, h2.output.trans h1.output, Nat.le_trans h1.size h2.size, fun k hk hne => (h2.block k (Nat.lt_of_lt_of_le hk h1.size) hne).trans (h1.block k hk hne)⟩
/-- cells of an own row set one after another -/
theorem own_setCells {base e size n cap g : Nat} : ∀ (vs : List Value) (o : Nat) (w : World) (pre tail : List Value), w.ownsRow base e size (.slice (some ⟨g, 0, none⟩) n cap) n (pre ++ tail) → pre.length = o → vs.length ≤ tail.length →
    (w.setCells g o vs).ownsRow base e size (.slice (some ⟨g, 0, none⟩) n cap) n (pre ++ (vs ++ tail.drop vs.length)) ∧ w.grownBy (w.setCells g o vs) (some g) := by
  intro vs
  induction vs with
  | nil =>
    intro o w pre tail h hp hv
    exact ⟨by simpa [World.setCells] using h, World.grownBy.refl _ _⟩
  | cons v r ih =>
    intro o w pre tail h hp hv
    cases tail with
    | nil => simp at hv
    | cons x t =>
      have h1 := h.stored o v
      rw [List.set_append_right _ _ (by omega), hp, Nat.sub_self, List.set_cons_zero, ← List.singleton_append, ← List.append_assoc] at h1
      have h2 := ih (o + 1) (w.setCell ⟨g, o, none⟩ v) (pre ++ [v]) t h1.1 (by simp [hp]) (by simpa using hv)
      rw [World.setCells]
      refine ⟨?_, grown_tr h1.2 h2.2⟩
      have := h2.1
      simpa using this
theorem own_there {w : World} {base e size n cap g : Nat} {xs : List Value} (h : w.ownsRow base e size (.slice (some ⟨g, 0, none⟩) n cap) n xs) (o m : Nat) (hm : o + m ≤ n * size) : w.there g o m := fun j hj => by
  refine ⟨?_, h.frozenAt _⟩
  rw [h.cellAt _ (by omega), List.getElem?_eq_getElem (by rw [h.1]; omega)]
  rfl
theorem take_flat {α : Type} {f : α → List Value} {xs : List α} {k : Nat} {z : α} (hz : xs[k]? = some z) : (xs.take (k + 1)).flatMap f = (xs.take k).flatMap f ++ f z := by
  rw [take_some hz, List.flatMap_append]
  simp
theorem own_next {α : Type} {f : α → List Value} {sz : Nat} (hf : ∀ x, (f x).length = sz) {w : World} {base e n cap g k : Nat} {xs : List α} {z : α} {tail : List Value} (hz : xs[k]? = some z) (hk : k < n)
    (h : w.ownsRow base e sz (.slice (some ⟨g, 0, none⟩) n cap) n ((xs.take k).flatMap f ++ tail)) (hkl : k ≤ xs.length) :
    (w.setCells g (k * sz) (f z)).ownsRow base e sz (.slice (some ⟨g, 0, none⟩) n cap) n ((xs.take (k + 1)).flatMap f ++ tail.drop sz) ∧ w.grownBy (w.setCells g (k * sz) (f z)) (some g) := by
  have hp : ((xs.take k).flatMap f).length = k * sz := by rw [flat_len hf, List.length_take]; congr 1; omega
  have hl := h.1
  rw [List.length_append, hp] at hl
  have hs : (k + 1) * sz ≤ n * sz := Nat.mul_le_mul_right _ hk
  rw [Nat.add_mul] at hs
  have := own_setCells (f z) (k * sz) w _ tail h hp (by rw [hf]; omega)
  rw [hf] at this
  rw [take_flat hz]
  rw [← List.append_assoc] at this
  exact this
theorem own_next' {α : Type} {f : α → List Value} {sz : Nat} (hf : ∀ x, (f x).length = sz) (vs : List Value) {w : World} {base e n cap g k : Nat} {xs : List α} {z : α} {tail : List Value} (hz : xs[k]? = some z) (hvs : f z = vs) (hk : k < n)
    (h : w.ownsRow base e sz (.slice (some ⟨g, 0, none⟩) n cap) n ((xs.take k).flatMap f ++ tail)) (hkl : k ≤ xs.length) :
    (w.setCells g (k * sz) vs).ownsRow base e sz (.slice (some ⟨g, 0, none⟩) n cap) n ((xs.take (k + 1)).flatMap f ++ tail.drop sz) ∧ w.grownBy (w.setCells g (k * sz) vs) (some g) := by
  subst hvs; exact own_next hf hz hk h hkl
theorem own_full {α : Type} {f : α → List Value} {sz : Nat} (hf : ∀ x, (f x).length = sz) {w : World} {base e n cap g : Nat} {xs : List α} {tail : List Value} (hn : xs.length = n)
    (h : w.ownsRow base e sz (.slice (some ⟨g, 0, none⟩) n cap) n ((xs.take n).flatMap f ++ tail)) : w.ownsRow base e sz (.slice (some ⟨g, 0, none⟩) n cap) n (xs.flatMap f) := by
  have hl := h.1
  rw [List.take_of_length_le (by omega), List.length_append, flat_len hf, hn] at hl
  have : tail = [] := List.eq_nil_of_length_eq_zero (by omega)
  subst this
  rw [List.take_of_length_le (by omega), List.append_nil] at h
  exact h
end Go.Proofs.Yteeodjbionjlmaa
namespace Go.Proofs.Yteeodjbionjlmaa
open Go.ChangeShapes Go.WideShapes Go.ChangeAt Go.RowKit
open Go.ChangeMaps (open_string shut_string)
set_option linter.unusedVariables false
set_option maxRecDepth 100000
end Go.Proofs.Yteeodjbionjlmaa
namespace Go.Proofs.Yteeodjbionjlmaa
open Go.ChangeShapes Go.WideShapes Go.ChangeAt Go.RowKit
open Go.ChangeMaps (open_string shut_string)
set_option linter.unusedVariables false
set_option maxRecDepth 100000
end Go.Proofs.Yteeodjbionjlmaa
namespace Go.Proofs.Yteeodjbionjlmaa
open Go.ChangeShapes Go.WideShapes Go.ChangeAt Go.RowKit
open Go.ChangeMaps (open_string shut_string)
set_option linter.unusedVariables false
set_option maxRecDepth 100000
end Go.Proofs.Yteeodjbionjlmaa
namespace Go.Proofs.Yteeodjbionjlmaa
open Go.ChangeShapes Go.WideShapes Go.ChangeAt Go.RowKit
open Go.ChangeMaps (open_string shut_string)
set_option linter.unusedVariables false
set_option maxRecDepth 100000
end Go.Proofs.Yteeodjbionjlmaa
namespace Go.Proofs.Yteeodjbionjlmaa
open Go.ChangeShapes Go.WideShapes Go.ChangeAt Go.RowKit
open Go.ChangeMaps (open_string shut_string)
set_option linter.unusedVariables false
set_option maxRecDepth 100000
end Go.Proofs.Yteeodjbionjlmaa
namespace Go.Proofs.Yteeodjbionjlmaa
open Go.ChangeShapes Go.WideShapes Go.ChangeAt Go.RowKit
open Go.ChangeMaps (open_string shut_string)
set_option linter.unusedVariables false
set_option maxRecDepth 100000
end Go.Proofs.Yteeodjbionjlmaa
namespace Go.Proofs.Yteeodjbionjlmaa
open Go.ChangeShapes Go.WideShapes Go.ChangeAt Go.RowKit
open Go.ChangeMaps (open_string shut_string)
set_option linter.unusedVariables false
set_option maxRecDepth 100000
theorem bcell {W w1 : World} (hb : Below W.heap.size W w1) : (∀ b o, b < W.heap.size → w1.cell? ⟨b, o, none⟩ = W.cell? ⟨b, o, none⟩) ∧ (∀ b o, b < W.heap.size → w1.frozen? ⟨b, o, none⟩ = W.frozen? ⟨b, o, none⟩) :=
  ⟨fun b o h => hb.cell (p := ⟨b, o, none⟩) h, fun b o h => hb.frozen (p := ⟨b, o, none⟩) h⟩
def RoomAt (w : World) (B : Nat) (A1 : Option Addr) (n1 : Nat) (A2 : Option Addr) (n2 : Nat) (A3 : Option Addr) (n3 : Nat) (ms : List Mb) (vs : List Iv) (bs : List Bn) : Prop :=
  SRow 4 mbC w B A1 n1 ms ∧ SRow 3 ivC w B A2 n2 vs ∧ SRow 2 bnC w B A3 n3 bs
section
variable {w w' : World} {B B' n1 n2 n3 : Nat} {A1 A2 A3 : Option Addr} {ms : List Mb} {vs : List Iv} {bs : List Bn}
theorem RoomAt.below (h : RoomAt w B A1 n1 A2 n2 A3 n3 ms vs bs) (hb : Below B w w') : RoomAt w' B A1 n1 A2 n2 A3 n3 ms vs bs := ⟨h.1.below hb, h.2.1.below hb, h.2.2.below hb⟩
theorem RoomAt.more (h : RoomAt w B A1 n1 A2 n2 A3 n3 ms vs bs) (hB : B ≤ B') : RoomAt w B' A1 n1 A2 n2 A3 n3 ms vs bs := ⟨h.1.more hB, h.2.1.more hB, h.2.2.more hB⟩
theorem RoomAt.to (h : RoomAt w w.heap.size A1 n1 A2 n2 A3 n3 ms vs bs) (hb : Below w.heap.size w w') : RoomAt w' w'.heap.size A1 n1 A2 n2 A3 n3 ms vs bs := ⟨h.1.to hb, h.2.1.to hb, h.2.2.to hb⟩
theorem RoomAt.alloc (h : RoomAt w w.heap.size A1 n1 A2 n2 A3 n3 ms vs bs) (o : Obj) : RoomAt (w.alloc o) (w.alloc o).heap.size A1 n1 A2 n2 A3 n3 ms vs bs := h.to ((Below.refl _ _).alloc (Nat.le_refl _) _)
theorem SRow.keepA {α : Type} {sz : Nat} {f : α → List Value} {n : Nat} {A : Option Addr} {xs : List α} (h : SRow sz f w B A n xs) (hk : ∀ p : Addr, p.block < B → w'.cell? p = w.cell? p) : SRow sz f w' B A n xs := h.keep hk
end
end Go.Proofs.Yteeodjbionjlmaa
