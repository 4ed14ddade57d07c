import Derived.Test.YtdpclbmcmgknjabDoorChecked
import Derived.WalkKit
import Derived.ProofKit
import Derived.OpenShut
import Derived.ShutString
import Derived.ChangeOld
import Derived.Below
import Derived.Lib.Hide
import Derived.OwnWalk
import Derived.Laws.OwnMore
import Derived.SliceStrings
import Derived.Test.YtdpclbmcmgknjabDoorJb
import Derived.Deep.QuietTactic
import Derived.BigQuiet
namespace Go.Proofs.YtdpclbmcmgknjabDoor
open Go.ChangeShapes Go.WideShapes Go.ChangeAt Go.RowKit
open Go.ChangeMaps (open_string shut_string)
set_option linter.unusedVariables false
set_option maxRecDepth 100000
/-- A slice that reads as a list: f tells the cell of an element. -/
def Row {α : Type} (f : α → Value) (w : World) (B : Nat) (A : Option Addr) (n : Nat) (xs : List α) : Prop :=
  xs.length = n ∧ (0 < n → ∃ b off, A = some ⟨b, off, none⟩ ∧ b < B ∧ ∀ j z, xs[j]? = some z → w.cell? ⟨b, off + j, none⟩ = some (f z))
abbrev i64v : Int → Value := Value.int .i64
section
variable {α : Type} {f : α → Value} {w w' : World} {B B' n : Nat} {A : Option Addr} {xs : List α}
theorem Row.none_ : Row f w B A 0 ([] : List α) := ⟨rfl, fun h => absurd h (by omega)⟩
theorem Row.at_ {k : Nat} (h : Row f w B A n xs) (hk : k < n) : ∃ b off z, A = some ⟨b, off, none⟩ ∧ b < B ∧ xs[k]? = some z ∧ w.cell? ⟨b, off + k, none⟩ = some (f z) := by
  obtain ⟨b, off, e, hb, hc⟩ := h.2 (by omega)
  have hl : k < xs.length := by have := h.1; omega
  exact ⟨b, off, xs[k], e, hb, List.getElem?_eq_getElem hl, hc k _ (List.getElem?_eq_getElem hl)⟩
theorem Row.keep (h : Row f w B A n xs) (hk : ∀ p : Addr, p.block < B → w'.cell? p = w.cell? p) : Row f w' B A n xs :=
  ⟨h.1, fun hn => by
    obtain ⟨b, off, e, hb, hc⟩ := h.2 hn
    exact ⟨b, off, e, hb, fun j u hu => (hk _ hb).trans (hc j u hu)⟩⟩
theorem Row.more (h : Row f w B A n xs) (hB : B ≤ B') : Row f w B' A n xs :=
  ⟨h.1, fun hn => by
    obtain ⟨b, off, e, hb, hc⟩ := h.2 hn
    exact ⟨b, off, e, by omega, hc⟩⟩
theorem Row.below (h : Row f w B A n xs) (hb : Below B w w') : Row f w' B A n xs := h.keep fun _ hp => hb.cell hp
theorem Row.to (h : Row f w w.heap.size A n xs) (hb : Below w.heap.size w w') : Row f w' w'.heap.size A n xs := (h.below hb).more hb.size
theorem Row.drewN (h : Row f w B A n xs) (k : Nat) : Row f (w.drewN k) B A n xs := h
theorem Row.alloc (h : Row f w B A n xs) (hB : B ≤ w.heap.size) (o : Obj) : Row f (w.alloc o) B A n xs := h.keep fun p hp => World.cell?_alloc_lt w o p (by omega)
theorem Row.of_own {base e c g : Nat} (h : w.ownsRow base e 1 (.slice (some ⟨g, 0, none⟩) n c) n (xs.map f)) : Row f w w.heap.size (some ⟨g, 0, none⟩) n xs := by
  have hl : xs.length = n := by simpa using h.1
  refine ⟨hl, fun hn => ⟨g, 0, rfl, (h.lt g rfl).2, fun j z hz => ?_⟩⟩
  have hj : j < xs.length := (List.getElem?_eq_some_iff.1 hz).1
  rw [Nat.zero_add, h.cellAt j (by omega)]
  simp [hz]
theorem Row.of_own_any {base e c : Nat} {A : Option Addr} (h : w.ownsRow base e 1 (.slice A n c) n (xs.map f)) : Row f w w.heap.size A n xs := by
  rcases h.2 with ⟨hv, hn⟩ | ⟨g, cap, cur, hv, _⟩
  · have hl : xs.length = n := by simpa using h.1
    exact ⟨hl, fun h0 => by omega⟩
  · injection hv with h1 h2 h3
    subst h1
    exact Row.of_own h
end
theorem Row.ati {w : World} {B n k : Nat} {A : Option Addr} {xs : List Int} (h : Row i64v w B A n xs) (hk : k < n) : ∃ b off z, A = some ⟨b, off, none⟩ ∧ b < B ∧ xs[k]? = some z ∧ w.cell? ⟨b, off + k, none⟩ = some (.int .i64 z) := h.at_ hk
theorem Row.ats {w : World} {B n k : Nat} {A : Option Addr} {xs : List ByteArray} (h : Row Value.string w B A n xs) (hk : k < n) : ∃ b off z, A = some ⟨b, off, none⟩ ∧ b < B ∧ xs[k]? = some z ∧ w.cell? ⟨b, off + k, none⟩ = some (.string z) := h.at_ hk
theorem row_of_isRow {w : World} {a : Option Addr} {len cap : Nat} {zs : List Int} (h : IsRow .i64 w a len cap zs) : Row i64v w w.heap.size a len (zs.take len) := by
  rcases h with ⟨rfl, rfl, rfl, rfl⟩ | ⟨⟨b, off, spot⟩, rfl, hl, hm, hz, hcell, _⟩
  · exact Row.none_
  · refine ⟨by simp; omega, fun hn => ?_⟩
    have hc0 := hcell 0 (by omega)
    have hspot : spot = none := by simpa [Addr.add] using World.cell?_spot hc0
    subst hspot
    refine ⟨b, off, rfl, ?_, fun j z hj => ?_⟩
    · have := World.block_lt_of_cell? w _ hc0
      simpa [Addr.add] using this
    · have hjl : j < len := by
        have := (List.getElem?_eq_some_iff.1 hj).1
        simp at this; omega
      have := hcell j (by omega)
      rw [List.getElem?_take_of_lt hjl] at hj
      have e : (⟨b, off, none⟩ : Addr).add j = ⟨b, off + j, none⟩ := by unfold Addr.add; split <;> simp_all
      rw [e] at this
      rw [this]
      simp [hj]
theorem own_below {w w1 : World} {base e size n B : Nat} {v : Value} {xs : List Value} (h : w.ownsRow base e size v n xs) (hb : Below B w w1) (hB : w.heap.size ≤ B) : w1.ownsRow base e size v n xs :=
  h.kept (row := none) ⟨hb.os, hb.tape, hb.output, hb.size, fun k hk _ => hb.block k (by omega)⟩ (by cases hv : v.ownBlock <;> simp)
theorem own_ne {w1 w2 : World} {b1 e1 s1 n1 e2 s2 n2 : Nat} {v1 v2 : Value} {xs ys : List Value} (h1 : w1.ownsRow b1 e1 s1 v1 n1 xs) (h2 : w2.ownsRow w1.heap.size e2 s2 v2 n2 ys) :
    v1.ownBlock = none ∨ v1.ownBlock ≠ v2.ownBlock := by
  cases hv : v1.ownBlock with
  | none => exact .inl rfl
  | some g =>
    right
    intro e
    have a := (h1.lt g hv).2
    have b := (h2.lt g e.symm).1
    omega
end Go.Proofs.YtdpclbmcmgknjabDoor
namespace Go.Proofs.YtdpclbmcmgknjabDoor
open Go.ChangeShapes Go.WideShapes Go.ChangeAt Go.RowKit
open Go.ChangeMaps (open_string shut_string)
set_option linter.unusedVariables false
set_option maxRecDepth 100000
def marks (k n : Nat) : List Int := (List.range n).map fun j => ((k + j : Nat) : Int)
theorem marks_len (k n : Nat) : (marks k n).length = n := by simp [marks]
theorem marks_at (k n j : Nat) (hj : j < n) : (marks k n)[j]? = some ((k + j : Nat) : Int) := by simp [marks, hj]
theorem marks_succ (k n : Nat) : marks k (n + 1) = marks k n ++ [((k + n : Nat) : Int)] := by simp [marks, List.range_succ]
theorem drew_below {w w1 : World} (h : ∃ q, w1 = w.drewN q) : Below w.heap.size w w1 := by
  obtain ⟨q, rfl⟩ := h
  refine ⟨rfl, rfl, rfl, Nat.le_refl _, fun _ _ => rfl⟩
theorem own_drew {w w1 : World} {base e size n : Nat} {v : Value} {xs : List Value} (h : w.ownsRow base e size v n xs) (hq : ∃ q, w1 = w.drewN q) : w1.ownsRow base e size v n xs := own_below h (drew_below hq) (Nat.le_refl _)
end Go.Proofs.YtdpclbmcmgknjabDoor
namespace Go.Proofs.YtdpclbmcmgknjabDoor
open Go.ChangeShapes Go.WideShapes Go.ChangeAt Go.RowKit
open Go.ChangeMaps (open_string shut_string)
set_option linter.unusedVariables false
set_option maxRecDepth 100000
theorem own_ne2 {w1 w2 : World} {b1 e1 s1 n1 e2 s2 n2 : Nat} {v1 v2 : Value} {xs ys : List Value} (h1 : w1.ownsRow b1 e1 s1 v1 n1 xs) (h2 : w2.ownsRow w1.heap.size e2 s2 v2 n2 ys) :
    v2.ownBlock = none ∨ v2.ownBlock ≠ v1.ownBlock := by
  cases hv : v2.ownBlock with
  | none => exact .inl rfl
  | some g =>
    right
    intro e
    have a := (h1.lt g e.symm).2
    have b := (h2.lt g hv).1
    omega
end Go.Proofs.YtdpclbmcmgknjabDoor
