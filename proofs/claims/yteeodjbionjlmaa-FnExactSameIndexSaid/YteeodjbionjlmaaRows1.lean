import Derived.Test.YteeodjbionjlmaaChecked
import Derived.WalkKit
import Derived.ProofKit
import Derived.OpenShut
import Derived.ShutString
import Derived.ChangeOld
import Derived.Below
import Derived.Lib.Hide
import Derived.OwnWalk
import Derived.Laws.OwnMore
import Derived.SliceStrings
import Derived.Test.YteeodjbionjlmaaBase
import Derived.Test.YteeodjbionjlmaaMem
namespace Go.Proofs.Yteeodjbionjlmaa
open Go.ChangeShapes Go.WideShapes Go.ChangeAt Go.RowKit
open Go.ChangeMaps (open_string shut_string)
set_option linter.unusedVariables false
set_option maxRecDepth 100000
/-- A slice that reads as a list: f tells the cell of an element. -/
def Row {α : Type} (f : α → Value) (w : World) (B : Nat) (A : Option Addr) (n : Nat) (xs : List α) : Prop :=
  xs.length = n ∧ (0 < n → ∃ b off, A = some ⟨b, off, none⟩ ∧ b < B ∧ ∀ j z, xs[j]? = some z → w.cell? ⟨b, off + j, none⟩ = some (f z))
abbrev i64v : Int → Value := Value.int .i64
section
variable {α : Type} {f : α → Value} {w w' : World} {B B' n : Nat} {A : Option Addr} {xs : List α}
theorem Row.none_ : Row f w B A 0 ([] : List α) := ⟨rfl, fun h => absurd h (by omega)⟩
theorem Row.at_ {k : Nat} (h : Row f w B A n xs) (hk : k < n) : ∃ b off z, A = some ⟨b, off, none⟩ ∧ b < B ∧ xs[k]? = some z ∧ w.cell? ⟨b, off + k, none⟩ = some (f z) := by
  obtain ⟨b, off, e, hb, hc⟩ := h.2 (by omega)
  have hl : k < xs.length := by have := h.1; omega
  exact ⟨b, off, xs[k], e, hb, List.getElem?_eq_getElem hl, hc k _ (List.getElem?_eq_getElem hl)⟩
theorem Row.keep (h : Row f w B A n xs) (hk : ∀ p : Addr, p.block < B → w'.cell? p = w.cell? p) : Row f w' B A n xs :=
  ⟨h.1, fun hn => by
    obtain ⟨b, off, e, hb, hc⟩ := h.2 hn
    exact ⟨b, off, e, hb, fun j u hu => (hk _ hb).trans (hc j u hu)⟩⟩
theorem Row.more (h : Row f w B A n xs) (hB : B ≤ B') : Row f w B' A n xs :=
  ⟨h.1, fun hn => by
    obtain ⟨b, off, e, hb, hc⟩ := h.2 hn
    exact ⟨b, off, e, by omega, hc⟩⟩
theorem Row.below (h : Row f w B A n xs) (hb : Below B w w') : Row f w' B A n xs := h.keep fun _ hp => hb.cell hp
theorem Row.to (h : Row f w w.heap.size A n xs) (hb : Below w.heap.size w w') : Row f w' w'.heap.size A n xs := (h.below hb).more hb.size
theorem Row.drewN (h : Row f w B A n xs) (k : Nat) : Row f (w.drewN k) B A n xs := h
theorem Row.alloc (h : Row f w B A n xs) (hB : B ≤ w.heap.size) (o : Obj) : Row f (w.alloc o) B A n xs := h.keep fun p hp => World.cell?_alloc_lt w o p (by omega)
theorem Row.of_own {base e c g : Nat} (h : w.ownsRow base e 1 (.slice (some ⟨g, 0, none⟩) n c) n (xs.map f)) : Row f w w.heap.size (some ⟨g, 0, none⟩) n xs := by
  have hl : xs.length = n := by simpa using h.1
  refine ⟨hl, fun hn => ⟨g, 0, rfl, (h.lt g rfl).2, fun j z hz => ?_⟩⟩
  have hj : j < xs.length := (List.getElem?_eq_some_iff.1 hz).1
  rw [Nat.zero_add, h.cellAt j (by omega)]
  simp [hz]
theorem Row.of_own_any {base e c : Nat} {A : Option Addr} (h : w.ownsRow base e 1 (.slice A n c) n (xs.map f)) : Row f w w.heap.size A n xs := by
  rcases h.2 with ⟨hv, hn⟩ | ⟨g, cap, cur, hv, _⟩
  · have hl : xs.length = n := by simpa using h.1
    exact ⟨hl, fun h0 => by omega⟩
  · injection hv with h1 h2 h3
    subst h1
    exact Row.of_own h
end
theorem Row.ati {w : World} {B n k : Nat} {A : Option Addr} {xs : List Int} (h : Row i64v w B A n xs) (hk : k < n) : ∃ b off z, A = some ⟨b, off, none⟩ ∧ b < B ∧ xs[k]? = some z ∧ w.cell? ⟨b, off + k, none⟩ = some (.int .i64 z) := h.at_ hk
theorem Row.ats {w : World} {B n k : Nat} {A : Option Addr} {xs : List ByteArray} (h : Row Value.string w B A n xs) (hk : k < n) : ∃ b off z, A = some ⟨b, off, none⟩ ∧ b < B ∧ xs[k]? = some z ∧ w.cell? ⟨b, off + k, none⟩ = some (.string z) := h.at_ hk
theorem row_of_isRow {w : World} {a : Option Addr} {len cap : Nat} {zs : List Int} (h : IsRow .i64 w a len cap zs) : Row i64v w w.heap.size a len (zs.take len) := by
  rcases h with ⟨rfl, rfl, rfl, rfl⟩ | ⟨⟨b, off, spot⟩, rfl, hl, hm, hz, hcell, _⟩
  · exact Row.none_
  · refine ⟨by simp; omega, fun hn => ?_⟩
    have hc0 := hcell 0 (by omega)
    have hspot : spot = none := by simpa [Addr.add] using World.cell?_spot hc0
    subst hspot
    refine ⟨b, off, rfl, ?_, fun j z hj => ?_⟩
    · have := World.block_lt_of_cell? w _ hc0
      simpa [Addr.add] using this
    · have hjl : j < len := by
        have := (List.getElem?_eq_some_iff.1 hj).1
        simp at this; omega
      have := hcell j (by omega)
      rw [List.getElem?_take_of_lt hjl] at hj
      have e : (⟨b, off, none⟩ : Addr).add j = ⟨b, off + j, none⟩ := by unfold Addr.add; split <;> simp_all
      rw [e] at this
      rw [this]
      simp [hj]
theorem own_below {w w1 : World} {base e size n B : Nat} {v : Value} {xs : List Value} (h : w.ownsRow base e size v n xs) (hb : Below B w w1) (hB : w.heap.size ≤ B) : w1.ownsRow base e size v n xs :=
  h.kept (row := none) ⟨hb.os, hb.tape, hb.output, hb.size, fun k hk _ => hb.block k (by omega)⟩ (by cases hv : v.ownBlock <;> simp)
theorem own_ne {w1 w2 : World} {b1 e1 s1 n1 e2 s2 n2 : Nat} {v1 v2 : Value} {xs ys : List Value} (h1 : w1.ownsRow b1 e1 s1 v1 n1 xs) (h2 : w2.ownsRow w1.heap.size e2 s2 v2 n2 ys) :
    v1.ownBlock = none ∨ v1.ownBlock ≠ v2.ownBlock := by
  cases hv : v1.ownBlock with
  | none => exact .inl rfl
  | some g =>
    right
    intro e
    have a := (h1.lt g hv).2
    have b := (h2.lt g e.symm).1
    omega
set_option maxHeartbeats 400000 in
theorem toInt64S_any (A : Option Addr) (n c : Nat) (xs : List Int) (w : World) (h : Row i64v w w.heap.size A n xs) (hn : n ≤ 1048576) :
    Calls Try.prog 55 #[.slice A n c] w fun e w' => ∃ g, e = .returned (.slice (some ⟨g, 0, none⟩) n n) ∧ w'.ownsRow w.heap.size 2 1 (.slice (some ⟨g, 0, none⟩) n n) n (xs.map i64v) ∧ Below w.heap.size w w' := by
  obtain ⟨i0, hi, hz0, hz1, hz2⟩ := info_parts Try.info_i64
  have hlen := Lib.hid h.1
  go_enter Try.func55, Try.ntmps55
  go_wp2_with (at_make; refine wpList_make_full _ rfl _ _ 35 rfl w.heap.size 2 i0 (.int .i64 0) 1 Try.underlying35 hi hz0 hz1 _ _ _ _ n rfl rfl rfl rfl (by rw [hz2]; omega) (by unfold maxLen; omega) (Nat.le_refl _) ?_; intro w1 hown1 hgrow1)
  have hbel1 : Below w.heap.size w w1 := (Below.refl _ _).grown hgrow1 (Nat.le_refl _) (by simp)
  clear hgrow1
  go_loopw [4] (fun i wr => ∃ k : Nat, k ≤ n ∧ i = .int .i64 k ∧ wr.ownsRow w.heap.size 2 1 (.slice (some ⟨w.heap.size, 0, none⟩) n n) n ((xs.take k).map i64v ++ List.replicate (n - k) (.int .i64 0)) ∧ Below w.heap.size w wr) (fun i _ => n - (intOf i).toNat)
  case atStart =>
    refine ⟨0, by omega, rfl, ?_, hbel1⟩
    have e : (madeCells (Value.int .i64 0).cells (n * 1)).toList = List.replicate n (.int .i64 0) := by rw [Nat.mul_one]; exact toList_madeCells_one _ _
    rw [e] at hown1
    simpa using hown1
  case round =>
    obtain ⟨k, hk, rfl, hown, hbel⟩ := hrel
    clear hown1 hbel1
    by_cases hlt : k < n
    · obtain ⟨b, off, z, rfl, hb, hz, hcw⟩ := h.ati hlt
      have HZ := Lib.hid hz
      clear hz
      have hc : wr.cell? ⟨b, off + k, none⟩ = some (.int .i64 z) := (hbel.cell hb).trans hcw
      have hcd : wr.cell? ⟨w.heap.size, k, none⟩ = some (.int .i64 0) := by
        rw [hown.cellAt k (by omega)]
        have hl := hlen.out
        rw [List.getElem?_append_right (by simp; omega)]
        simp [List.getElem?_replicate]; omega
      have hfz := hown.frozenAt k
      have HO := Lib.hid hown
      clear hown hcw
      go_wp2
      go_roundw
      case rel =>
        refine ⟨k + 1, by omega, by go_num, ?_, hbel.setCell (by simp) _⟩
        have := (HO.out.stored k (.int .i64 z)).1
        have hl := hlen.out
        obtain ⟨r, hr⟩ : ∃ r, n - k = r + 1 := ⟨n - k - 1, by omega⟩
        have ez : xs.take (k + 1) = xs.take k ++ [z] := by
          have hk' : k < xs.length := by omega
          rw [List.take_succ_eq_append_getElem hk']
          have := HZ.out; rw [List.getElem?_eq_getElem hk'] at this; injection this with this; rw [this]
        rw [hr, List.set_append_right _ _ (by simp; omega), List.replicate_succ] at this
        rw [ez, show n - (k + 1) = r by omega]
        simpa [show k - min k xs.length = 0 by omega, i64v] using this
      case measure => simp [intOf]; omega
    · have hkn : k = n := by omega
      subst hkn
      have hl := hlen.out
      have e : (xs.take k).map i64v ++ List.replicate (k - k) (Value.int .i64 0) = xs.map i64v := by
        rw [List.take_of_length_le (by omega)]; simp
      rw [e] at hown
      clear e hl
      go_wp2
      go_ret
      exact ⟨w.heap.size, rfl, hown, hbel⟩
end Go.Proofs.Yteeodjbionjlmaa
