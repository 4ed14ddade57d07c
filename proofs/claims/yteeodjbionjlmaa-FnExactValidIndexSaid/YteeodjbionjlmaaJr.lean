import Derived.Test.YteeodjbionjlmaaChecked
import Derived.WalkKit
import Derived.ProofKit
import Derived.OpenShut
import Derived.ShutString
import Derived.ChangeOld
import Derived.Below
import Derived.Lib.Hide
import Derived.OwnWalk
import Derived.Laws.OwnMore
import Derived.SliceStrings
import Derived.Test.YteeodjbionjlmaaJb
import Derived.Deep.QuietTactic
import Derived.BigQuiet
namespace Go.Proofs.Yteeodjbionjlmaa
open Go.ChangeShapes Go.WideShapes Go.ChangeAt Go.RowKit
open Go.ChangeMaps (open_string shut_string)
set_option linter.unusedVariables false
set_option maxRecDepth 100000
/-- A slice that reads as a list: f tells the cell of an element. -/
def Row {α : Type} (f : α → Value) (w : World) (B : Nat) (A : Option Addr) (n : Nat) (xs : List α) : Prop :=
  xs.length = n ∧ (0 < n → ∃ b off, A = some ⟨b, off, none⟩ ∧ b < B ∧ ∀ j z, xs[j]? = some z → w.cell? ⟨b, off + j, none⟩ = some (f z))
abbrev i64v : Int → Value := Value.int .i64
section
variable {α : Type} {f : α → Value} {w w' : World} {B B' n : Nat} {A : Option Addr} {xs : List α}
theorem Row.none_ : Row f w B A 0 ([] : List α) := ⟨rfl, fun h => absurd h (by omega)⟩
theorem Row.at_ {k : Nat} (h : Row f w B A n xs) (hk : k < n) : ∃ b off z, A = some ⟨b, off, none⟩ ∧ b < B ∧ xs[k]? = some z ∧ w.cell? ⟨b, off + k, none⟩ = some (f z) := by
  obtain ⟨b, off, e, hb, hc⟩ := h.2 (by omega)
  have hl : k < xs.length := by have := h.1; omega
  exact ⟨b, off, xs[k], e, hb, List.getElem?_eq_getElem hl, hc k _ (List.getElem?_eq_getElem hl)⟩
theorem Row.keep (h : Row f w B A n xs) (hk : ∀ p : Addr, p.block < B → w'.cell? p = w.cell? p) : Row f w' B A n xs :=
  ⟨h.1, fun hn => by
    obtain ⟨b, off, e, hb, hc⟩ := h.2 hn
    exact ⟨b, off, e, hb, fun j u hu => (hk _ hb).trans (hc j u hu)⟩⟩
theorem Row.more (h : Row f w B A n xs) (hB : B ≤ B') : Row f w B' A n xs :=
  ⟨h.1, fun hn => by
    obtain ⟨b, off, e, hb, hc⟩ := h.2 hn
    exact ⟨b, off, e, by omega, hc⟩⟩
theorem Row.below (h : Row f w B A n xs) (hb : Below B w w') : Row f w' B A n xs := h.keep fun _ hp => hb.cell hp
theorem Row.to (h : Row f w w.heap.size A n xs) (hb : Below w.heap.size w w') : Row f w' w'.heap.size A n xs := (h.below hb).more hb.size
theorem Row.drewN (h : Row f w B A n xs) (k : Nat) : Row f (w.drewN k) B A n xs := h
theorem Row.alloc (h : Row f w B A n xs) (hB : B ≤ w.heap.size) (o : Obj) : Row f (w.alloc o) B A n xs := h.keep fun p hp => World.cell?_alloc_lt w o p (by omega)
theorem Row.of_own {base e c g : Nat} (h : w.ownsRow base e 1 (.slice (some ⟨g, 0, none⟩) n c) n (xs.map f)) : Row f w w.heap.size (some ⟨g, 0, none⟩) n xs := by
  have hl : xs.length = n := by simpa using h.1
  refine ⟨hl, fun hn => ⟨g, 0, rfl, (h.lt g rfl).2, fun j z hz => ?_⟩⟩
  have hj : j < xs.length := (List.getElem?_eq_some_iff.1 hz).1
  rw [Nat.zero_add, h.cellAt j (by omega)]
  simp [hz]
theorem Row.of_own_any {base e c : Nat} {A : Option Addr} (h : w.ownsRow base e 1 (.slice A n c) n (xs.map f)) : Row f w w.heap.size A n xs := by
  rcases h.2 with ⟨hv, hn⟩ | ⟨g, cap, cur, hv, _⟩
  · have hl : xs.length = n := by simpa using h.1
    exact ⟨hl, fun h0 => by omega⟩
  · injection hv with h1 h2 h3
    subst h1
    exact Row.of_own h
end
theorem Row.ati {w : World} {B n k : Nat} {A : Option Addr} {xs : List Int} (h : Row i64v w B A n xs) (hk : k < n) : ∃ b off z, A = some ⟨b, off, none⟩ ∧ b < B ∧ xs[k]? = some z ∧ w.cell? ⟨b, off + k, none⟩ = some (.int .i64 z) := h.at_ hk
theorem Row.ats {w : World} {B n k : Nat} {A : Option Addr} {xs : List ByteArray} (h : Row Value.string w B A n xs) (hk : k < n) : ∃ b off z, A = some ⟨b, off, none⟩ ∧ b < B ∧ xs[k]? = some z ∧ w.cell? ⟨b, off + k, none⟩ = some (.string z) := h.at_ hk
theorem row_of_isRow {w : World} {a : Option Addr} {len cap : Nat} {zs : List Int} (h : IsRow .i64 w a len cap zs) : Row i64v w w.heap.size a len (zs.take len) := by
  rcases h with ⟨rfl, rfl, rfl, rfl⟩ | ⟨⟨b, off, spot⟩, rfl, hl, hm, hz, hcell, _⟩
  · exact Row.none_
  · refine ⟨by simp; omega, fun hn => ?_⟩
    have hc0 := hcell 0 (by omega)
    have hspot : spot = none := by simpa [Addr.add] using World.cell?_spot hc0
    subst hspot
    refine ⟨b, off, rfl, ?_, fun j z hj => ?_⟩
    · have := World.block_lt_of_cell? w _ hc0
      simpa [Addr.add] using this
    · have hjl : j < len := by
        have := (List.getElem?_eq_some_iff.1 hj).1
        simp at this; omega
      have := hcell j (by omega)
      rw [List.getElem?_take_of_lt hjl] at hj
      have e : (⟨b, off, none⟩ : Addr).add j = ⟨b, off + j, none⟩ := by unfold Addr.add; split <;> simp_all
      rw [e] at this
      rw [this]
      simp [hj]
theorem own_below {w w1 : World} {base e size n B : Nat} {v : Value} {xs : List Value} (h : w.ownsRow base e size v n xs) (hb : Below B w w1) (hB : w.heap.size ≤ B) : w1.ownsRow base e size v n xs :=
  h.kept (row := none) ⟨hb.os, hb.tape, hb.output, hb.size, fun k hk _ => hb.block k (by omega)⟩ (by cases hv : v.ownBlock <;> simp)
theorem own_ne {w1 w2 : World} {b1 e1 s1 n1 e2 s2 n2 : Nat} {v1 v2 : Value} {xs ys : List Value} (h1 : w1.ownsRow b1 e1 s1 v1 n1 xs) (h2 : w2.ownsRow w1.heap.size e2 s2 v2 n2 ys) :
    v1.ownBlock = none ∨ v1.ownBlock ≠ v2.ownBlock := by
  cases hv : v1.ownBlock with
  | none => exact .inl rfl
  | some g =>
    right
    intro e
    have a := (h1.lt g hv).2
    have b := (h2.lt g e.symm).1
    omega
set_option maxHeartbeats 400000 in
theorem toInt64S_any (A : Option Addr) (n c : Nat) (xs : List Int) (w : World) (h : Row i64v w w.heap.size A n xs) (hn : n ≤ 1048576) :
    Calls Try.prog 55 #[.slice A n c] w fun e w' => ∃ g, e = .returned (.slice (some ⟨g, 0, none⟩) n n) ∧ w'.ownsRow w.heap.size 2 1 (.slice (some ⟨g, 0, none⟩) n n) n (xs.map i64v) ∧ Below w.heap.size w w' := by
  obtain ⟨i0, hi, hz0, hz1, hz2⟩ := info_parts Try.info_i64
  have hlen := Lib.hid h.1
  go_enter Try.func55, Try.ntmps55
  go_wp2_with (at_make; refine wpList_make_full _ rfl _ _ 35 rfl w.heap.size 2 i0 (.int .i64 0) 1 Try.underlying35 hi hz0 hz1 _ _ _ _ n rfl rfl rfl rfl (by rw [hz2]; omega) (by unfold maxLen; omega) (Nat.le_refl _) ?_; intro w1 hown1 hgrow1)
  have hbel1 : Below w.heap.size w w1 := (Below.refl _ _).grown hgrow1 (Nat.le_refl _) (by simp)
  clear hgrow1
  go_loopw [4] (fun i wr => ∃ k : Nat, k ≤ n ∧ i = .int .i64 k ∧ wr.ownsRow w.heap.size 2 1 (.slice (some ⟨w.heap.size, 0, none⟩) n n) n ((xs.take k).map i64v ++ List.replicate (n - k) (.int .i64 0)) ∧ Below w.heap.size w wr) (fun i _ => n - (intOf i).toNat)
  case atStart =>
    refine ⟨0, by omega, rfl, ?_, hbel1⟩
    have e : (madeCells (Value.int .i64 0).cells (n * 1)).toList = List.replicate n (.int .i64 0) := by rw [Nat.mul_one]; exact toList_madeCells_one _ _
    rw [e] at hown1
    simpa using hown1
  case round =>
    obtain ⟨k, hk, rfl, hown, hbel⟩ := hrel
    clear hown1 hbel1
    by_cases hlt : k < n
    · obtain ⟨b, off, z, rfl, hb, hz, hcw⟩ := h.ati hlt
      have HZ := Lib.hid hz
      clear hz
      have hc : wr.cell? ⟨b, off + k, none⟩ = some (.int .i64 z) := (hbel.cell hb).trans hcw
      have hcd : wr.cell? ⟨w.heap.size, k, none⟩ = some (.int .i64 0) := by
        rw [hown.cellAt k (by omega)]
        have hl := hlen.out
        rw [List.getElem?_append_right (by simp; omega)]
        simp [List.getElem?_replicate]; omega
      have hfz := hown.frozenAt k
      have HO := Lib.hid hown
      clear hown hcw
      go_wp2
      go_roundw
      case rel =>
        refine ⟨k + 1, by omega, by go_num, ?_, hbel.setCell (by simp) _⟩
        have := (HO.out.stored k (.int .i64 z)).1
        have hl := hlen.out
        obtain ⟨r, hr⟩ : ∃ r, n - k = r + 1 := ⟨n - k - 1, by omega⟩
        have ez : xs.take (k + 1) = xs.take k ++ [z] := by
          have hk' : k < xs.length := by omega
          rw [List.take_succ_eq_append_getElem hk']
          have := HZ.out; rw [List.getElem?_eq_getElem hk'] at this; injection this with this; rw [this]
        rw [hr, List.set_append_right _ _ (by simp; omega), List.replicate_succ] at this
        rw [ez, show n - (k + 1) = r by omega]
        simpa [show k - min k xs.length = 0 by omega, i64v] using this
      case measure => simp [intOf]; omega
    · have hkn : k = n := by omega
      subst hkn
      have hl := hlen.out
      have e : (xs.take k).map i64v ++ List.replicate (k - k) (Value.int .i64 0) = xs.map i64v := by
        rw [List.take_of_length_le (by omega)]; simp
      rw [e] at hown
      clear e hl
      go_wp2
      go_ret
      exact ⟨w.heap.size, rfl, hown, hbel⟩
end Go.Proofs.Yteeodjbionjlmaa
namespace Go.Proofs.Yteeodjbionjlmaa
open Go.ChangeShapes Go.WideShapes Go.ChangeAt Go.RowKit
open Go.ChangeMaps (open_string shut_string)
set_option linter.unusedVariables false
set_option maxRecDepth 100000
def marks (k n : Nat) : List Int := (List.range n).map fun j => ((k + j : Nat) : Int)
theorem marks_len (k n : Nat) : (marks k n).length = n := by simp [marks]
theorem marks_at (k n j : Nat) (hj : j < n) : (marks k n)[j]? = some ((k + j : Nat) : Int) := by simp [marks, hj]
theorem marks_succ (k n : Nat) : marks k (n + 1) = marks k n ++ [((k + n : Nat) : Int)] := by simp [marks, List.range_succ]
set_option maxHeartbeats 400000 in
theorem eqInt64S_same (A A' : Option Addr) (n c c' B B' : Nat) (xs : List Int) (w : World) (h1 : Row i64v w B A n xs) (h2 : Row i64v w B' A' n xs) (hn : n ≤ 1073741824) :
    Calls Try.prog 57 #[.slice A n c, .slice A' n c'] w fun e w' => e = .returned (.bool true) ∧ ∃ q, w' = w.drewN q := by
  go_enter Try.func57, Try.ntmps57
  go_wp2
  go_loopw [5] (fun i wr => ∃ k q : Nat, k ≤ n ∧ i = .int .i64 k ∧ wr = w.drewN q) (fun i _ => n - (intOf i).toNat)
  case atStart => exact ⟨0, 0, by omega, rfl, rfl⟩
  case round =>
    obtain ⟨k, q, hk, rfl, rfl⟩ := hrel
    by_cases hlt : k < n
    · obtain ⟨b, off, z, rfl, _, hz, hc⟩ := h1.ati hlt
      obtain ⟨b', off', z', rfl, _, hz', hc'⟩ := h2.ati hlt
      have e : z' = z := by rw [hz] at hz'; injection hz' with e; exact e.symm
      subst e
      clear hz hz' h1 h2
      have hp : (0 : Int) ≤ (k : Int) := by omega
      have hq : (k : Int) < (n : Int) := by omega
      go_wp2
      go_quiet (fail)
      go_wp2
      go_roundw
      case rel => exact ⟨k + 1, _, by omega, by go_num, rfl⟩
      case measure => simp [intOf]; omega
    · go_wp2
      go_ret
      exact ⟨rfl, q, rfl⟩
set_option maxHeartbeats 400000 in
theorem markInt64S_some (g n c k0 base : Nat) (xs : List Int) (w : World) (h : w.ownsRow base 2 1 (.slice (some ⟨g, 0, none⟩) n c) n (xs.map i64v)) (hn : n ≤ 1073741824) (hk0 : k0 ≤ 1099511627776) :
    Calls Try.prog 58 #[.slice (some ⟨g, 0, none⟩) n c, .int .i64 k0] w fun e w' => e = .returned (.int .i64 ((k0 + n : Nat) : Int)) ∧
      w'.ownsRow base 2 1 (.slice (some ⟨g, 0, none⟩) n c) n ((marks k0 n).map i64v) ∧ w.grownBy w' (some g) ∧ w'.heap.size = w.heap.size := by
  have hlen : xs.length = n := by simpa using h.1
  have HL := Lib.hid hlen
  clear hlen
  go_enter Try.func58, Try.ntmps58
  go_wp2
  go_loopw [1, 5] (fun q i wr => ∃ k : Nat, k ≤ n ∧ i = .int .i64 k ∧ q = .int .i64 ((k0 + k : Nat) : Int) ∧ wr.ownsRow base 2 1 (.slice (some ⟨g, 0, none⟩) n c) n ((marks k0 k ++ xs.drop k).map i64v) ∧ w.grownBy wr (some g) ∧ wr.heap.size = w.heap.size) (fun _ i _ => n - (intOf i).toNat)
  case atStart => exact ⟨0, by omega, rfl, rfl, by simpa [marks] using h, World.grownBy.refl _ _, rfl⟩
  case round =>
    obtain ⟨k, hk, rfl, rfl, hown, hgrow, hsz⟩ := hrel
    clear h
    by_cases hlt : k < n
    · have hl := HL.out
      have hcd : ∃ z, wr.cell? ⟨g, k, none⟩ = some z := by
        rw [hown.cellAt k (by omega)]
        exact ⟨_, List.getElem?_eq_getElem (by simp [marks_len]; omega)⟩
      obtain ⟨z, hcd⟩ := hcd
      have hfz := hown.frozenAt k
      have HO := Lib.hid hown
      have HG := Lib.hid (And.intro hgrow hsz)
      clear hown hgrow hsz hl
      go_wp2
      go_roundw
      case rel =>
        have hl := HL.out
        have hs := HO.out.stored k (.int .i64 ((k0 + k : Nat) : Int))
        refine ⟨k + 1, by omega, by go_num, by go_num, ?_, ?_, ?_⟩
        · have := hs.1
          obtain ⟨y, ys, hy⟩ : ∃ y ys, xs.drop k = y :: ys := by
            cases hd : xs.drop k with
            | nil => have := congrArg List.length hd; simp at this; omega
            | cons y ys => exact ⟨y, ys, rfl⟩
          have hy2 : xs.drop (k + 1) = ys := by rw [← List.drop_drop, hy]; rfl
          rw [marks_succ, hy2]
          rw [hy] at this
          rw [List.map_append, List.set_append_right _ _ (by simp [marks_len])] at this
          simpa [marks_len, i64v] using this
        · exact ⟨hs.2.os.trans HG.out.1.os, hs.2.tape.trans HG.out.1.tape, hs.2.output.trans HG.out.1.output, by have := HG.out.2; simp; omega, fun j hj hne => (hs.2.block j (by have := HG.out.2; omega) hne).trans (HG.out.1.block j hj hne)⟩
        · have := HG.out.2; simpa using this
      case measure => simp [intOf]; omega
    · have hkn : k = n := by omega
      subst hkn
      have hl := HL.out
      have e : xs.drop k = [] := List.drop_eq_nil_of_le (by omega)
      rw [e, List.append_nil] at hown
      clear e hl
      go_wp2
      go_ret
      exact ⟨rfl, hown, hgrow, hsz⟩
theorem markInt64S_nil (k0 : Nat) (w : World) :
    Calls Try.prog 58 #[.slice none 0 0, .int .i64 k0] w fun e w' => e = .returned (.int .i64 k0) ∧ w = w' := by
  go_enter Try.func58, Try.ntmps58
  go_wp2
  refine wp_loop_rounds 1 ?_
  rw [rounds_succ]
  go_wp2
  go_ret
  exact ⟨rfl, rfl⟩
set_option maxHeartbeats 400000 in
theorem heldInt64S_any (A : Option Addr) (n c k0 B : Nat) (w : World) (h : Row i64v w B A n (marks k0 n)) (hn : n ≤ 1073741824) (hk0 : k0 ≤ 1099511627776) :
    Calls Try.prog 59 #[.slice A n c, .int .i64 k0] w fun e w' => e = .returned (.int .i64 ((k0 + n : Nat) : Int)) ∧ w = w' := by
  go_enter Try.func59, Try.ntmps59
  go_wp2
  go_loop [1, 5] (fun q i => ∃ k : Nat, k ≤ n ∧ i = .int .i64 k ∧ q = .int .i64 ((k0 + k : Nat) : Int)) (fun _ i => n - (intOf i).toNat)
  case atStart => exact ⟨0, by omega, rfl, rfl⟩
  case round =>
    obtain ⟨k, hk, rfl, rfl⟩ := hrel
    by_cases hlt : k < n
    · obtain ⟨b, off, z, rfl, _, hz, hc⟩ := h.ati hlt
      rw [marks_at k0 n k hlt] at hz
      injection hz with hz
      subst hz
      clear h
      go_wp2
      go_round
      case rel => exact ⟨k + 1, by omega, by go_num, by go_num⟩
      case measure => simp [intOf]; omega
    · have hkn : k = n := by omega
      subst hkn
      go_wp2
      go_ret
      exact ⟨rfl, rfl⟩
theorem drew_below {w w1 : World} (h : ∃ q, w1 = w.drewN q) : Below w.heap.size w w1 := by
  obtain ⟨q, rfl⟩ := h
  refine ⟨rfl, rfl, rfl, Nat.le_refl _, fun _ _ => rfl⟩
theorem own_drew {w w1 : World} {base e size n : Nat} {v : Value} {xs : List Value} (h : w.ownsRow base e size v n xs) (hq : ∃ q, w1 = w.drewN q) : w1.ownsRow base e size v n xs := own_below h (drew_below hq) (Nat.le_refl _)
end Go.Proofs.Yteeodjbionjlmaa
namespace Go.Proofs.Yteeodjbionjlmaa
open Go.ChangeShapes Go.WideShapes Go.ChangeAt Go.RowKit
open Go.ChangeMaps (open_string shut_string)
set_option linter.unusedVariables false
set_option maxRecDepth 100000
/-- marking a row, nil or not -/
theorem mark_any (A : Option Addr) (n c k0 base : Nat) (xs : List Int) (w : World) (h : w.ownsRow base 2 1 (.slice A n c) n (xs.map i64v)) (hn : n ≤ 1073741824) (hk0 : k0 ≤ 1099511627776) :
    Calls Try.prog 58 #[.slice A n c, .int .i64 k0] w fun e w' => e = .returned (.int .i64 ((k0 + n : Nat) : Int)) ∧
      w'.ownsRow base 2 1 (.slice A n c) n ((marks k0 n).map i64v) ∧ (∀ b1 e1 s1 v n1 zs, w.ownsRow b1 e1 s1 v n1 zs → (v.ownBlock = none ∨ v.ownBlock ≠ (Value.slice A n c).ownBlock) → w'.ownsRow b1 e1 s1 v n1 zs) ∧
      (∀ B w0, Below B w0 w → B ≤ base → B ≤ w.heap.size → Below B w0 w') ∧ w'.heap.size = w.heap.size := by
  rcases h.2 with ⟨hv, hn0⟩ | ⟨g, cap, cur, hv, hbg, _⟩
  · injection hv with h1 h2 h3
    subst h1; subst hn0; subst h3
    exact (markInt64S_nil k0 w).mono fun e w' ⟨he, hw⟩ => by subst hw; exact ⟨he, World.ownsRow_nil _ _ _ _, fun _ _ _ _ _ _ h _ => h, fun _ _ h _ _ => h, rfl⟩
  · injection hv with h1 h2 h3
    subst h1
    refine (markInt64S_some g n c k0 base xs w h hn hk0).mono fun e w' ⟨he, ho, hg, hs⟩ => ⟨he, ho, fun b1 e1 s1 v n1 zs hz hne => hz.kept hg hne, fun B w0 hb hB hBw => hb.grown hg hBw ?_, hs⟩
    intro k hk
    injection hk with hk
    subst hk
    omega
theorem own_ne2 {w1 w2 : World} {b1 e1 s1 n1 e2 s2 n2 : Nat} {v1 v2 : Value} {xs ys : List Value} (h1 : w1.ownsRow b1 e1 s1 v1 n1 xs) (h2 : w2.ownsRow w1.heap.size e2 s2 v2 n2 ys) :
    v2.ownBlock = none ∨ v2.ownBlock ≠ v1.ownBlock := by
  cases hv : v2.ownBlock with
  | none => exact .inl rfl
  | some g =>
    right
    intro e
    have a := (h1.lt g e.symm).2
    have b := (h2.lt g hv).1
    omega
end Go.Proofs.Yteeodjbionjlmaa
