import Derived.Test.YtmnmmjobplbflaaGreatDoorChecked
import Derived.WalkKit
import Derived.ProofKit
import Derived.OpenShut
import Derived.ShutString
import Derived.ChangeOld
import Derived.Below
import Derived.Lib.Hide
import Derived.OwnWalk
import Derived.Laws.OwnMore
import Derived.Deep.Slices
import Derived.Deep.Fields
import Derived.ChangeSame
import Derived.Deep.MidRow
import Derived.Test.YtmnmmjobplbflaaGreatDoorJb
import Derived.Test.YtmnmmjobplbflaaGreatDoorJr
import Derived.Test.YtmnmmjobplbflaaGreatDoorJa
import Derived.StillTailTactics
import Derived.Deep.Onto
namespace Go.Proofs.YtmnmmjobplbflaaGreatDoor
open Go.ChangeShapes Go.WideShapes Go.ChangeAt Go.RowKit
open Go.ChangeMaps (open_string shut_string)
set_option linter.unusedVariables false
open Go.Deep
set_option maxRecDepth 100000
/-- A slice of structs that reads as a list: f tells the cells of an element, sz their number. -/
def SRow {α : Type} (sz : Nat) (f : α → List Value) (w : World) (B : Nat) (A : Option Addr) (n : Nat) (xs : List α) : Prop :=
  xs.length = n ∧ (0 < n → ∃ b off, A = some ⟨b, off, none⟩ ∧ b < B ∧ ∀ j z, xs[j]? = some z → w.rangeAt b (off + j * sz) (f z))
def mbC (m : Mb) : List Value := [.int .i64 m.id, .int .i64 m.role, .int .i64 m.since, .int .i64 m.quiet]
def ivC (x : Iv) : List Value := [.int .i64 x.id, .int .i64 x.byy, .int .i64 x.til]
def bnC (x : Bn) : List Value := [.int .i64 x.id, .int .i64 x.til]
section
variable {α : Type} {sz : Nat} {f : α → List Value} {w w' : World} {B B' n : Nat} {A : Option Addr} {xs : List α}
theorem SRow.none_ : SRow sz f w B A 0 ([] : List α) := ⟨rfl, fun h => absurd h (by omega)⟩
theorem SRow.at_ {k : Nat} (h : SRow sz f w B A n xs) (hk : k < n) : ∃ b off z, A = some ⟨b, off, none⟩ ∧ b < B ∧ xs[k]? = some z ∧ w.rangeAt b (off + k * sz) (f z) := by
  obtain ⟨b, off, e, hb, hc⟩ := h.2 (by omega)
  have hl : k < xs.length := by have := h.1; omega
  exact ⟨b, off, xs[k], e, hb, List.getElem?_eq_getElem hl, hc k _ (List.getElem?_eq_getElem hl)⟩
theorem SRow.keep (h : SRow sz f w B A n xs) (hk : ∀ p : Addr, p.block < B → w'.cell? p = w.cell? p) : SRow sz f w' B A n xs :=
  ⟨h.1, fun hn => by
    obtain ⟨b, off, e, hb, hc⟩ := h.2 hn
    exact ⟨b, off, e, hb, fun j u hu i v hv => (hk _ hb).trans (hc j u hu i v hv)⟩⟩
theorem SRow.more (h : SRow sz f w B A n xs) (hB : B ≤ B') : SRow sz f w B' A n xs :=
  ⟨h.1, fun hn => by
    obtain ⟨b, off, e, hb, hc⟩ := h.2 hn
    exact ⟨b, off, e, by omega, hc⟩⟩
theorem SRow.below (h : SRow sz f w B A n xs) (hb : Below B w w') : SRow sz f w' B A n xs := h.keep fun _ hp => hb.cell hp
theorem SRow.to (h : SRow sz f w w.heap.size A n xs) (hb : Below w.heap.size w w') : SRow sz f w' w'.heap.size A n xs := (h.below hb).more hb.size
theorem SRow.drewN (h : SRow sz f w B A n xs) (k : Nat) : SRow sz f (w.drewN k) B A n xs := h
theorem SRow.alloc (h : SRow sz f w B A n xs) (hB : B ≤ w.heap.size) (o : Obj) : SRow sz f (w.alloc o) B A n xs := h.keep fun p hp => World.cell?_alloc_lt w o p (by omega)
theorem flat_get (hf : ∀ x, (f x).length = sz) : ∀ (xs : List α) (j : Nat) (z : α), xs[j]? = some z → ∀ i, i < sz → (xs.flatMap f)[j * sz + i]? = (f z)[i]? := by
  intro xs
  induction xs with
  | nil => intro j z h; simp at h
  | cons x r ih =>
    intro j z h i hi
    rw [List.flatMap_cons]
    cases j with
    | zero =>
      simp at h; subst h
      rw [List.getElem?_append_left (by rw [hf]; omega)]
      simp
    | succ j =>
      have h' : r[j]? = some z := by simpa using h
      have e : (j + 1) * sz + i = sz + (j * sz + i) := by rw [Nat.add_mul]; omega
      rw [e, List.getElem?_append_right (by rw [hf]; omega), hf, Nat.add_sub_cancel_left]
      exact ih j z h' i hi
theorem flat_len (hf : ∀ x, (f x).length = sz) (xs : List α) : (xs.flatMap f).length = xs.length * sz := by
  induction xs with
  | nil => simp
  | cons x r ih => rw [List.flatMap_cons, List.length_append, ih, hf, List.length_cons, Nat.add_mul]; omega
theorem SRow.of_own {base e c g : Nat} (hf : ∀ x, (f x).length = sz) (hsz : 0 < sz) (h : w.ownsRow base e sz (.slice (some ⟨g, 0, none⟩) n c) n (xs.flatMap f)) : SRow sz f w w.heap.size (some ⟨g, 0, none⟩) n xs := by
  have hl : xs.length = n := by
    have h1 := h.1
    rw [flat_len hf] at h1
    exact Nat.eq_of_mul_eq_mul_right hsz h1
  refine ⟨hl, fun hn => ⟨g, 0, rfl, (h.lt g rfl).2, fun j z hz i v hv => ?_⟩⟩
  have hj : j < n := by rw [← hl]; exact (List.getElem?_eq_some_iff.1 hz).1
  have hi : i < sz := by rw [← hf z]; exact (List.getElem?_eq_some_iff.1 hv).1
  have hb : j * sz + i < n * sz := by
    have : (j + 1) * sz ≤ n * sz := Nat.mul_le_mul_right _ hj
    rw [Nat.add_mul] at this
    omega
  rw [Nat.zero_add, h.cellAt _ hb, flat_get hf xs j z hz i hi, hv]
theorem SRow.of_own_any {base e c : Nat} {A : Option Addr} (hf : ∀ x, (f x).length = sz) (hsz : 0 < sz) (h : w.ownsRow base e sz (.slice A n c) n (xs.flatMap f)) : SRow sz f w w.heap.size A n xs := by
  rcases h.2 with ⟨hv, hn⟩ | ⟨g, cap, cur, hv, _⟩
  · have h1 := h.1
    rw [flat_len hf] at h1
    have hl : xs.length = n := Nat.eq_of_mul_eq_mul_right hsz h1
    exact ⟨hl, fun h0 => by omega⟩
  · injection hv with h1 h2 h3
    subst h1
    exact SRow.of_own hf hsz h
end
theorem mbC_len (x : Mb) : (mbC x).length = 4 := rfl
theorem ivC_len (x : Iv) : (ivC x).length = 3 := rfl
theorem bnC_len (x : Bn) : (bnC x).length = 2 := rfl
theorem SRow.atm {w : World} {B n k : Nat} {A : Option Addr} {xs : List Mb} (h : SRow 4 mbC w B A n xs) (hk : k < n) : ∃ b off z, A = some ⟨b, off, none⟩ ∧ b < B ∧ xs[k]? = some z ∧
    w.cell? ⟨b, off + k * 4, none⟩ = some (.int .i64 z.id) ∧ w.cell? ⟨b, off + k * 4 + 1, none⟩ = some (.int .i64 z.role) ∧ w.cell? ⟨b, off + k * 4 + 2, none⟩ = some (.int .i64 z.since) ∧ w.cell? ⟨b, off + k * 4 + 3, none⟩ = some (.int .i64 z.quiet) := by
  obtain ⟨b, off, z, e, hb, hz, hc⟩ := h.at_ hk
  exact ⟨b, off, z, e, hb, hz, hc 0 _ rfl, hc 1 _ rfl, hc 2 _ rfl, hc 3 _ rfl⟩
theorem SRow.ativ {w : World} {B n k : Nat} {A : Option Addr} {xs : List Iv} (h : SRow 3 ivC w B A n xs) (hk : k < n) : ∃ b off z, A = some ⟨b, off, none⟩ ∧ b < B ∧ xs[k]? = some z ∧
    w.cell? ⟨b, off + k * 3, none⟩ = some (.int .i64 z.id) ∧ w.cell? ⟨b, off + k * 3 + 1, none⟩ = some (.int .i64 z.byy) ∧ w.cell? ⟨b, off + k * 3 + 2, none⟩ = some (.int .i64 z.til) := by
  obtain ⟨b, off, z, e, hb, hz, hc⟩ := h.at_ hk
  exact ⟨b, off, z, e, hb, hz, hc 0 _ rfl, hc 1 _ rfl, hc 2 _ rfl⟩
theorem SRow.atbn {w : World} {B n k : Nat} {A : Option Addr} {xs : List Bn} (h : SRow 2 bnC w B A n xs) (hk : k < n) : ∃ b off z, A = some ⟨b, off, none⟩ ∧ b < B ∧ xs[k]? = some z ∧
    w.cell? ⟨b, off + k * 2, none⟩ = some (.int .i64 z.id) ∧ w.cell? ⟨b, off + k * 2 + 1, none⟩ = some (.int .i64 z.til) := by
  obtain ⟨b, off, z, e, hb, hz, hc⟩ := h.at_ hk
  exact ⟨b, off, z, e, hb, hz, hc 0 _ rfl, hc 1 _ rfl⟩
theorem mbC_one (z : Mb) : (#[.int .i64 z.id, .int .i64 z.role, .int .i64 z.since, .int .i64 z.quiet] : Array Value).all (·.oneCell') = true := by simp [Value.oneCell']
theorem ivC_one (z : Iv) : (#[.int .i64 z.id, .int .i64 z.byy, .int .i64 z.til] : Array Value).all (·.oneCell') = true := by simp [Value.oneCell']
theorem bnC_one (z : Bn) : (#[.int .i64 z.id, .int .i64 z.til] : Array Value).all (·.oneCell') = true := by simp [Value.oneCell']
end Go.Proofs.YtmnmmjobplbflaaGreatDoor
namespace Go.Proofs.YtmnmmjobplbflaaGreatDoor
open Go.ChangeShapes Go.WideShapes Go.ChangeAt Go.RowKit
open Go.ChangeMaps (open_string shut_string)
set_option linter.unusedVariables false
set_option maxRecDepth 100000
theorem grown_tr {w w1 w2 : World} {row : Option Nat} (h1 : w.grownBy w1 row) (h2 : w1.grownBy w2 row) : w.grownBy w2 row :=
  ⟨h2.os.trans h1.os, h2.tape.trans h1.tape, h2.output.trans h1.output, Nat.le_trans h1.size h2.size, fun k hk hne => (h2.block k (Nat.lt_of_lt_of_le hk h1.size) hne).trans (h1.block k hk hne)⟩
/-- cells of an own row set one after another -/
theorem own_setCells {base e size n cap g : Nat} : ∀ (vs : List Value) (o : Nat) (w : World) (pre tail : List Value), w.ownsRow base e size (.slice (some ⟨g, 0, none⟩) n cap) n (pre ++ tail) → pre.length = o → vs.length ≤ tail.length →
    (w.setCells g o vs).ownsRow base e size (.slice (some ⟨g, 0, none⟩) n cap) n (pre ++ (vs ++ tail.drop vs.length)) ∧ w.grownBy (w.setCells g o vs) (some g) := by
  intro vs
  induction vs with
  | nil =>
    intro o w pre tail h hp hv
    exact ⟨by simpa [World.setCells] using h, World.grownBy.refl _ _⟩
  | cons v r ih =>
    intro o w pre tail h hp hv
    cases tail with
    | nil => simp at hv
    | cons x t =>
      have h1 := h.stored o v
      rw [List.set_append_right _ _ (by omega), hp, Nat.sub_self, List.set_cons_zero, ← List.singleton_append, ← List.append_assoc] at h1
      have h2 := ih (o + 1) (w.setCell ⟨g, o, none⟩ v) (pre ++ [v]) t h1.1 (by simp [hp]) (by simpa using hv)
      rw [World.setCells]
      refine ⟨?_, grown_tr h1.2 h2.2⟩
      have := h2.1
      simpa using this
theorem own_there {w : World} {base e size n cap g : Nat} {xs : List Value} (h : w.ownsRow base e size (.slice (some ⟨g, 0, none⟩) n cap) n xs) (o m : Nat) (hm : o + m ≤ n * size) : w.there g o m := fun j hj => by
  refine ⟨?_, h.frozenAt _⟩
  rw [h.cellAt _ (by omega), List.getElem?_eq_getElem (by rw [h.1]; omega)]
  rfl
theorem take_flat {α : Type} {f : α → List Value} {xs : List α} {k : Nat} {z : α} (hz : xs[k]? = some z) : (xs.take (k + 1)).flatMap f = (xs.take k).flatMap f ++ f z := by
  rw [take_some hz, List.flatMap_append]
  simp
theorem own_next {α : Type} {f : α → List Value} {sz : Nat} (hf : ∀ x, (f x).length = sz) {w : World} {base e n cap g k : Nat} {xs : List α} {z : α} {tail : List Value} (hz : xs[k]? = some z) (hk : k < n)
    (h : w.ownsRow base e sz (.slice (some ⟨g, 0, none⟩) n cap) n ((xs.take k).flatMap f ++ tail)) (hkl : k ≤ xs.length) :
    (w.setCells g (k * sz) (f z)).ownsRow base e sz (.slice (some ⟨g, 0, none⟩) n cap) n ((xs.take (k + 1)).flatMap f ++ tail.drop sz) ∧ w.grownBy (w.setCells g (k * sz) (f z)) (some g) := by
  have hp : ((xs.take k).flatMap f).length = k * sz := by rw [flat_len hf, List.length_take]; congr 1; omega
  have hl := h.1
  rw [List.length_append, hp] at hl
  have hs : (k + 1) * sz ≤ n * sz := Nat.mul_le_mul_right _ hk
  rw [Nat.add_mul] at hs
  have := own_setCells (f z) (k * sz) w _ tail h hp (by rw [hf]; omega)
  rw [hf] at this
  rw [take_flat hz]
  rw [← List.append_assoc] at this
  exact this
theorem own_next' {α : Type} {f : α → List Value} {sz : Nat} (hf : ∀ x, (f x).length = sz) (vs : List Value) {w : World} {base e n cap g k : Nat} {xs : List α} {z : α} {tail : List Value} (hz : xs[k]? = some z) (hvs : f z = vs) (hk : k < n)
    (h : w.ownsRow base e sz (.slice (some ⟨g, 0, none⟩) n cap) n ((xs.take k).flatMap f ++ tail)) (hkl : k ≤ xs.length) :
    (w.setCells g (k * sz) vs).ownsRow base e sz (.slice (some ⟨g, 0, none⟩) n cap) n ((xs.take (k + 1)).flatMap f ++ tail.drop sz) ∧ w.grownBy (w.setCells g (k * sz) vs) (some g) := by
  subst hvs; exact own_next hf hz hk h hkl
theorem own_full {α : Type} {f : α → List Value} {sz : Nat} (hf : ∀ x, (f x).length = sz) {w : World} {base e n cap g : Nat} {xs : List α} {tail : List Value} (hn : xs.length = n)
    (h : w.ownsRow base e sz (.slice (some ⟨g, 0, none⟩) n cap) n ((xs.take n).flatMap f ++ tail)) : w.ownsRow base e sz (.slice (some ⟨g, 0, none⟩) n cap) n (xs.flatMap f) := by
  have hl := h.1
  rw [List.take_of_length_le (by omega), List.length_append, flat_len hf, hn] at hl
  have : tail = [] := List.eq_nil_of_length_eq_zero (by omega)
  subst this
  rw [List.take_of_length_le (by omega), List.append_nil] at h
  exact h
end Go.Proofs.YtmnmmjobplbflaaGreatDoor
namespace Go.Proofs.YtmnmmjobplbflaaGreatDoor
open Go.ChangeShapes Go.WideShapes Go.ChangeAt Go.RowKit
open Go.ChangeMaps (open_string shut_string)
set_option linter.unusedVariables false
set_option maxRecDepth 100000
theorem toMember_any (z : Mb) (w : World) :
    Calls Tryz.prog 104 #[.agg #[.int .i64 z.id, .int .i64 z.role, .int .i64 z.since, .int .i64 z.quiet]] w fun e w' => e = .returned (.agg #[.int .i64 z.id, .int .i64 z.role, .int .i64 z.since, .int .i64 z.quiet]) ∧ Below w.heap.size w w' := by
  go_enter Tryz.func104, Tryz.ntmps104
  go_wp2
  exact bodyPost_ret (v := .agg #[.int .i64 z.id, .int .i64 z.role, .int .i64 z.since, .int .i64 z.quiet]) (by simp [results, Tryz.results104, go_sem]) rfl ⟨rfl, by repeat (first | exact Below.refl _ _ | refine Below.setCell ?_ (by simp) _ | refine Below.alloc ?_ (by first | (simp; omega) | simp) _)⟩
theorem Tryz.info_Member : (Tryz.prog.info? 66).map (fun i => (i.zero, i.size, i.bytes)) = some (some (.agg #[.int .i64 0, .int .i64 0, .int .i64 0, .int .i64 0]), 4, 32) := by kernel_rfl
theorem Tryz.size_Member : (Tryz.prog.info? 66).map (·.size) = some 4 := by kernel_rfl
set_option maxHeartbeats 800000 in
theorem toMemberS_any (A : Option Addr) (n c : Nat) (xs : List Mb) (w : World) (h : SRow 4 mbC w w.heap.size A n xs) (hn : n ≤ 1048576) :
    Calls Tryz.prog 62 #[.slice A n c] w fun e w' => ∃ g, e = .returned (.slice (some ⟨g, 0, none⟩) n n) ∧ w'.ownsRow w.heap.size 66 4 (.slice (some ⟨g, 0, none⟩) n n) n (xs.flatMap mbC) ∧ Below w.heap.size w w' := by
  obtain ⟨i0, hi, hz0, hz1, hz2⟩ := info_parts Tryz.info_Member
  have HL := Lib.hid h.1
  go_enter Tryz.func62, Tryz.ntmps62
  go_wp2_with (at_make; refine wpList_make_full _ rfl _ _ 24 rfl w.heap.size 66 i0 (.agg #[.int .i64 0, .int .i64 0, .int .i64 0, .int .i64 0]) 4 Tryz.underlying24 hi hz0 hz1 _ _ _ _ n rfl rfl rfl rfl (by rw [hz2]; omega) (by unfold maxLen; omega) (Nat.le_refl _) ?_; intro w1 hown1 hgrow1)
  have hbel1 : Below w.heap.size w w1 := (Below.refl _ _).grown hgrow1 (Nat.le_refl _) (by simp)
  clear hgrow1
  go_loopw [4] (fun i wr => ∃ (k : Nat) (tail : List Value), k ≤ n ∧ i = .int .i64 k ∧ wr.ownsRow w.heap.size 66 4 (.slice (some ⟨w.heap.size, 0, none⟩) n n) n ((xs.take k).flatMap mbC ++ tail) ∧ Below w.heap.size w wr) (fun i _ => n - (intOf i).toNat)
  case atStart => exact ⟨0, _, by omega, rfl, hown1, hbel1⟩
  case round =>
    obtain ⟨k, tail, hk, rfl, hown, hbel⟩ := hrel
    clear hown1 hbel1
    by_cases hlt : k < n
    · obtain ⟨b, off, z, rfl, hb, hz, c0, c1, c2, c3⟩ := h.atm hlt
      have HZ := Lib.hid hz
      clear hz
      have d0 : wr.cell? ⟨b, off + k * 4, none⟩ = some (.int .i64 z.id) := (hbel.cell hb).trans c0
      have d1 : wr.cell? ⟨b, off + k * 4 + 1, none⟩ = some (.int .i64 z.role) := (hbel.cell hb).trans c1
      have d2 : wr.cell? ⟨b, off + k * 4 + 2, none⟩ = some (.int .i64 z.since) := (hbel.cell hb).trans c2
      have d3 : wr.cell? ⟨b, off + k * 4 + 3, none⟩ = some (.int .i64 z.quiet) := (hbel.cell hb).trans c3
      have HO := Lib.hid hown
      have hsz := hbel.size
      clear hown c0 c1 c2 c3
      go_wp2_with fail
      go_at_call 104; refine (toMember_any z _).mono ?_; rintro e w2 ⟨rfl, hb2⟩
      have hbel2 := hbel.trans (hb2.mono hsz)
      have hsz2 := hbel2.size
      have HO2 := Lib.hid (own_below HO.out hb2 (Nat.le_refl _))
      have HN := Lib.hid (own_next' mbC_len (#[.int .i64 z.id, .int .i64 z.role, .int .i64 z.since, .int .i64 z.quiet] : Array Value).toList HZ.out rfl hlt HO2.out (by have := HL.out; omega))
      have HT := Lib.hid (own_there HO2.out (k * 4) 4 (by omega))
      clear HO hb2 HO2
      go_wp2_with (refine wpList_store_mid rfl 66 (.tmp 21) (.tmp 20) rfl w.heap.size (k * 4) #[.int .i64 z.id, .int .i64 z.role, .int .i64 z.since, .int .i64 z.quiet] rfl rfl HT.out Tryz.size_Member (mbC_one z) ?_; have hst := HN.out; revert hst; generalize World.setCells _ _ _ _ = w3; intro hst)
      go_roundw
      case rel => exact ⟨k + 1, tail.drop 4, by omega, by go_num, hst.1, hbel2.grown hst.2 hsz2 (by simp)⟩
      case measure => simp [intOf]; omega
    · have hkn : k = n := by omega
      subst hkn
      have HO := Lib.hid (own_full mbC_len HL.out hown)
      clear hown
      go_wp2
      go_ret
      exact ⟨_, rfl, HO.out, hbel⟩
end Go.Proofs.YtmnmmjobplbflaaGreatDoor
namespace Go.Proofs.YtmnmmjobplbflaaGreatDoor
open Go.ChangeShapes Go.WideShapes Go.ChangeAt Go.RowKit
open Go.ChangeMaps (open_string shut_string)
set_option linter.unusedVariables false
set_option maxRecDepth 100000
theorem eqMember_same (z : Mb) (w : World) :
    Calls Tryz.prog 107 #[.agg #[.int .i64 z.id, .int .i64 z.role, .int .i64 z.since, .int .i64 z.quiet], .agg #[.int .i64 z.id, .int .i64 z.role, .int .i64 z.since, .int .i64 z.quiet]] w fun e w' => e = .returned (.bool true) ∧ Below w.heap.size w w' := by
  go_enter Tryz.func107, Tryz.ntmps107
  go_wp2
  go_ret
  exact ⟨rfl, by repeat (first | exact Below.refl _ _ | refine Below.setCell ?_ (by simp) _ | refine Below.alloc ?_ (by first | (simp; omega) | simp) _)⟩
theorem szMemberS_ok (A : Option Addr) (n c : Nat) (l : Int) (w : World) (h : (n : Int) ≤ l) (hl : l ≤ 1048576) :
    Calls Tryz.prog 52 #[.slice A n c, .int .i64 l] w fun e w' => e = .returned (.int .i64 (l - n)) ∧ w = w' := by
  have h1 : ¬ (l - (n : Int) < 0) := by omega
  go_enter Tryz.func52, Tryz.ntmps52
  go_wp2
  go_ret
  exact ⟨rfl, rfl⟩
theorem szMemberS_no (A : Option Addr) (n c : Nat) (l : Int) (w : World) (h : l < (n : Int)) (hl : 0 ≤ l) (hn : (n : Int) ≤ 9223372036854775807) :
    Calls Tryz.prog 52 #[.slice A n c, .int .i64 l] w fun e w' => e = .returned (.int .i64 (-1)) ∧ w = w' := by
  go_enter Tryz.func52, Tryz.ntmps52
  go_wp2
  go_ret
  exact ⟨rfl, rfl⟩
set_option maxHeartbeats 800000 in
theorem eqMemberS_same (A A' : Option Addr) (n c n' c' : Nat) (xs : List Mb) (w : World) (h : SRow 4 mbC w w.heap.size A n xs) (h' : SRow 4 mbC w w.heap.size A' n' xs) (hn : n ≤ 1048576) :
    Calls Tryz.prog 65 #[.slice A n c, .slice A' n' c'] w fun e w' => e = .returned (.bool true) ∧ Below w.heap.size w w' := by
  obtain rfl : n' = n := by rw [← h.1, ← h'.1]
  go_enter Tryz.func65, Tryz.ntmps65
  go_wp2
  go_loopw [5] (fun i wr => ∃ k : Nat, k ≤ n' ∧ i = .int .i64 k ∧ Below w.heap.size w wr) (fun i _ => n' - (intOf i).toNat)
  case atStart => exact ⟨0, by omega, rfl, Below.refl _ _⟩
  case round =>
    obtain ⟨k, hk, rfl, hbel⟩ := hrel
    by_cases hlt : k < n'
    · obtain ⟨b, off, z, rfl, hb, hz, c0, c1, c2, c3⟩ := h.atm hlt
      obtain ⟨b', off', z', rfl, hb', hz', e0, e1, e2, e3⟩ := h'.atm hlt
      rw [hz] at hz'
      injection hz' with hz'
      subst hz'
      clear hz
      have d0 := (hbel.cell (p := ⟨b, off + k * 4, none⟩) hb).trans c0
      have f0 := (hbel.cell (p := ⟨b', off' + k * 4, none⟩) hb').trans e0
      have d1 := (hbel.cell (p := ⟨b, off + k * 4 + 1, none⟩) hb).trans c1
      have f1 := (hbel.cell (p := ⟨b', off' + k * 4 + 1, none⟩) hb').trans e1
      have d2 := (hbel.cell (p := ⟨b, off + k * 4 + 2, none⟩) hb).trans c2
      have f2 := (hbel.cell (p := ⟨b', off' + k * 4 + 2, none⟩) hb').trans e2
      have d3 := (hbel.cell (p := ⟨b, off + k * 4 + 3, none⟩) hb).trans c3
      have f3 := (hbel.cell (p := ⟨b', off' + k * 4 + 3, none⟩) hb').trans e3
      have hbs := hbel.size
      have hp : (0 : Int) ≤ (k : Int) := by omega
      have hq : (k : Int) < (n' : Int) := by omega
      clear c0 c1 c2 c3 e0 e1 e2 e3 h h'
      go_wp2_with fail
      go_still_tail 8, (by kernel_rfl)
      go_wp2_with (go_at_call 107; refine (eqMember_same z _).mono ?_; rintro e w4 ⟨rfl, hb4⟩)
      have hbel4 : Below w.heap.size w w4 := hbel.drew.trans (hb4.mono hbs)
      clear hbel hb4
      go_roundw
      case rel => exact ⟨k + 1, by omega, by go_num, hbel4⟩
      case measure => simp [intOf]; omega
    · have hkn : k = n' := by omega
      subst hkn
      go_wp2
      go_ret
      exact ⟨rfl, hbel⟩
end Go.Proofs.YtmnmmjobplbflaaGreatDoor
namespace Go.Proofs.YtmnmmjobplbflaaGreatDoor
open Go.ChangeShapes Go.WideShapes Go.ChangeAt Go.RowKit
open Go.ChangeMaps (open_string shut_string)
set_option linter.unusedVariables false
set_option maxRecDepth 100000
theorem toInvite_any (z : Iv) (w : World) :
    Calls Tryz.prog 105 #[.agg #[.int .i64 z.id, .int .i64 z.byy, .int .i64 z.til]] w fun e w' => e = .returned (.agg #[.int .i64 z.id, .int .i64 z.byy, .int .i64 z.til]) ∧ Below w.heap.size w w' := by
  go_enter Tryz.func105, Tryz.ntmps105
  go_wp2
  exact bodyPost_ret (v := .agg #[.int .i64 z.id, .int .i64 z.byy, .int .i64 z.til]) (by simp [results, Tryz.results105, go_sem]) rfl ⟨rfl, by repeat (first | exact Below.refl _ _ | refine Below.setCell ?_ (by simp) _ | refine Below.alloc ?_ (by first | (simp; omega) | simp) _)⟩
theorem Tryz.info_Invite : (Tryz.prog.info? 36).map (fun i => (i.zero, i.size, i.bytes)) = some (some (.agg #[.int .i64 0, .int .i64 0, .int .i64 0]), 3, 24) := by kernel_rfl
theorem Tryz.size_Invite : (Tryz.prog.info? 36).map (·.size) = some 3 := by kernel_rfl
set_option maxHeartbeats 800000 in
theorem toInviteS_any (A : Option Addr) (n c : Nat) (xs : List Iv) (w : World) (h : SRow 3 ivC w w.heap.size A n xs) (hn : n ≤ 1048576) :
    Calls Tryz.prog 63 #[.slice A n c] w fun e w' => ∃ g, e = .returned (.slice (some ⟨g, 0, none⟩) n n) ∧ w'.ownsRow w.heap.size 36 3 (.slice (some ⟨g, 0, none⟩) n n) n (xs.flatMap ivC) ∧ Below w.heap.size w w' := by
  obtain ⟨i0, hi, hz0, hz1, hz2⟩ := info_parts Tryz.info_Invite
  have HL := Lib.hid h.1
  go_enter Tryz.func63, Tryz.ntmps63
  go_wp2_with (at_make; refine wpList_make_full _ rfl _ _ 25 rfl w.heap.size 36 i0 (.agg #[.int .i64 0, .int .i64 0, .int .i64 0]) 3 Tryz.underlying25 hi hz0 hz1 _ _ _ _ n rfl rfl rfl rfl (by rw [hz2]; omega) (by unfold maxLen; omega) (Nat.le_refl _) ?_; intro w1 hown1 hgrow1)
  have hbel1 : Below w.heap.size w w1 := (Below.refl _ _).grown hgrow1 (Nat.le_refl _) (by simp)
  clear hgrow1
  go_loopw [4] (fun i wr => ∃ (k : Nat) (tail : List Value), k ≤ n ∧ i = .int .i64 k ∧ wr.ownsRow w.heap.size 36 3 (.slice (some ⟨w.heap.size, 0, none⟩) n n) n ((xs.take k).flatMap ivC ++ tail) ∧ Below w.heap.size w wr) (fun i _ => n - (intOf i).toNat)
  case atStart => exact ⟨0, _, by omega, rfl, hown1, hbel1⟩
  case round =>
    obtain ⟨k, tail, hk, rfl, hown, hbel⟩ := hrel
    clear hown1 hbel1
    by_cases hlt : k < n
    · obtain ⟨b, off, z, rfl, hb, hz, c0, c1, c2⟩ := h.ativ hlt
      have HZ := Lib.hid hz
      clear hz
      have d0 : wr.cell? ⟨b, off + k * 3, none⟩ = some (.int .i64 z.id) := (hbel.cell hb).trans c0
      have d1 : wr.cell? ⟨b, off + k * 3 + 1, none⟩ = some (.int .i64 z.byy) := (hbel.cell hb).trans c1
      have d2 : wr.cell? ⟨b, off + k * 3 + 2, none⟩ = some (.int .i64 z.til) := (hbel.cell hb).trans c2
      have HO := Lib.hid hown
      have hsz := hbel.size
      clear hown c0 c1 c2
      go_wp2_with fail
      go_at_call 105; refine (toInvite_any z _).mono ?_; rintro e w2 ⟨rfl, hb2⟩
      have hbel2 := hbel.trans (hb2.mono hsz)
      have hsz2 := hbel2.size
      have HO2 := Lib.hid (own_below HO.out hb2 (Nat.le_refl _))
      have HN := Lib.hid (own_next' ivC_len (#[.int .i64 z.id, .int .i64 z.byy, .int .i64 z.til] : Array Value).toList HZ.out rfl hlt HO2.out (by have := HL.out; omega))
      have HT := Lib.hid (own_there HO2.out (k * 3) 3 (by omega))
      clear HO hb2 HO2
      go_wp2_with (refine wpList_store_mid rfl 36 (.tmp 21) (.tmp 20) rfl w.heap.size (k * 3) #[.int .i64 z.id, .int .i64 z.byy, .int .i64 z.til] rfl rfl HT.out Tryz.size_Invite (ivC_one z) ?_; have hst := HN.out; revert hst; generalize World.setCells _ _ _ _ = w3; intro hst)
      go_roundw
      case rel => exact ⟨k + 1, tail.drop 3, by omega, by go_num, hst.1, hbel2.grown hst.2 hsz2 (by simp)⟩
      case measure => simp [intOf]; omega
    · have hkn : k = n := by omega
      subst hkn
      have HO := Lib.hid (own_full ivC_len HL.out hown)
      clear hown
      go_wp2
      go_ret
      exact ⟨_, rfl, HO.out, hbel⟩
end Go.Proofs.YtmnmmjobplbflaaGreatDoor
namespace Go.Proofs.YtmnmmjobplbflaaGreatDoor
open Go.ChangeShapes Go.WideShapes Go.ChangeAt Go.RowKit
open Go.ChangeMaps (open_string shut_string)
set_option linter.unusedVariables false
set_option maxRecDepth 100000
theorem eqInvite_same (z : Iv) (w : World) :
    Calls Tryz.prog 108 #[.agg #[.int .i64 z.id, .int .i64 z.byy, .int .i64 z.til], .agg #[.int .i64 z.id, .int .i64 z.byy, .int .i64 z.til]] w fun e w' => e = .returned (.bool true) ∧ Below w.heap.size w w' := by
  go_enter Tryz.func108, Tryz.ntmps108
  go_wp2
  go_ret
  exact ⟨rfl, by repeat (first | exact Below.refl _ _ | refine Below.setCell ?_ (by simp) _ | refine Below.alloc ?_ (by first | (simp; omega) | simp) _)⟩
theorem szInviteS_ok (A : Option Addr) (n c : Nat) (l : Int) (w : World) (h : (n : Int) ≤ l) (hl : l ≤ 1048576) :
    Calls Tryz.prog 53 #[.slice A n c, .int .i64 l] w fun e w' => e = .returned (.int .i64 (l - n)) ∧ w = w' := by
  have h1 : ¬ (l - (n : Int) < 0) := by omega
  go_enter Tryz.func53, Tryz.ntmps53
  go_wp2
  go_ret
  exact ⟨rfl, rfl⟩
theorem szInviteS_no (A : Option Addr) (n c : Nat) (l : Int) (w : World) (h : l < (n : Int)) (hl : 0 ≤ l) (hn : (n : Int) ≤ 9223372036854775807) :
    Calls Tryz.prog 53 #[.slice A n c, .int .i64 l] w fun e w' => e = .returned (.int .i64 (-1)) ∧ w = w' := by
  go_enter Tryz.func53, Tryz.ntmps53
  go_wp2
  go_ret
  exact ⟨rfl, rfl⟩
set_option maxHeartbeats 800000 in
theorem eqInviteS_same (A A' : Option Addr) (n c n' c' : Nat) (xs : List Iv) (w : World) (h : SRow 3 ivC w w.heap.size A n xs) (h' : SRow 3 ivC w w.heap.size A' n' xs) (hn : n ≤ 1048576) :
    Calls Tryz.prog 66 #[.slice A n c, .slice A' n' c'] w fun e w' => e = .returned (.bool true) ∧ Below w.heap.size w w' := by
  obtain rfl : n' = n := by rw [← h.1, ← h'.1]
  go_enter Tryz.func66, Tryz.ntmps66
  go_wp2
  go_loopw [5] (fun i wr => ∃ k : Nat, k ≤ n' ∧ i = .int .i64 k ∧ Below w.heap.size w wr) (fun i _ => n' - (intOf i).toNat)
  case atStart => exact ⟨0, by omega, rfl, Below.refl _ _⟩
  case round =>
    obtain ⟨k, hk, rfl, hbel⟩ := hrel
    by_cases hlt : k < n'
    · obtain ⟨b, off, z, rfl, hb, hz, c0, c1, c2⟩ := h.ativ hlt
      obtain ⟨b', off', z', rfl, hb', hz', e0, e1, e2⟩ := h'.ativ hlt
      rw [hz] at hz'
      injection hz' with hz'
      subst hz'
      clear hz
      have d0 := (hbel.cell (p := ⟨b, off + k * 3, none⟩) hb).trans c0
      have f0 := (hbel.cell (p := ⟨b', off' + k * 3, none⟩) hb').trans e0
      have d1 := (hbel.cell (p := ⟨b, off + k * 3 + 1, none⟩) hb).trans c1
      have f1 := (hbel.cell (p := ⟨b', off' + k * 3 + 1, none⟩) hb').trans e1
      have d2 := (hbel.cell (p := ⟨b, off + k * 3 + 2, none⟩) hb).trans c2
      have f2 := (hbel.cell (p := ⟨b', off' + k * 3 + 2, none⟩) hb').trans e2
      have hbs := hbel.size
      have hp : (0 : Int) ≤ (k : Int) := by omega
      have hq : (k : Int) < (n' : Int) := by omega
      clear c0 c1 c2 e0 e1 e2 h h'
      go_wp2_with fail
      go_still_tail 8, (by kernel_rfl)
      go_wp2_with (go_at_call 108; refine (eqInvite_same z _).mono ?_; rintro e w4 ⟨rfl, hb4⟩)
      have hbel4 : Below w.heap.size w w4 := hbel.drew.trans (hb4.mono hbs)
      clear hbel hb4
      go_roundw
      case rel => exact ⟨k + 1, by omega, by go_num, hbel4⟩
      case measure => simp [intOf]; omega
    · have hkn : k = n' := by omega
      subst hkn
      go_wp2
      go_ret
      exact ⟨rfl, hbel⟩
end Go.Proofs.YtmnmmjobplbflaaGreatDoor
namespace Go.Proofs.YtmnmmjobplbflaaGreatDoor
open Go.ChangeShapes Go.WideShapes Go.ChangeAt Go.RowKit
open Go.ChangeMaps (open_string shut_string)
set_option linter.unusedVariables false
set_option maxRecDepth 100000
theorem toBan_any (z : Bn) (w : World) :
    Calls Tryz.prog 106 #[.agg #[.int .i64 z.id, .int .i64 z.til]] w fun e w' => e = .returned (.agg #[.int .i64 z.id, .int .i64 z.til]) ∧ Below w.heap.size w w' := by
  go_enter Tryz.func106, Tryz.ntmps106
  go_wp2
  exact bodyPost_ret (v := .agg #[.int .i64 z.id, .int .i64 z.til]) (by simp [results, Tryz.results106, go_sem]) rfl ⟨rfl, by repeat (first | exact Below.refl _ _ | refine Below.setCell ?_ (by simp) _ | refine Below.alloc ?_ (by first | (simp; omega) | simp) _)⟩
theorem Tryz.info_Ban : (Tryz.prog.info? 38).map (fun i => (i.zero, i.size, i.bytes)) = some (some (.agg #[.int .i64 0, .int .i64 0]), 2, 16) := by kernel_rfl
theorem Tryz.size_Ban : (Tryz.prog.info? 38).map (·.size) = some 2 := by kernel_rfl
set_option maxHeartbeats 800000 in
theorem toBanS_any (A : Option Addr) (n c : Nat) (xs : List Bn) (w : World) (h : SRow 2 bnC w w.heap.size A n xs) (hn : n ≤ 1048576) :
    Calls Tryz.prog 64 #[.slice A n c] w fun e w' => ∃ g, e = .returned (.slice (some ⟨g, 0, none⟩) n n) ∧ w'.ownsRow w.heap.size 38 2 (.slice (some ⟨g, 0, none⟩) n n) n (xs.flatMap bnC) ∧ Below w.heap.size w w' := by
  obtain ⟨i0, hi, hz0, hz1, hz2⟩ := info_parts Tryz.info_Ban
  have HL := Lib.hid h.1
  go_enter Tryz.func64, Tryz.ntmps64
  go_wp2_with (at_make; refine wpList_make_full _ rfl _ _ 26 rfl w.heap.size 38 i0 (.agg #[.int .i64 0, .int .i64 0]) 2 Tryz.underlying26 hi hz0 hz1 _ _ _ _ n rfl rfl rfl rfl (by rw [hz2]; omega) (by unfold maxLen; omega) (Nat.le_refl _) ?_; intro w1 hown1 hgrow1)
  have hbel1 : Below w.heap.size w w1 := (Below.refl _ _).grown hgrow1 (Nat.le_refl _) (by simp)
  clear hgrow1
  go_loopw [4] (fun i wr => ∃ (k : Nat) (tail : List Value), k ≤ n ∧ i = .int .i64 k ∧ wr.ownsRow w.heap.size 38 2 (.slice (some ⟨w.heap.size, 0, none⟩) n n) n ((xs.take k).flatMap bnC ++ tail) ∧ Below w.heap.size w wr) (fun i _ => n - (intOf i).toNat)
  case atStart => exact ⟨0, _, by omega, rfl, hown1, hbel1⟩
  case round =>
    obtain ⟨k, tail, hk, rfl, hown, hbel⟩ := hrel
    clear hown1 hbel1
    by_cases hlt : k < n
    · obtain ⟨b, off, z, rfl, hb, hz, c0, c1⟩ := h.atbn hlt
      have HZ := Lib.hid hz
      clear hz
      have d0 : wr.cell? ⟨b, off + k * 2, none⟩ = some (.int .i64 z.id) := (hbel.cell hb).trans c0
      have d1 : wr.cell? ⟨b, off + k * 2 + 1, none⟩ = some (.int .i64 z.til) := (hbel.cell hb).trans c1
      have HO := Lib.hid hown
      have hsz := hbel.size
      clear hown c0 c1
      go_wp2_with fail
      go_at_call 106; refine (toBan_any z _).mono ?_; rintro e w2 ⟨rfl, hb2⟩
      have hbel2 := hbel.trans (hb2.mono hsz)
      have hsz2 := hbel2.size
      have HO2 := Lib.hid (own_below HO.out hb2 (Nat.le_refl _))
      have HN := Lib.hid (own_next' bnC_len (#[.int .i64 z.id, .int .i64 z.til] : Array Value).toList HZ.out rfl hlt HO2.out (by have := HL.out; omega))
      have HT := Lib.hid (own_there HO2.out (k * 2) 2 (by omega))
      clear HO hb2 HO2
      go_wp2_with (refine wpList_store_mid rfl 38 (.tmp 21) (.tmp 20) rfl w.heap.size (k * 2) #[.int .i64 z.id, .int .i64 z.til] rfl rfl HT.out Tryz.size_Ban (bnC_one z) ?_; have hst := HN.out; revert hst; generalize World.setCells _ _ _ _ = w3; intro hst)
      go_roundw
      case rel => exact ⟨k + 1, tail.drop 2, by omega, by go_num, hst.1, hbel2.grown hst.2 hsz2 (by simp)⟩
      case measure => simp [intOf]; omega
    · have hkn : k = n := by omega
      subst hkn
      have HO := Lib.hid (own_full bnC_len HL.out hown)
      clear hown
      go_wp2
      go_ret
      exact ⟨_, rfl, HO.out, hbel⟩
end Go.Proofs.YtmnmmjobplbflaaGreatDoor
namespace Go.Proofs.YtmnmmjobplbflaaGreatDoor
open Go.ChangeShapes Go.WideShapes Go.ChangeAt Go.RowKit
open Go.ChangeMaps (open_string shut_string)
set_option linter.unusedVariables false
set_option maxRecDepth 100000
theorem eqBan_same (z : Bn) (w : World) :
    Calls Tryz.prog 109 #[.agg #[.int .i64 z.id, .int .i64 z.til], .agg #[.int .i64 z.id, .int .i64 z.til]] w fun e w' => e = .returned (.bool true) ∧ Below w.heap.size w w' := by
  go_enter Tryz.func109, Tryz.ntmps109
  go_wp2
  go_ret
  exact ⟨rfl, by repeat (first | exact Below.refl _ _ | refine Below.setCell ?_ (by simp) _ | refine Below.alloc ?_ (by first | (simp; omega) | simp) _)⟩
theorem szBanS_ok (A : Option Addr) (n c : Nat) (l : Int) (w : World) (h : (n : Int) ≤ l) (hl : l ≤ 1048576) :
    Calls Tryz.prog 54 #[.slice A n c, .int .i64 l] w fun e w' => e = .returned (.int .i64 (l - n)) ∧ w = w' := by
  have h1 : ¬ (l - (n : Int) < 0) := by omega
  go_enter Tryz.func54, Tryz.ntmps54
  go_wp2
  go_ret
  exact ⟨rfl, rfl⟩
theorem szBanS_no (A : Option Addr) (n c : Nat) (l : Int) (w : World) (h : l < (n : Int)) (hl : 0 ≤ l) (hn : (n : Int) ≤ 9223372036854775807) :
    Calls Tryz.prog 54 #[.slice A n c, .int .i64 l] w fun e w' => e = .returned (.int .i64 (-1)) ∧ w = w' := by
  go_enter Tryz.func54, Tryz.ntmps54
  go_wp2
  go_ret
  exact ⟨rfl, rfl⟩
set_option maxHeartbeats 800000 in
theorem eqBanS_same (A A' : Option Addr) (n c n' c' : Nat) (xs : List Bn) (w : World) (h : SRow 2 bnC w w.heap.size A n xs) (h' : SRow 2 bnC w w.heap.size A' n' xs) (hn : n ≤ 1048576) :
    Calls Tryz.prog 67 #[.slice A n c, .slice A' n' c'] w fun e w' => e = .returned (.bool true) ∧ Below w.heap.size w w' := by
  obtain rfl : n' = n := by rw [← h.1, ← h'.1]
  go_enter Tryz.func67, Tryz.ntmps67
  go_wp2
  go_loopw [5] (fun i wr => ∃ k : Nat, k ≤ n' ∧ i = .int .i64 k ∧ Below w.heap.size w wr) (fun i _ => n' - (intOf i).toNat)
  case atStart => exact ⟨0, by omega, rfl, Below.refl _ _⟩
  case round =>
    obtain ⟨k, hk, rfl, hbel⟩ := hrel
    by_cases hlt : k < n'
    · obtain ⟨b, off, z, rfl, hb, hz, c0, c1⟩ := h.atbn hlt
      obtain ⟨b', off', z', rfl, hb', hz', e0, e1⟩ := h'.atbn hlt
      rw [hz] at hz'
      injection hz' with hz'
      subst hz'
      clear hz
      have d0 := (hbel.cell (p := ⟨b, off + k * 2, none⟩) hb).trans c0
      have f0 := (hbel.cell (p := ⟨b', off' + k * 2, none⟩) hb').trans e0
      have d1 := (hbel.cell (p := ⟨b, off + k * 2 + 1, none⟩) hb).trans c1
      have f1 := (hbel.cell (p := ⟨b', off' + k * 2 + 1, none⟩) hb').trans e1
      have hbs := hbel.size
      have hp : (0 : Int) ≤ (k : Int) := by omega
      have hq : (k : Int) < (n' : Int) := by omega
      clear c0 c1 e0 e1 h h'
      go_wp2_with fail
      go_still_tail 8, (by kernel_rfl)
      go_wp2_with (go_at_call 109; refine (eqBan_same z _).mono ?_; rintro e w4 ⟨rfl, hb4⟩)
      have hbel4 : Below w.heap.size w w4 := hbel.drew.trans (hb4.mono hbs)
      clear hbel hb4
      go_roundw
      case rel => exact ⟨k + 1, by omega, by go_num, hbel4⟩
      case measure => simp [intOf]; omega
    · have hkn : k = n' := by omega
      subst hkn
      go_wp2
      go_ret
      exact ⟨rfl, hbel⟩
end Go.Proofs.YtmnmmjobplbflaaGreatDoor
namespace Go.Proofs.YtmnmmjobplbflaaGreatDoor
open Go.ChangeShapes Go.WideShapes Go.ChangeAt Go.RowKit
open Go.ChangeMaps (open_string shut_string)
set_option linter.unusedVariables false
set_option maxRecDepth 100000
theorem bcell {W w1 : World} (hb : Below W.heap.size W w1) : (∀ b o, b < W.heap.size → w1.cell? ⟨b, o, none⟩ = W.cell? ⟨b, o, none⟩) ∧ (∀ b o, b < W.heap.size → w1.frozen? ⟨b, o, none⟩ = W.frozen? ⟨b, o, none⟩) :=
  ⟨fun b o h => hb.cell (p := ⟨b, o, none⟩) h, fun b o h => hb.frozen (p := ⟨b, o, none⟩) h⟩
def RoomAt (w : World) (B : Nat) (A1 : Option Addr) (n1 : Nat) (A2 : Option Addr) (n2 : Nat) (A3 : Option Addr) (n3 : Nat) (ms : List Mb) (vs : List Iv) (bs : List Bn) : Prop :=
  SRow 4 mbC w B A1 n1 ms ∧ SRow 3 ivC w B A2 n2 vs ∧ SRow 2 bnC w B A3 n3 bs
def RoomOwn (w : World) (base : Nat) (A1 : Option Addr) (n1 c1 : Nat) (A2 : Option Addr) (n2 c2 : Nat) (A3 : Option Addr) (n3 c3 : Nat) (ms : List Mb) (vs : List Iv) (bs : List Bn) : Prop :=
  w.ownsRow base 66 4 (.slice A1 n1 c1) n1 (ms.flatMap mbC) ∧ w.ownsRow base 36 3 (.slice A2 n2 c2) n2 (vs.flatMap ivC) ∧ w.ownsRow base 38 2 (.slice A3 n3 c3) n3 (bs.flatMap bnC)
section
variable {w w' : World} {B B' n1 n2 n3 : Nat} {A1 A2 A3 : Option Addr} {ms : List Mb} {vs : List Iv} {bs : List Bn}
theorem RoomAt.below (h : RoomAt w B A1 n1 A2 n2 A3 n3 ms vs bs) (hb : Below B w w') : RoomAt w' B A1 n1 A2 n2 A3 n3 ms vs bs := ⟨h.1.below hb, h.2.1.below hb, h.2.2.below hb⟩
theorem RoomAt.more (h : RoomAt w B A1 n1 A2 n2 A3 n3 ms vs bs) (hB : B ≤ B') : RoomAt w B' A1 n1 A2 n2 A3 n3 ms vs bs := ⟨h.1.more hB, h.2.1.more hB, h.2.2.more hB⟩
theorem RoomAt.to (h : RoomAt w w.heap.size A1 n1 A2 n2 A3 n3 ms vs bs) (hb : Below w.heap.size w w') : RoomAt w' w'.heap.size A1 n1 A2 n2 A3 n3 ms vs bs := ⟨h.1.to hb, h.2.1.to hb, h.2.2.to hb⟩
theorem RoomAt.alloc (h : RoomAt w w.heap.size A1 n1 A2 n2 A3 n3 ms vs bs) (o : Obj) : RoomAt (w.alloc o) (w.alloc o).heap.size A1 n1 A2 n2 A3 n3 ms vs bs := h.to ((Below.refl _ _).alloc (Nat.le_refl _) _)
theorem RoomOwn.at_ {base c1 c2 c3 : Nat} (h : RoomOwn w base A1 n1 c1 A2 n2 c2 A3 n3 c3 ms vs bs) : RoomAt w w.heap.size A1 n1 A2 n2 A3 n3 ms vs bs :=
  ⟨SRow.of_own_any mbC_len (by omega) h.1, SRow.of_own_any ivC_len (by omega) h.2.1, SRow.of_own_any bnC_len (by omega) h.2.2⟩
theorem RoomOwn.below {base c1 c2 c3 : Nat} (h : RoomOwn w base A1 n1 c1 A2 n2 c2 A3 n3 c3 ms vs bs) (hb : Below B w w') (hB : w.heap.size ≤ B) : RoomOwn w' base A1 n1 c1 A2 n2 c2 A3 n3 c3 ms vs bs :=
  ⟨own_below h.1 hb hB, own_below h.2.1 hb hB, own_below h.2.2 hb hB⟩
theorem RoomOwn.mono {base base' c1 c2 c3 : Nat} (h : RoomOwn w base A1 n1 c1 A2 n2 c2 A3 n3 c3 ms vs bs) (hb : base' ≤ base) : RoomOwn w base' A1 n1 c1 A2 n2 c2 A3 n3 c3 ms vs bs :=
  ⟨World.ownsRow.mono h.1 hb, World.ownsRow.mono h.2.1 hb, World.ownsRow.mono h.2.2 hb⟩
theorem SRow.keepA {α : Type} {sz : Nat} {f : α → List Value} {n : Nat} {A : Option Addr} {xs : List α} (h : SRow sz f w B A n xs) (hk : ∀ p : Addr, p.block < B → w'.cell? p = w.cell? p) : SRow sz f w' B A n xs := h.keep hk
end
set_option maxHeartbeats 800000 in
theorem toRoom_any (o : Bool) (A1 A2 A3 : Option Addr) (n1 c1 n2 c2 n3 c3 : Nat) (ms : List Mb) (vs : List Iv) (bs : List Bn) (w : World) (h : RoomAt w w.heap.size A1 n1 A2 n2 A3 n3 ms vs bs) (hn : n1 + n2 + n3 ≤ 1048576) :
    Calls Tryz.prog 21 #[.agg #[.bool o, .slice A1 n1 c1, .slice A2 n2 c2, .slice A3 n3 c3]] w fun e w' => ∃ g1 g2 g3, e = .returned (.agg #[.bool o, .slice (some ⟨g1, 0, none⟩) n1 n1, .slice (some ⟨g2, 0, none⟩) n2 n2, .slice (some ⟨g3, 0, none⟩) n3 n3]) ∧
      RoomOwn w' w.heap.size (some ⟨g1, 0, none⟩) n1 n1 (some ⟨g2, 0, none⟩) n2 n2 (some ⟨g3, 0, none⟩) n3 n3 ms vs bs ∧ Below w.heap.size w w' := by
  go_enter Tryz.func21, Tryz.ntmps21
  go_wp2_with fail
  have hb0 : Below w.heap.size w (((w.alloc (.cells #[.bool o, .slice A1 n1 c1, .slice A2 n2 c2, .slice A3 n3 c3] 51)).alloc (.cells #[.bool false, .slice none 0 0, .slice none 0 0, .slice none 0 0] 28)).alloc (.cells #[.bool o, .slice none 0 0, .slice none 0 0, .slice none 0 0] 28)) := by
    repeat (first | exact Below.refl _ _ | refine Below.alloc ?_ (by first | (simp; omega) | simp) _)
  have k0 : Blk (((w.alloc (.cells #[.bool o, .slice A1 n1 c1, .slice A2 n2 c2, .slice A3 n3 c3] 51)).alloc (.cells #[.bool false, .slice none 0 0, .slice none 0 0, .slice none 0 0] 28)).alloc (.cells #[.bool o, .slice none 0 0, .slice none 0 0, .slice none 0 0] 28)) w.heap.size 51 #[.bool o, .slice A1 n1 c1, .slice A2 n2 c2, .slice A3 n3 c3] := ((Blk.new _ _ _).alloc _).alloc _
  have k1 : Blk (((w.alloc (.cells #[.bool o, .slice A1 n1 c1, .slice A2 n2 c2, .slice A3 n3 c3] 51)).alloc (.cells #[.bool false, .slice none 0 0, .slice none 0 0, .slice none 0 0] 28)).alloc (.cells #[.bool o, .slice none 0 0, .slice none 0 0, .slice none 0 0] 28)) (w.heap.size + 1) 28 #[.bool false, .slice none 0 0, .slice none 0 0, .slice none 0 0] := by
    have := (Blk.new (w.alloc (.cells #[.bool o, .slice A1 n1 c1, .slice A2 n2 c2, .slice A3 n3 c3] 51)) 28 #[.bool false, .slice none 0 0, .slice none 0 0, .slice none 0 0]).alloc (.cells #[.bool o, .slice none 0 0, .slice none 0 0, .slice none 0 0] 28)
    simpa using this
  have k2 : Blk (((w.alloc (.cells #[.bool o, .slice A1 n1 c1, .slice A2 n2 c2, .slice A3 n3 c3] 51)).alloc (.cells #[.bool false, .slice none 0 0, .slice none 0 0, .slice none 0 0] 28)).alloc (.cells #[.bool o, .slice none 0 0, .slice none 0 0, .slice none 0 0] 28)) (w.heap.size + 1 + 1) 28 #[.bool o, .slice none 0 0, .slice none 0 0, .slice none 0 0] := by
    have := Blk.new ((w.alloc (.cells #[.bool o, .slice A1 n1 c1, .slice A2 n2 c2, .slice A3 n3 c3] 51)).alloc (.cells #[.bool false, .slice none 0 0, .slice none 0 0, .slice none 0 0] 28)) 28 #[.bool o, .slice none 0 0, .slice none 0 0, .slice none 0 0]
    simpa using this
  generalize (((w.alloc (.cells #[.bool o, .slice A1 n1 c1, .slice A2 n2 c2, .slice A3 n3 c3] 51)).alloc (.cells #[.bool false, .slice none 0 0, .slice none 0 0, .slice none 0 0] 28)).alloc (.cells #[.bool o, .slice none 0 0, .slice none 0 0, .slice none 0 0] 28)) = W at *
  have hl2 := k2.lt
  have h1 := h.1.below hb0
  have hbW := hb0.size
  go_at_call 62; refine (toMemberS_any _ _ _ _ _ (h1.more hb0.size) (by omega)).mono ?_; rintro e w1 ⟨g1, rfl, ho1, hb1⟩
  have k0 := k0.below hb1 (by omega)
  have k1 := k1.below hb1 (by omega)
  have k2 := k2.below hb1 (by omega)
  have hbA := hb0.trans (hb1.mono hb0.size)
  have hl2 := k2.lt
  have l0 := k0.cell 2
  have l1 := k2.cell 1
  have l2 := k2.frozen 1
  have q1 : w.heap.size + 1 + 1 < W.heap.size := by omega
  clear hb1 h1 hb0
  go_wp2_with fail
  have hb0 := hbA.setCell (p := ⟨w.heap.size + 1 + 1, 1, none⟩) (by simp; omega) (.slice (some ⟨g1, 0, none⟩) n1 n1)
  have k0 := k0.far (p := ⟨w.heap.size + 1 + 1, 1, none⟩) (by simp; omega) (.slice (some ⟨g1, 0, none⟩) n1 n1)
  have k1 := k1.far (p := ⟨w.heap.size + 1 + 1, 1, none⟩) (by simp) (.slice (some ⟨g1, 0, none⟩) n1 n1)
  have k2 := k2.set_ 1 (.slice (some ⟨g1, 0, none⟩) n1 n1)
  have ho1 := ownsRow_setCell_below ho1 (a := ⟨w.heap.size + 1 + 1, 1, none⟩) (by simp; omega) (.slice (some ⟨g1, 0, none⟩) n1 n1)
  clear l0 l1 l2 hbA
  generalize w1.setCell ⟨w.heap.size + 1 + 1, 1, none⟩ (.slice (some ⟨g1, 0, none⟩) n1 n1) = W1 at *
  have h2 := h.2.1.below hb0
  have hl2 := k2.lt
  have hbW1 := hb0.size
  go_at_call 63; refine (toInviteS_any _ _ _ _ _ (h2.more hb0.size) (by omega)).mono ?_; rintro e w2 ⟨g2, rfl, ho2, hb2⟩
  have k0 := k0.below hb2 (by omega)
  have k1 := k1.below hb2 (by omega)
  have k2 := k2.below hb2 (by omega)
  have hbA := hb0.trans (hb2.mono hb0.size)
  have hl2 := k2.lt
  have l0 := k0.cell 3
  have l1 := k2.cell 2
  have l2 := k2.frozen 2
  have q2 : w.heap.size + 1 + 1 < W1.heap.size := by omega
  have ho1 := own_below ho1 hb2 (Nat.le_refl _)
  clear hb2 h2 hb0
  go_wp2_with fail
  have hb0 := hbA.setCell (p := ⟨w.heap.size + 1 + 1, 2, none⟩) (by simp; omega) (.slice (some ⟨g2, 0, none⟩) n2 n2)
  have k0 := k0.far (p := ⟨w.heap.size + 1 + 1, 2, none⟩) (by simp; omega) (.slice (some ⟨g2, 0, none⟩) n2 n2)
  have k1 := k1.far (p := ⟨w.heap.size + 1 + 1, 2, none⟩) (by simp) (.slice (some ⟨g2, 0, none⟩) n2 n2)
  have k2 := k2.set_ 2 (.slice (some ⟨g2, 0, none⟩) n2 n2)
  have ho1 := ownsRow_setCell_below ho1 (a := ⟨w.heap.size + 1 + 1, 2, none⟩) (by simp; omega) (.slice (some ⟨g2, 0, none⟩) n2 n2)
  have ho2 := ownsRow_setCell_below ho2 (a := ⟨w.heap.size + 1 + 1, 2, none⟩) (by simp; omega) (.slice (some ⟨g2, 0, none⟩) n2 n2)
  clear l0 l1 l2 hbA
  generalize w2.setCell ⟨w.heap.size + 1 + 1, 2, none⟩ (.slice (some ⟨g2, 0, none⟩) n2 n2) = W2 at *
  have h3 := h.2.2.below hb0
  have hl2 := k2.lt
  have hbW2 := hb0.size
  go_at_call 64; refine (toBanS_any _ _ _ _ _ (h3.more hb0.size) (by omega)).mono ?_; rintro e w3 ⟨g3, rfl, ho3, hb3⟩
  have k0 := k0.below hb3 (by omega)
  have k1 := k1.below hb3 (by omega)
  have k2 := k2.below hb3 (by omega)
  have hbA := hb0.trans (hb3.mono hb0.size)
  have hl2 := k2.lt
  have l0 := k0.cell 3
  have l1 := k2.cell 3
  have l2 := k2.frozen 3
  have q3 : w.heap.size + 1 + 1 < W2.heap.size := by omega
  have ho1 := own_below ho1 hb3 (Nat.le_refl _)
  have ho2 := own_below ho2 hb3 (Nat.le_refl _)
  clear hb3 h3 hb0
  have r0 := k1.cell 0
  have r1 := k1.cell 1
  have r2 := k1.cell 2
  have r3 := k1.cell 3
  have s0 := k2.cell 0
  have s1 := k2.cell 1
  have s2 := k2.cell 2
  have rf0 := k1.frozen 0
  have rf1 := k1.frozen 1
  have rf2 := k1.frozen 2
  have rf3 := k1.frozen 3
  go_wp2
  refine bodyPost_ret (v := .agg #[.bool o, .slice (some ⟨g1, 0, none⟩) n1 n1, .slice (some ⟨g2, 0, none⟩) n2 n2, .slice (some ⟨g3, 0, none⟩) n3 n3]) (by simp [results, Tryz.results21, go_sem, r0, r1, r2, r3]) rfl ⟨g1, g2, g3, rfl, ⟨?_, ?_, ?_⟩, ?_⟩
  · exact World.ownsRow.mono (ownsRow_setCell_below (ownsRow_setCell_below (ownsRow_setCell_below (ownsRow_setCell_below (ownsRow_setCell_below ho1 (by simp; omega) _) (by simp; omega) _) (by simp; omega) _) (by simp; omega) _) (by simp; omega) _) hbW
  · exact World.ownsRow.mono (ownsRow_setCell_below (ownsRow_setCell_below (ownsRow_setCell_below (ownsRow_setCell_below (ownsRow_setCell_below ho2 (by simp; omega) _) (by simp; omega) _) (by simp; omega) _) (by simp; omega) _) (by simp; omega) _) hbW1
  · exact World.ownsRow.mono (ownsRow_setCell_below (ownsRow_setCell_below (ownsRow_setCell_below (ownsRow_setCell_below (ownsRow_setCell_below ho3 (by simp; omega) _) (by simp; omega) _) (by simp; omega) _) (by simp; omega) _) (by simp; omega) _) hbW2
  · exact (((((hbA.setCell (by first | (simp; done) | (simp; omega)) _).setCell (by first | (simp; done) | (simp; omega)) _).setCell (by first | (simp; done) | (simp; omega)) _).setCell (by first | (simp; done) | (simp; omega)) _).setCell (by first | (simp; done) | (simp; omega)) _)
theorem szRoom_ok (o : Bool) (A1 A2 A3 : Option Addr) (n1 c1 n2 c2 n3 c3 : Nat) (l : Int) (w : World) (h : (n1 : Int) + n2 + n3 ≤ l) (hl : l ≤ 1048576) :
    Calls Tryz.prog 19 #[.agg #[.bool o, .slice A1 n1 c1, .slice A2 n2 c2, .slice A3 n3 c3], .int .i64 l] w fun e w' => e = .returned (.int .i64 (l - n1 - n2 - n3)) ∧ Below w.heap.size w w' := by
  go_enter Tryz.func19, Tryz.ntmps19
  have x1 : ¬ (l - (n1 : Int) < 0) := by omega
  have x2 : ¬ (l - (n1 : Int) - (n2 : Int) < 0) := by omega
  have x3 : ¬ (l - (n1 : Int) - (n2 : Int) - (n3 : Int) < 0) := by omega
  go_wp2_with (first | (go_at_call 52; refine (szMemberS_ok _ _ _ _ _ (by omega) (by omega)).mono ?_; rintro e w' ⟨rfl, rfl⟩) | (go_at_call 53; refine (szInviteS_ok _ _ _ _ _ (by omega) (by omega)).mono ?_; rintro e w' ⟨rfl, rfl⟩) | (go_at_call 54; refine (szBanS_ok _ _ _ _ _ (by omega) (by omega)).mono ?_; rintro e w' ⟨rfl, rfl⟩))
  go_ret
  exact ⟨rfl, (Below.refl _ _).alloc (Nat.le_refl _) _⟩
theorem szRoom_no (o : Bool) (A1 A2 A3 : Option Addr) (n1 c1 n2 c2 n3 c3 : Nat) (l : Int) (w : World) (h : ¬ (n1 : Int) + n2 + n3 ≤ l) (h0 : 0 ≤ l) (hl : l ≤ 1048576) (hn1 : (n1 : Int) ≤ 9223372036854775807) (hn2 : (n2 : Int) ≤ 9223372036854775807) (hn3 : (n3 : Int) ≤ 9223372036854775807) :
    Calls Tryz.prog 19 #[.agg #[.bool o, .slice A1 n1 c1, .slice A2 n2 c2, .slice A3 n3 c3], .int .i64 l] w fun e w' => e = .returned (.int .i64 (-1)) ∧ Below w.heap.size w w' := by
  by_cases x1 : (n1 : Int) ≤ l
  · by_cases x2 : (n2 : Int) ≤ l - n1
    · go_enter Tryz.func19, Tryz.ntmps19
      have y1 : ¬ (l - (n1 : Int) < 0) := by omega
      have y2 : ¬ (l - (n1 : Int) - (n2 : Int) < 0) := by omega
      go_wp2_with (first | (go_at_call 52; refine (szMemberS_ok _ _ _ _ _ (by omega) (by omega)).mono ?_; rintro e w' ⟨rfl, rfl⟩) | (go_at_call 53; refine (szInviteS_ok _ _ _ _ _ (by omega) (by omega)).mono ?_; rintro e w' ⟨rfl, rfl⟩) | (go_at_call 54; refine (szBanS_no _ _ _ _ _ (by omega) (by omega) (by omega)).mono ?_; rintro e w' ⟨rfl, rfl⟩))
      go_ret
      exact ⟨rfl, (Below.refl _ _).alloc (Nat.le_refl _) _⟩
    · go_enter Tryz.func19, Tryz.ntmps19
      have y1 : ¬ (l - (n1 : Int) < 0) := by omega
      go_wp2_with (first | (go_at_call 52; refine (szMemberS_ok _ _ _ _ _ (by omega) (by omega)).mono ?_; rintro e w' ⟨rfl, rfl⟩) | (go_at_call 53; refine (szInviteS_no _ _ _ _ _ (by omega) (by omega) (by omega)).mono ?_; rintro e w' ⟨rfl, rfl⟩))
      go_ret
      exact ⟨rfl, (Below.refl _ _).alloc (Nat.le_refl _) _⟩
  · go_enter Tryz.func19, Tryz.ntmps19
    go_wp2_with (first | (go_at_call 52; refine (szMemberS_no _ _ _ _ _ (by omega) (by omega) (by omega)).mono ?_; rintro e w' ⟨rfl, rfl⟩))
    go_ret
    exact ⟨rfl, (Below.refl _ _).alloc (Nat.le_refl _) _⟩
end Go.Proofs.YtmnmmjobplbflaaGreatDoor
