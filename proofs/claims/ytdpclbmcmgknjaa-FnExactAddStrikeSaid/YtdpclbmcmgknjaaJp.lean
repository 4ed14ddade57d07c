import Derived.Test.YtdpclbmcmgknjaaJa
import Derived.Test.YtdpclbmcmgknjaaZMsgP
import Derived.Test.YtdpclbmcmgknjaaJq
namespace Go.Proofs.Ytdpclbmcmgknjaa
set_option linter.unusedVariables false
/-- leases and marks of a presence: both are rows of two numbers -/
def mkOk (x : Bn) : Bool := amtB x.til
def rollB (f : Bn → Bool) (xs : List Bn) : Bool := decide (xs.length ≤ 30) && (xs.all f && memB (bids xs))
def presB (hs ts ks : List Bn) : Bool := rollB bnB hs && (rollB bnB ts && rollB mkOk ks)
def RollTo (f : Bn → Bool) (xs : List Bn) (k : Nat) : Prop := RiseTo (bids xs) 1 1000 k ∧ ∀ z ∈ xs.take k, f z = true
theorem RollTo.zero (f : Bn → Bool) (xs : List Bn) : RollTo f xs 0 := ⟨RiseTo.zero _ _ _, fun z h => by simp at h⟩
theorem RollTo.succ {f : Bn → Bool} {xs : List Bn} {z : Bn} {k : Nat} (h : RollTo f xs k) (hz : xs[k]? = some z) (h1 : f z = true) (h2 : idB z.id = true) (h3 : ∀ y, 0 < k → xs[k - 1]? = some y → y.id < z.id) : RollTo f xs (k + 1) := by
  simp only [idB, decide_eq_true_eq] at h2
  refine ⟨h.1.succ (x := z.id) (by simp [bids, hz]) h2.1 h2.2 fun y h0 hy => ?_, fun u hu => ?_⟩
  · simp only [bids, List.getElem?_map, Option.map_eq_some_iff] at hy
    obtain ⟨y', hy', rfl⟩ := hy
    exact h3 y' h0 hy'
  · rw [take_some hz, List.mem_append] at hu
    rcases hu with hu | hu
    · exact h.2 u hu
    · simp at hu; subst hu; exact h1
theorem roll_bad {f : Bn → Bool} {xs : List Bn} {z : Bn} {k : Nat} (hz : xs[k]? = some z) (h : f z = false ∨ idB z.id = false) : (xs.all f && memB (bids xs)) = false := by
  rw [← Bool.not_eq_true]; intro H
  simp only [Bool.and_eq_true] at H
  obtain ⟨h1, h2⟩ := H
  have hm := List.mem_of_getElem? hz
  rcases h with h | h
  · have := List.all_eq_true.1 h1 z hm; rw [h] at this; cases this
  · have hr := mem_rise h2 k z.id (by have := (List.getElem?_eq_some_iff.1 hz).1; simpa [bids] using this) (by simp [bids, hz])
    have : idB z.id = true := by simp [idB, hr.1, hr.2.1]
    rw [h] at this; cases this
theorem roll_flat {f : Bn → Bool} {xs : List Bn} {z y : Bn} {k : Nat} (h0 : 0 < k) (hz : xs[k]? = some z) (hy : xs[k - 1]? = some y) (h : z.id ≤ y.id) : (xs.all f && memB (bids xs)) = false := by
  rw [← Bool.not_eq_true]; intro H
  simp only [Bool.and_eq_true] at H
  obtain ⟨_, h2⟩ := H
  have := rises_flat (xs := bids xs) (lo := 1) (hi := 1000) (k := k) (x := z.id) (y := y.id) h0 (by simp [bids, hz]) (by simp [bids, hy]) h
  unfold memB at h2
  rw [this] at h2; cases h2
theorem roll_full {f : Bn → Bool} {xs : List Bn} {k : Nat} (h : RollTo f xs k) (hk : xs.length ≤ k) : (xs.all f && memB (bids xs)) = true := by
  obtain ⟨h1, h2⟩ := h
  have e1 : memB (bids xs) = true := rises_full h1 (by simpa [bids] using hk)
  rw [List.take_of_length_le hk] at h2
  rw [e1, Bool.and_true]
  exact List.all_eq_true.2 h2
theorem presB_iff {hs ts ks : List Bn} : presB hs ts ks = true ↔ rollB bnB hs = true ∧ rollB bnB ts = true ∧ rollB mkOk ks = true := by simp [presB]
end Go.Proofs.Ytdpclbmcmgknjaa
namespace Go.Proofs.Ytdpclbmcmgknjaa
set_option linter.unusedVariables false
def NoIn (t : Int) (xs : List Bn) (k : Nat) : Prop := ∀ y ∈ xs.take k, y.id ≠ t
theorem NoIn.zero (t : Int) (xs : List Bn) : NoIn t xs 0 := fun y h => by simp at h
theorem NoIn.succ {t : Int} {xs : List Bn} {k : Nat} {z : Bn} (h : NoIn t xs k) (hz : xs[k]? = some z) (hn : z.id ≠ t) : NoIn t xs (k + 1) := fun y hy => by
  rw [take_some hz, List.mem_append] at hy
  rcases hy with hy | hy
  · exact h y hy
  · simp at hy; subst hy; exact hn
def findB (xs : List Bn) (t : Int) : Option Bn := xs.find? fun x => decide (x.id = t)
theorem findB_at {t : Int} : ∀ {xs : List Bn} {k : Nat} {z : Bn}, NoIn t xs k → xs[k]? = some z → z.id = t → findB xs t = some z := by
  intro xs
  induction xs with
  | nil => intro k z _ hz; simp at hz
  | cons x r ih =>
    intro k z h hz ht
    cases k with
    | zero => simp at hz; subst hz; simp [findB, ht]
    | succ k =>
      have hx : x.id ≠ t := h x (by simp)
      have := ih (k := k) (z := z) (fun y hy => h y (by simp [hy])) (by simpa using hz) ht
      unfold findB at this ⊢
      rw [List.find?_cons_of_neg (by simpa using hx)]
      exact this
theorem findB_none {t : Int} {xs : List Bn} {k : Nat} (h : NoIn t xs k) (hk : xs.length ≤ k) : findB xs t = none := by
  unfold NoIn at h
  rw [List.take_of_length_le hk] at h
  unfold findB
  rw [List.find?_eq_none]
  intro x hx
  simpa using h x hx
/-- the number that a list keeps of a member, or another one -/
def numOf (xs : List Bn) (t d : Int) : Int := match findB xs t with | some z => z.til | none => d
theorem numOf_at {t d : Int} {xs : List Bn} {k : Nat} {z : Bn} (h : NoIn t xs k) (hz : xs[k]? = some z) (ht : z.id = t) : numOf xs t d = z.til := by unfold numOf; rw [findB_at h hz ht]
theorem numOf_none {t d : Int} {xs : List Bn} {k : Nat} (h : NoIn t xs k) (hk : xs.length ≤ k) : numOf xs t d = d := by unfold numOf; rw [findB_none h hk]
/-- who has read a message -/
def readL (n : Int) (xs : List Bn) : List Int := bids (xs.filter fun x => decide (n ≤ x.til))
theorem readL_yes {n : Int} {xs : List Bn} {k : Nat} {z : Bn} (hz : xs[k]? = some z) (h : n ≤ z.til) : readL n (xs.take (k + 1)) = readL n (xs.take k) ++ [z.id] := by
  simp [readL, bids, take_some hz, List.filter_append, h]
theorem readL_no {n : Int} {xs : List Bn} {k : Nat} {z : Bn} (hz : xs[k]? = some z) (h : ¬ n ≤ z.til) : readL n (xs.take (k + 1)) = readL n (xs.take k) := by
  simp [readL, bids, take_some hz, List.filter_append, h]
theorem readL_len (n : Int) (xs : List Bn) : (readL n xs).length ≤ xs.length := by
  unfold readL bids; rw [List.length_map]; exact List.length_filter_le _ _
theorem readL_take (n : Int) (xs : List Bn) (k : Nat) : (readL n (xs.take k)).length ≤ k := Nat.le_trans (readL_len _ _) (by rw [List.length_take]; omega)
theorem roll_rise {f : Bn → Bool} {xs : List Bn} (h : rollB f xs = true) : xs.length ≤ 30 ∧ (xs.all f) = true ∧ memB (bids xs) = true := by
  simp only [rollB, Bool.and_eq_true, decide_eq_true_eq] at h
  exact ⟨h.1, h.2.1, h.2.2⟩
def markZ (b : Bool) (ks : List Bn) (t : Int) : Int := if b = true then numOf ks t 0 else 0
end Go.Proofs.Ytdpclbmcmgknjaa
namespace Go.Proofs.Ytdpclbmcmgknjaa
set_option linter.unusedVariables false
/-- a watcher: its member, the number that it keeps, its channel's block -/
structure Wt where
  id : Int
  til : Int
  ch : Nat
def wtV (x : Wt) : Value := .chan (some x.ch)
def wB (x : Wt) : Bn := ⟨x.id, x.til⟩
def wbs (xs : List Wt) : List Bn := xs.map wB
def findW (xs : List Wt) (t : Int) : Option Wt := xs.find? fun x => decide (x.id = t)
theorem findW_mem {xs : List Wt} {t : Int} {x : Wt} (h : findW xs t = some x) : x ∈ xs ∧ x.id = t := ⟨List.mem_of_find?_eq_some h, by simpa using List.find?_some h⟩
theorem findB_wbs (xs : List Wt) (t : Int) : findB (wbs xs) t = (findW xs t).map wB := by
  unfold findB wbs findW
  induction xs with
  | nil => rfl
  | cons x r ih =>
    rw [List.map_cons]
    by_cases e : x.id = t
    · rw [List.find?_cons_of_pos (by simp [wB, e]), List.find?_cons_of_pos (by simp [e])]; rfl
    · rw [List.find?_cons_of_neg (by simp [wB, e]), List.find?_cons_of_neg (by simp [e]), ih]
/-- a watch that is told a number of a member -/
def tellB (bs : List Bn) (t n : Int) : List Bn := putK Bn.id ⟨t, match findB bs t with | some z => max z.til n | none => n⟩ bs
/-- the same, over the watchers -/
def setW (xs : List Wt) (t n : Int) : List Wt := xs.map fun x => if x.id = t then { x with til := n } else x
theorem wbs_ids (xs : List Wt) : bids (wbs xs) = xs.map Wt.id := by simp [bids, wbs, wB]
theorem rise_wbs {xs : List Wt} : Rise Bn.id (wbs xs) ↔ Rise Wt.id xs := by
  unfold Rise wbs
  rw [List.pairwise_map]
  rfl
theorem ins_wbs (x : Wt) : ∀ xs : List Wt, wbs (insK Wt.id x xs) = insK Bn.id (wB x) (wbs xs) := by
  intro xs
  induction xs with
  | nil => rfl
  | cons y r ih =>
    simp only [insK, wbs, List.map_cons] at ih ⊢
    by_cases h : x.id < y.id
    · rw [if_pos h, if_pos (show (wB x).id < (wB y).id from h)]; rfl
    · rw [if_neg h, if_neg (show ¬ (wB x).id < (wB y).id from h), List.map_cons, ih]
theorem drop_wbs (t : Int) (xs : List Wt) : wbs (dropK Wt.id t xs) = dropK Bn.id t (wbs xs) := by
  unfold dropK wbs
  rw [List.filter_map]
  rfl
theorem put_set {t m : Int} : ∀ {bs : List Bn} {z : Bn}, Rise Bn.id bs → z ∈ bs → z.id = t → putK Bn.id ⟨t, m⟩ bs = bs.map fun x => if x.id = t then ⟨t, m⟩ else x := by
  intro bs
  induction bs with
  | nil => intro z _ hz; cases hz
  | cons y r ih =>
    intro z hr hz ht
    obtain ⟨h1, h2⟩ := List.pairwise_cons.1 hr
    unfold putK dropK at ih ⊢
    by_cases e : y.id = t
    · have hd : (y :: r).filter (fun x => !decide (x.id = t)) = r := by
        rw [List.filter_cons_of_neg (by simp [e])]
        exact List.filter_eq_self.2 fun x hx => by have := h1 x hx; simp; omega
      rw [show (Bn.mk t m).id = t from rfl, hd, List.map_cons, if_pos e]
      have hm : r.map (fun x => if x.id = t then (⟨t, m⟩ : Bn) else x) = r := by
        conv => rhs; rw [← List.map_id r]
        exact List.map_congr_left fun x hx => by have := h1 x hx; rw [if_neg (by omega)]; rfl
      rw [hm]
      cases r with
      | nil => rfl
      | cons x r =>
        have := h1 x (by simp)
        rw [insK, if_pos (show (Bn.mk t m).id < x.id from by show t < x.id; omega)]
    · have hzr : z ∈ r := by
        rcases List.mem_cons.1 hz with rfl | hz
        · exact absurd ht e
        · exact hz
      have hlt := h1 z hzr
      rw [show (Bn.mk t m).id = t from rfl, List.filter_cons_of_pos (by simp [e]), insK, if_neg (show ¬ (Bn.mk t m).id < y.id from by show ¬ t < y.id; omega), List.map_cons, if_neg e]
      congr 1
      exact ih h2 hzr ht
theorem set_tell {xs : List Wt} {t n : Int} {x : Wt} (hr : Rise Wt.id xs) (hf : findW xs t = some x) : wbs (setW xs t (max x.til n)) = tellB (wbs xs) t n := by
  obtain ⟨hx, ht⟩ := findW_mem hf
  unfold tellB
  rw [findB_wbs, hf]
  rw [show (match (some x).map wB with | some z => max z.til n | none => n) = max x.til n from rfl]
  rw [put_set (rise_wbs.2 hr) (List.mem_map_of_mem hx) (show (wB x).id = t from ht)]
  unfold wbs setW
  rw [List.map_map, List.map_map]
  exact List.map_congr_left fun y _ => by
    show wB (if y.id = t then { y with til := max x.til n } else y) = if (wB y).id = t then _ else wB y
    by_cases e : y.id = t
    · rw [if_pos e, if_pos (show (wB y).id = t from e)]; show (⟨y.id, max x.til n⟩ : Bn) = _; rw [e]
    · rw [if_neg e, if_neg (show ¬ (wB y).id = t from e)]
theorem new_tell {xs : List Wt} {t n : Int} (c : Nat) (hf : findW xs t = none) : wbs (putK Wt.id ⟨t, n, c⟩ xs) = tellB (wbs xs) t n := by
  unfold tellB
  rw [findB_wbs, hf]
  unfold putK
  rw [ins_wbs, drop_wbs]
  rfl
theorem set_ids (xs : List Wt) (t n : Int) : (setW xs t n).map Wt.id = xs.map Wt.id := by
  unfold setW; rw [List.map_map]; exact List.map_congr_left fun y _ => by show (if y.id = t then _ else y).id = y.id; split <;> rfl
theorem set_chs (xs : List Wt) (t n : Int) : (setW xs t n).map Wt.ch = xs.map Wt.ch := by
  unfold setW; rw [List.map_map]; exact List.map_congr_left fun y _ => by show (if y.id = t then _ else y).ch = y.ch; split <;> rfl
theorem set_tab (xs : List Wt) (t n : Int) : tabD Wt.id wtV (setW xs t n) = tabD Wt.id wtV xs := by
  unfold tabD setW
  rw [List.map_map]
  congr 1
  exact List.map_congr_left fun y _ => by
    show (Lit.int .i64 (if y.id = t then { y with til := n } else y).id, DataW.held (wtV (if y.id = t then { y with til := n } else y))) = _
    split <;> rfl
theorem set_mem {xs : List Wt} {t n : Int} {y : Wt} (h : y ∈ setW xs t n) : ∃ x ∈ xs, y.ch = x.ch ∧ y.id = x.id ∧ ((x.id = t ∧ y.til = n) ∨ (x.id ≠ t ∧ y.til = x.til)) := by
  obtain ⟨x, hx, rfl⟩ := List.mem_map.1 h
  refine ⟨x, hx, ?_⟩
  by_cases e : x.id = t
  · rw [if_pos e]; exact ⟨rfl, rfl, .inl ⟨e, rfl⟩⟩
  · rw [if_neg e]; exact ⟨rfl, rfl, .inr ⟨e, rfl⟩⟩
theorem set_rise {xs : List Wt} {t n : Int} (h : Rise Wt.id xs) : Rise Wt.id (setW xs t n) := by
  unfold Rise at h ⊢
  rw [← List.pairwise_map (f := Wt.id) (R := fun a b => a < b)] at h ⊢
  rw [set_ids]; exact h
theorem set_apart {xs : List Wt} {t n : Int} (h : xs.Pairwise fun x y => x.ch ≠ y.ch) : (setW xs t n).Pairwise fun x y => x.ch ≠ y.ch := by
  rw [← List.pairwise_map (f := Wt.ch) (R := fun a b => a ≠ b)] at h ⊢
  rw [set_chs]; exact h
theorem rise_same {xs : List Wt} {x y : Wt} (h : Rise Wt.id xs) (hx : x ∈ xs) (hy : y ∈ xs) (e : x.id = y.id) : x = y := by
  have h1 := Rise_find (k := Wt.id) h hx
  have h2 := Rise_find (k := Wt.id) h hy
  rw [e] at h1
  rw [h1] at h2
  injection h2
theorem apart_same {xs : List Wt} (h : xs.Pairwise fun x y => x.ch ≠ y.ch) {x y : Wt} (hx : x ∈ xs) (hy : y ∈ xs) (e : x.ch = y.ch) : x = y := by
  induction xs with
  | nil => cases hx
  | cons z r ih =>
    obtain ⟨h1, h2⟩ := List.pairwise_cons.1 h
    rcases List.mem_cons.1 hx with ex | hx'
    · rcases List.mem_cons.1 hy with ey | hy'
      · rw [ex, ey]
      · exact absurd (ex ▸ e) (h1 y hy')
    · rcases List.mem_cons.1 hy with ey | hy'
      · exact absurd (ey ▸ e).symm (h1 x hx')
      · exact ih h2 hx' hy'
theorem ins_apart {c : Nat} {t n : Int} : ∀ {xs : List Wt}, xs.Pairwise (fun x y => x.ch ≠ y.ch) → (∀ x ∈ xs, x.ch ≠ c) → (insK Wt.id ⟨t, n, c⟩ xs).Pairwise fun x y => x.ch ≠ y.ch := by
  intro xs
  induction xs with
  | nil => intro _ _; simp [insK]
  | cons y r ih =>
    intro h hc
    obtain ⟨h1, h2⟩ := List.pairwise_cons.1 h
    rw [insK]
    split
    · exact List.pairwise_cons.2 ⟨fun z hz => (hc z hz).symm, h⟩
    · refine List.pairwise_cons.2 ⟨fun z hz => ?_, ih h2 fun x hx => hc x (List.mem_cons_of_mem _ hx)⟩
      rcases ins_mem.1 hz with rfl | hz
      · exact hc y (by simp)
      · exact h1 z hz
end Go.Proofs.Ytdpclbmcmgknjaa
namespace Go.Proofs.Ytdpclbmcmgknjaa
set_option linter.unusedVariables false
/-- the number that a told watch keeps of a member -/
def tilB (xs : List Bn) (t m : Int) : Int := match findB xs t with | some z => max z.til m | none => m
theorem tellB_til (xs : List Bn) (t m : Int) : tellB xs t m = putK Bn.id ⟨t, tilB xs t m⟩ xs := rfl
theorem findB_take {t : Int} {xs : List Bn} (h : ∀ y ∈ xs, y.id ≠ t) : findB xs t = none := by
  unfold findB; rw [List.find?_eq_none]; intro x hx; have := h x hx; simp [this]
theorem til_same {t m : Int} {xs : List Bn} {k : Nat} {z : Bn} (hr : Rise Bn.id xs) (hz : xs[k]? = some z) (ht : z.id = t) : tilB xs t m = max z.til m := by
  have hno : NoIn t xs k := fun y hy => by
    have h2 : y.id < z.id := Rise_lt hr hz y hy
    omega
  have := findB_at hno hz ht
  unfold tilB; rw [this]
theorem til_none {t m : Int} {xs : List Bn} (h : ∀ y ∈ xs, y.id ≠ t) : tilB xs t m = m := by unfold tilB; rw [findB_take h]
theorem til_more {t m u : Int} {xs : List Bn} {k : Nat} {z : Bn} (hr : Rise Bn.id xs) (hz : xs[k]? = some z) (hM : banM Bn.id (⟨t, u⟩ : Bn) false (xs.take k)) (ht : t < z.id) : tilB xs t m = m := by
  refine til_none fun y hy => ?_
  obtain ⟨i, hi, e⟩ := List.mem_iff_getElem.1 hy
  obtain ⟨hk, ez⟩ := List.getElem?_eq_some_iff.1 hz
  simp only [banM, Bool.false_eq_true, if_false] at hM
  by_cases h : i < k
  · have := hM y (by rw [List.mem_take_iff_getElem]; exact ⟨i, by omega, e⟩); show y.id ≠ t; have h2 : y.id < t := this; omega
  · by_cases h3 : i = k
    · subst h3; rw [← e, ez]; omega
    · have := List.pairwise_iff_getElem.1 hr k i hk hi (by omega)
      rw [e, ez] at this
      show y.id ≠ t
      have h2 : z.id < y.id := this
      omega
theorem til_rest {t m u : Int} {xs : List Bn} (hM : banM Bn.id (⟨t, u⟩ : Bn) false xs) : tilB xs t m = m := by
  simp only [banM, Bool.false_eq_true, if_false] at hM
  refine til_none fun y hy => ?_
  have h2 : y.id < t := hM y hy
  omega
theorem ban_no_put {t u : Int} {xs : List Bn} {k : Nat} {z : Bn} (hr : Rise Bn.id xs) (hz : xs[k]? = some z) (h : banM Bn.id (⟨t, u⟩ : Bn) true (xs.take k)) : t < z.id := ban_put_lt hr hz h
theorem max_if (a b : Int) : (if b < a then a else b) = max a b := by
  rcases Int.lt_or_le b a with h | h
  · rw [if_pos h]; omega
  · rw [if_neg (by omega)]; omega
end Go.Proofs.Ytdpclbmcmgknjaa
