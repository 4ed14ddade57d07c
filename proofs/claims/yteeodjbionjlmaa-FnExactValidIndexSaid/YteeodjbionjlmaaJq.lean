import Derived.Maps.OwnSet
import Derived.Test.YteeodjbionjlmaaJa
namespace Go.Proofs.Yteeodjbionjlmaa
set_option linter.unusedVariables false
open Go Go.Maps
/-- A map whose keys are numbers, as the list of what it holds, rising by key. -/
def tabD {α : Type} (k : α → Int) (v : α → Value) (xs : List α) : DataW Value := .map (xs.map fun x => (.int .i64 (k x), .held (v x)))
def heldR (v : Value) : Option (DataW Value × List MemPlace) := some (.held v, [])
section
variable {α : Type} {k : α → Int} {v : α → Value}
def insK (k : α → Int) (x : α) : List α → List α
  | [] => [x]
  | y :: r => if k x < k y then x :: y :: r else y :: insK k x r
def dropK (k : α → Int) (t : Int) (xs : List α) : List α := xs.filter fun x => !decide (k x = t)
def putK (k : α → Int) (x : α) (xs : List α) : List α := insK k x (dropK k (k x) xs)
def Rise (k : α → Int) (xs : List α) : Prop := xs.Pairwise fun a b => k a < k b
theorem key_same (a b : Int) : Lit.sameKey (.int .i64 a) (.int .i64 b) = decide (a = b) := by simp [Lit.sameKey]
theorem tab_has (xs : List α) (t : Int) : Maps.has (tabD k v xs) (.int .i64 t) = decide (t ∈ xs.map k) := by
  simp only [tabD, Maps.has, List.any_map]
  rw [Bool.eq_iff_iff, List.any_eq_true, decide_eq_true_eq, List.mem_map]
  constructor
  · rintro ⟨x, hx, h⟩
    exact ⟨x, hx, by simpa [key_same] using h⟩
  · rintro ⟨x, hx, h⟩
    exact ⟨x, hx, by simpa [key_same] using h⟩
theorem tab_at (xs : List α) (t : Int) (z : DataW Value) : (tabD k v xs).atKey (.int .i64 t) z = match xs.find? (fun x => decide (k x = t)) with | some x => .held (v x) | none => z := by
  simp only [tabD, DataW.atKey, List.find?_map]
  have e : ((fun p : Lit × DataW Value => p.1.sameKey (.int .i64 t)) ∘ fun x => ((.int .i64 (k x), .held (v x)) : Lit × DataW Value)) = fun x => decide (k x = t) := by
    funext x; simp [key_same]
  rw [e]
  cases xs.find? (fun x => decide (k x = t)) <;> rfl
theorem tab_size (xs : List α) : Maps.size (tabD k v xs) = xs.length := by simp [tabD, Maps.size]
theorem tab_filter (xs : List α) (t : Int) : ((xs.map fun x => ((.int .i64 (k x), .held (v x)) : Lit × DataW Value)).filter fun p => !p.1.sameKey (.int .i64 t)) = (dropK k t xs).map fun x => ((.int .i64 (k x), .held (v x)) : Lit × DataW Value) := by
  rw [List.filter_map, dropK]
  congr 1
  apply List.filter_congr
  intro x _
  simp [key_same]
theorem tab_del (xs : List α) (t : Int) : (tabD k v xs).del (.int .i64 t) = tabD k v (dropK k t xs) := by
  simp only [tabD, DataW.del, tab_filter]
theorem tab_insert (x : α) : ∀ xs : List α, DataW.insert ((.int .i64 (k x), .held (v x)) : Lit × DataW Value) (xs.map fun x => (.int .i64 (k x), .held (v x))) = (insK k x xs).map fun x => (.int .i64 (k x), .held (v x))
  | [] => rfl
  | y :: r => by
    simp only [List.map_cons, DataW.insert, insK, Lit.before]
    by_cases h : k x < k y
    · simp [h]
    · simp [h, tab_insert x r]
theorem tab_put (x : α) (xs : List α) : (tabD k v xs).put (.int .i64 (k x)) (.held (v x)) = tabD k v (putK k x xs) := by
  simp only [tabD, DataW.put, tab_filter, tab_insert, putK]
theorem ins_mem {x z : α} : ∀ {xs : List α}, z ∈ insK k x xs ↔ z = x ∨ z ∈ xs
  | [] => by simp [insK]
  | y :: r => by
    rw [insK]
    split
    · simp
    · rw [List.mem_cons, ins_mem (xs := r), List.mem_cons]
      constructor
      · rintro (h | h | h)
        · exact .inr (.inl h)
        · exact .inl h
        · exact .inr (.inr h)
      · rintro (h | h | h)
        · exact .inr (.inl h)
        · exact .inl h
        · exact .inr (.inr h)
theorem ins_rise {x : α} : ∀ {xs : List α}, Rise k xs → (∀ y ∈ xs, k y ≠ k x) → Rise k (insK k x xs)
  | [], _, _ => List.pairwise_singleton _ _
  | y :: r, h, hn => by
    rw [insK]
    have h' := List.pairwise_cons.1 h
    split
    · rename_i hlt
      exact List.pairwise_cons.2 ⟨fun z hz => by rcases List.mem_cons.1 hz with rfl | hz; exact hlt; have := h'.1 z hz; omega, h⟩
    · rename_i hlt
      have hne := hn y (by simp)
      refine List.pairwise_cons.2 ⟨fun z hz => ?_, ins_rise h'.2 fun z hz => hn z (by simp [hz])⟩
      rcases ins_mem.1 hz with rfl | hz
      · omega
      · exact h'.1 z hz
theorem ins_last {x : α} : ∀ {xs : List α}, (∀ y ∈ xs, k y < k x) → insK k x xs = xs ++ [x]
  | [], _ => rfl
  | y :: r, h => by
    have := h y (by simp)
    rw [insK, if_neg (by omega), ins_last fun z hz => h z (by simp [hz])]
    rfl
theorem drop_none {t : Int} {xs : List α} (h : ∀ y ∈ xs, k y ≠ t) : dropK k t xs = xs := by
  rw [dropK, List.filter_eq_self]
  intro y hy
  simpa using h y hy
theorem drop_rise {t : Int} {xs : List α} (h : Rise k xs) : Rise k (dropK k t xs) := h.filter _
theorem drop_mem {t : Int} {xs : List α} {z : α} : z ∈ dropK k t xs ↔ z ∈ xs ∧ k z ≠ t := by simp [dropK]
theorem put_last {x : α} {xs : List α} (h : ∀ y ∈ xs, k y < k x) : putK k x xs = xs ++ [x] := by
  rw [putK, drop_none fun y hy => by have := h y hy; omega, ins_last h]
theorem put_mem {x z : α} {xs : List α} : z ∈ putK k x xs ↔ z = x ∨ (z ∈ xs ∧ k z ≠ k x) := by rw [putK, ins_mem, drop_mem]
theorem put_rise {x : α} {xs : List α} (h : Rise k xs) : Rise k (putK k x xs) := ins_rise (drop_rise h) fun y hy => (drop_mem.1 hy).2
theorem Rise_take {xs : List α} {n : Nat} (h : Rise k xs) : Rise k (xs.take n) := List.Pairwise.sublist (List.take_sublist n xs) h
theorem Rise_lt {xs : List α} {n : Nat} {z : α} (h : Rise k xs) (hz : xs[n]? = some z) : ∀ y ∈ xs.take n, k y < k z := by
  intro y hy
  obtain ⟨j, hj⟩ := List.mem_iff_getElem?.1 hy
  rw [List.getElem?_take] at hj
  split at hj
  · rename_i hjn
    obtain ⟨h1, e1⟩ := List.getElem?_eq_some_iff.1 hj
    obtain ⟨h2, e2⟩ := List.getElem?_eq_some_iff.1 hz
    rw [← e1, ← e2]
    exact List.pairwise_iff_getElem.1 h j n h1 h2 hjn
  · cases hj
theorem Rise_put_take {xs : List α} {n : Nat} {z : α} (h : Rise k xs) (hz : xs[n]? = some z) : putK k z (xs.take n) = xs.take (n + 1) := by
  rw [put_last (Rise_lt h hz), List.take_add_one, hz]
  rfl
theorem Rise_find {xs : List α} {z : α} (h : Rise k xs) (hz : z ∈ xs) : xs.find? (fun x => decide (k x = k z)) = some z := by
  induction xs with
  | nil => simp at hz
  | cons y r ih =>
    have h' := List.pairwise_cons.1 h
    rw [List.find?_cons]
    rcases List.mem_cons.1 hz with rfl | hz
    · simp
    · have := h'.1 z hz
      rw [show decide (k y = k z) = false by simp; omega]
      exact ih h'.2 hz
theorem findK_none {xs : List α} {t : Int} (h : ¬ t ∈ xs.map k) : xs.find? (fun x => decide (k x = t)) = none := by
  rw [List.find?_eq_none]
  intro x hx
  simp only [decide_eq_true_eq]
  intro e
  exact h (by rw [← e]; exact List.mem_map_of_mem hx)
theorem findK_mem {xs : List α} {t : Int} (h : t ∈ xs.map k) : ∃ z, xs.find? (fun x => decide (k x = t)) = some z ∧ z ∈ xs ∧ k z = t := by
  cases hf : xs.find? (fun x => decide (k x = t)) with
  | none =>
    obtain ⟨x, hx, rfl⟩ := List.mem_map.1 h
    have := List.find?_eq_none.1 hf x hx
    simp at this
  | some z => exact ⟨z, rfl, List.mem_of_find?_eq_some hf, by simpa using List.find?_some hf⟩
theorem Rise_sorted {xs : List α} (h : Rise k xs) : (xs.map k).mergeSort (fun x y => decide (x ≤ y)) = xs.map k := by
  refine List.Perm.eq_of_pairwise (le := fun a b => decide (a ≤ b) = true) (fun a b _ _ h1 h2 => ?_) (List.pairwise_mergeSort (fun a b c h1 h2 => by simp only [decide_eq_true_eq] at *; omega) (fun a b => by simp only [Bool.or_eq_true, decide_eq_true_eq]; omega) _) ?_ (List.mergeSort_perm _ _)
  · simp only [decide_eq_true_eq] at h1 h2; omega
  · rw [List.pairwise_map]
    exact h.imp fun hab => by simp only [decide_eq_true_eq]; omega
end
end Go.Proofs.Yteeodjbionjlmaa
namespace Go.Proofs.Yteeodjbionjlmaa
set_option linter.unusedVariables false
/-- A room's validity as a proposition. -/
structure RoomV (ms : List Mb) (vs : List Iv) (bs : List Bn) : Prop where
  l1 : ms.length ≤ 32
  s1 : ∀ m ∈ ms, mbB m = true ∧ idB m.id = true
  r1 : Rise Mb.id ms
  o1 : ∃ m ∈ ms, m.role = 3
  l2 : vs.length ≤ 16
  s2 : ∀ x ∈ vs, ivB x = true ∧ idB x.id = true
  r2 : Rise Iv.id vs
  d2 : ∀ x ∈ vs, ¬ x.id ∈ mids ms
  l3 : bs.length ≤ 16
  s3 : ∀ x ∈ bs, bnB x = true ∧ idB x.id = true
  r3 : Rise Bn.id bs
  d3 : ∀ x ∈ bs, ¬ x.id ∈ mids ms ∧ ¬ x.id ∈ iids vs
theorem memB_of {l : List Int} (h1 : l.Pairwise (· < ·)) (h2 : ∀ x ∈ l, idB x = true) : memB l = true := by
  unfold memB
  refine rises_full (k := l.length) (fun j x hj hx => ?_) (Nat.le_refl _)
  have h := h2 x (List.mem_of_getElem? hx)
  simp only [idB, decide_eq_true_eq] at h
  refine ⟨h.1, h.2, fun y h0 hy => ?_⟩
  obtain ⟨a1, e1⟩ := List.getElem?_eq_some_iff.1 hx
  obtain ⟨a2, e2⟩ := List.getElem?_eq_some_iff.1 hy
  rw [← e1, ← e2]
  exact List.pairwise_iff_getElem.1 h1 (j - 1) j a2 a1 (by omega)
theorem memB_id {l : List Int} (h : memB l = true) {x : Int} (hx : x ∈ l) : idB x = true := by
  obtain ⟨k, hk⟩ := List.mem_iff_getElem?.1 hx
  have hr := mem_rise h k x (List.getElem?_eq_some_iff.1 hk).1 hk
  simp [idB, hr.1, hr.2.1]
theorem memB_iff {l : List Int} : memB l = true ↔ l.Pairwise (· < ·) ∧ ∀ x ∈ l, idB x = true := ⟨fun h => ⟨memB_pair h, fun _ hx => memB_id h hx⟩, fun h => memB_of h.1 h.2⟩
theorem rise_map {α : Type} {k : α → Int} {xs : List α} : (xs.map k).Pairwise (· < ·) ↔ Rise k xs := by rw [List.pairwise_map]; rfl
theorem roomB_iff {ms : List Mb} {vs : List Iv} {bs : List Bn} : roomB ms vs bs = true ↔ RoomV ms vs bs := by
  simp only [roomB, membersB, invitesB, bansB, Bool.and_eq_true, decide_eq_true_eq, List.all_eq_true, List.any_eq_true, memB_iff, Bool.not_eq_true', decide_eq_false_iff_not]
  constructor
  · rintro ⟨⟨⟨a1, a2, a3, a4⟩, a5, a6, a7⟩, ⟨⟨b1, b2, b3, b4⟩, b5⟩, ⟨⟨c1, c2, c3, c4⟩, c5⟩⟩
    exact ⟨a1, fun m hm => ⟨a2 m hm, a4 _ (List.mem_map_of_mem hm)⟩, rise_map.1 a3, ⟨a5, a6, by simpa [ownB] using a7⟩, b1, fun x hx => ⟨b2 x hx, b4 _ (List.mem_map_of_mem hx)⟩, rise_map.1 b3, b5, c1, fun x hx => ⟨c2 x hx, c4 _ (List.mem_map_of_mem hx)⟩, rise_map.1 c3, c5⟩
  · intro h
    obtain ⟨m, hm, ho⟩ := h.o1
    refine ⟨⟨⟨h.l1, fun m hm => (h.s1 m hm).1, rise_map.2 h.r1, fun x hx => ?_⟩, m, hm, by simp [ownB, ho]⟩, ⟨⟨h.l2, fun m hm => (h.s2 m hm).1, rise_map.2 h.r2, fun x hx => ?_⟩, h.d2⟩, ⟨⟨h.l3, fun m hm => (h.s3 m hm).1, rise_map.2 h.r3, fun x hx => ?_⟩, h.d3⟩⟩
    · obtain ⟨m, hm, rfl⟩ := List.mem_map.1 hx; exact (h.s1 m hm).2
    · obtain ⟨m, hm, rfl⟩ := List.mem_map.1 hx; exact (h.s2 m hm).2
    · obtain ⟨m, hm, rfl⟩ := List.mem_map.1 hx; exact (h.s3 m hm).2
/-- what a function that hands a room back answers -/
structure ROut where
  o : Bool
  ms : List Mb
  vs : List Iv
  bs : List Bn
  ok : Bool
def rNo : ROut := ⟨false, [], [], [], false⟩
def rGive (o : Bool) (ms : List Mb) (vs : List Iv) (bs : List Bn) : ROut := if roomB ms vs bs = true then ⟨o, ms, vs, bs, true⟩ else rNo
theorem rGive_yes {o : Bool} {ms : List Mb} {vs : List Iv} {bs : List Bn} (h : RoomV ms vs bs) : rGive o ms vs bs = ⟨o, ms, vs, bs, true⟩ := if_pos (roomB_iff.2 h)
theorem rGive_no {o : Bool} {ms : List Mb} {vs : List Iv} {bs : List Bn} (h : ¬ RoomV ms vs bs) : rGive o ms vs bs = rNo := if_neg fun hb => h (roomB_iff.1 hb)
def findM (ms : List Mb) (t : Int) : Option Mb := ms.find? fun x => decide (x.id = t)
def leastL (a : Int) : Int := if a ≤ 1 then 0 else if a ≤ 3 then 1 else if a ≤ 6 then 2 else 3
def mayB (r a : Int) : Bool := decide (0 ≤ r) && decide (r ≤ 3) && decide (0 ≤ a) && decide (a ≤ 8) && decide (leastL a ≤ r)
def allowB (ms : List Mb) (t a at_ : Int) : Bool := tickB at_ && match findM ms t with | some m => mayB m.role a && (decide (m.quiet ≤ at_) || decide (a = 0)) | none => false
/-- nobody with as great a role -/
def rankB (ms : List Mb) (p t : Int) : Bool := match findM ms t with | none => true | some m => match findM ms p with | some b => decide (m.role < b.role) | none => false
def roleAt (ms : List Mb) (t : Int) : Int := match findM ms t with | some m => m.role | none => 0
theorem findM_none {ms : List Mb} {t : Int} : findM ms t = none ↔ ¬ t ∈ mids ms := by
  constructor
  · intro h hm
    obtain ⟨z, hz, _⟩ := findK_mem (k := Mb.id) hm
    simp only [findM] at h
    rw [h] at hz; cases hz
  · intro h
    exact findK_none h
theorem findM_some {ms : List Mb} {t : Int} {m : Mb} (h : findM ms t = some m) : m ∈ ms ∧ m.id = t := ⟨List.mem_of_find?_eq_some h, by simpa using List.find?_some h⟩
theorem findM_mem {ms : List Mb} {t : Int} {m : Mb} (h : findM ms t = some m) : t ∈ mids ms := by
  obtain ⟨a, b⟩ := findM_some h
  rw [← b]; exact List.mem_map_of_mem a
theorem allow_mem {ms : List Mb} {t a at_ : Int} (h : allowB ms t a at_ = true) : t ∈ mids ms := by
  cases hf : findM ms t with
  | none => simp [allowB, hf] at h
  | some m => exact findM_mem hf
theorem rank_self {ms : List Mb} {t : Int} (h : t ∈ mids ms) : rankB ms t t = false := by
  cases hf : findM ms t with
  | none => exact absurd h (findM_none.1 hf)
  | some m => simp [rankB, hf]
/-- what the program does with a room: it is changed if it is valid, its changer allowed, and of a greater role than whom it names -/
def carryR (o : Bool) (ms : List Mb) (vs : List Iv) (bs : List Bn) (p a t at_ : Int) (f : ROut) : ROut :=
  if (roomB ms vs bs && allowB ms p a at_ && rankB ms p t) = true then (if f.ok = true then rGive f.o f.ms f.vs f.bs else rNo) else rNo
def changeR (ms : List Mb) (vs : List Iv) (bs : List Bn) (f : ROut) : ROut :=
  if roomB ms vs bs = true then (if f.ok = true then rGive f.o f.ms f.vs f.bs else rNo) else rNo
def aboveB (ms : List Mb) (vs : List Iv) (bs : List Bn) (p t a at_ : Int) : Bool := roomB ms vs bs && !decide (p = t) && idB t && allowB ms p a at_ && rankB ms p t
/-! the doings themselves, as the program does them -/
def openF (ms : List Mb) (vs : List Iv) (bs : List Bn) (n : Bool) : ROut := ⟨n, ms, vs, bs, true⟩
def liftF (o : Bool) (ms : List Mb) (vs : List Iv) (bs : List Bn) (t : Int) : ROut := if t ∈ bids bs then ⟨o, ms, vs, dropK Bn.id t bs, true⟩ else rNo
def banF (o : Bool) (ms : List Mb) (vs : List Iv) (bs : List Bn) (t til at_ : Int) : ROut := if til < at_ then rNo else ⟨o, dropK Mb.id t ms, dropK Iv.id t vs, putK Bn.id ⟨t, til⟩ bs, true⟩
def muteF (o : Bool) (ms : List Mb) (vs : List Iv) (bs : List Bn) (t til : Int) : ROut := match findM ms t with | some m => ⟨o, putK Mb.id { m with quiet := til } ms, vs, bs, true⟩ | none => rNo
def roleF (o : Bool) (ms : List Mb) (vs : List Iv) (bs : List Bn) (t r : Int) : ROut := match findM ms t with | some m => ⟨o, putK Mb.id { m with role := r } ms, vs, bs, true⟩ | none => rNo
def inviteF (o : Bool) (ms : List Mb) (vs : List Iv) (bs : List Bn) (p t til at_ : Int) : ROut := if t ∈ mids ms ∨ til < at_ ∨ t ∈ bids bs then rNo else ⟨o, ms, putK Iv.id ⟨t, p, til⟩ vs, bs, true⟩
def findI (vs : List Iv) (t : Int) : Option Iv := vs.find? fun x => decide (x.id = t)
def doorB (o : Bool) (vs : List Iv) (t at_ : Int) : Bool := o || match findI vs t with | some x => decide (at_ ≤ x.til) | none => false
def joinF (o : Bool) (ms : List Mb) (vs : List Iv) (bs : List Bn) (t at_ : Int) : ROut := if t ∈ mids ms ∨ doorB o vs t at_ = false ∨ t ∈ bids bs then rNo else ⟨o, putK Mb.id ⟨t, 1, at_, 0⟩ ms, dropK Iv.id t vs, bs, true⟩
def hush (at_ : Int) (m : Mb) : Mb := if m.quiet ≤ at_ then { m with quiet := 0 } else m
def sweepF (o : Bool) (ms : List Mb) (vs : List Iv) (bs : List Bn) (at_ : Int) : ROut := if tickB at_ = true then ⟨o, ms.map (hush at_), vs.filter fun x => !decide (x.til < at_), bs.filter fun x => !decide (x.til < at_), true⟩ else rNo
/-! the model's answers -/
def openS (o : Bool) (ms : List Mb) (vs : List Iv) (bs : List Bn) (p : Int) (n : Bool) (at_ : Int) : ROut := if (roomB ms vs bs && allowB ms p 8 at_) = true then ⟨n, ms, vs, bs, true⟩ else rNo
def liftS (o : Bool) (ms : List Mb) (vs : List Iv) (bs : List Bn) (p t at_ : Int) : ROut := if (aboveB ms vs bs p t 6 at_ && decide (t ∈ bids bs)) = true then ⟨o, ms, vs, dropK Bn.id t bs, true⟩ else rNo
def sweepS (o : Bool) (ms : List Mb) (vs : List Iv) (bs : List Bn) (at_ : Int) : ROut := if (roomB ms vs bs && tickB at_) = true then ⟨o, ms.map (hush at_), vs.filter fun x => !decide (x.til < at_), bs.filter fun x => !decide (x.til < at_), true⟩ else rNo
def muteS (o : Bool) (ms : List Mb) (vs : List Iv) (bs : List Bn) (p t til at_ : Int) : ROut := if (aboveB ms vs bs p t 4 at_ && decide (t ∈ mids ms) && tickB til) = true then ⟨o, ms.map fun m => if m.id = t then { m with quiet := til } else m, vs, bs, true⟩ else rNo
def roleS (o : Bool) (ms : List Mb) (vs : List Iv) (bs : List Bn) (p t r at_ : Int) : ROut := if (aboveB ms vs bs p t 7 at_ && decide (t ∈ mids ms) && roleB r) = true then rGive o (ms.map fun m => if m.id = t then { m with role := r } else m) vs bs else rNo
def banS (o : Bool) (ms : List Mb) (vs : List Iv) (bs : List Bn) (p t til at_ : Int) : ROut := if (aboveB ms vs bs p t 6 at_ && tickB til && !decide (til < at_)) = true then rGive o (dropK Mb.id t ms) (dropK Iv.id t vs) (putK Bn.id ⟨t, til⟩ bs) else rNo
def inviteS (o : Bool) (ms : List Mb) (vs : List Iv) (bs : List Bn) (p t til at_ : Int) : ROut := if (aboveB ms vs bs p t 3 at_ && tickB til && !decide (til < at_) && !decide (t ∈ mids ms) && !decide (t ∈ bids bs)) = true then rGive o ms (putK Iv.id ⟨t, p, til⟩ vs) bs else rNo
def joinS (o : Bool) (ms : List Mb) (vs : List Iv) (bs : List Bn) (t at_ : Int) : ROut := if (roomB ms vs bs && idB t && tickB at_ && !decide (t ∈ mids ms) && !decide (t ∈ bids bs) && doorB o vs t at_) = true then rGive o (insK Mb.id ⟨t, 1, at_, 0⟩ ms) (dropK Iv.id t vs) bs else rNo
/-! they are the same -/
theorem allow_tick {ms : List Mb} {t a at_ : Int} (h : allowB ms t a at_ = true) : tickB at_ = true := by
  simp only [allowB, Bool.and_eq_true] at h; exact h.1
theorem open_same (o : Bool) (ms : List Mb) (vs : List Iv) (bs : List Bn) (p : Int) (n : Bool) (at_ : Int) : carryR o ms vs bs p 8 0 at_ (openF ms vs bs n) = openS o ms vs bs p n at_ := by
  unfold carryR openS
  by_cases hr : roomB ms vs bs = true
  · have hv := roomB_iff.1 hr
    have h0 : ¬ (0 : Int) ∈ mids ms := fun h => by
      obtain ⟨m, hm, e⟩ := List.mem_map.1 h
      have := (hv.s1 m hm).2
      rw [e] at this; simp [idB] at this
    have h1 : rankB ms p 0 = true := by simp [rankB, findM_none.2 h0]
    simp [hr, h1, openF, rGive_yes hv]
  · simp only [Bool.not_eq_true] at hr
    simp [hr]
theorem mids_drop {ms : List Mb} {t x : Int} : x ∈ mids (dropK Mb.id t ms) ↔ x ∈ mids ms ∧ x ≠ t := by
  simp only [mids, List.mem_map, drop_mem]
  constructor
  · rintro ⟨m, ⟨h1, h2⟩, rfl⟩; exact ⟨⟨m, h1, rfl⟩, h2⟩
  · rintro ⟨⟨m, h1, rfl⟩, h2⟩; exact ⟨m, ⟨h1, h2⟩, rfl⟩
theorem drop_len {α : Type} {k : α → Int} {t : Int} {xs : List α} : (dropK k t xs).length ≤ xs.length := List.length_filter_le _ _
theorem lift_valid {ms : List Mb} {vs : List Iv} {bs : List Bn} (h : RoomV ms vs bs) (t : Int) : RoomV ms vs (dropK Bn.id t bs) :=
  { h with l3 := Nat.le_trans drop_len h.l3, s3 := fun x hx => h.s3 x (drop_mem.1 hx).1, r3 := drop_rise h.r3, d3 := fun x hx => h.d3 x (drop_mem.1 hx).1 }
theorem lift_same (o : Bool) (ms : List Mb) (vs : List Iv) (bs : List Bn) (p t at_ : Int) : carryR o ms vs bs p 6 t at_ (liftF o ms vs bs t) = liftS o ms vs bs p t at_ := by
  unfold carryR liftS aboveB liftF
  by_cases hr : roomB ms vs bs = true
  · have hv := roomB_iff.1 hr
    by_cases hb : t ∈ bids bs
    · have hid : idB t = true := by
        obtain ⟨x, hx, rfl⟩ := List.mem_map.1 hb
        exact (hv.s3 x hx).2
      by_cases ha : allowB ms p 6 at_ = true
      · have hne : p ≠ t := by
          rintro rfl
          obtain ⟨x, hx, e⟩ := List.mem_map.1 hb
          exact (hv.d3 x hx).1 (by rw [e]; exact allow_mem ha)
        by_cases hk : rankB ms p t = true
        · simp [hr, hb, hid, ha, hne, hk, rGive_yes (lift_valid hv t)]
        · simp [hk]
      · simp [ha]
    · simp [hb, rNo]
  · simp only [Bool.not_eq_true] at hr
    simp [hr]
def alter (t : Int) (f : Mb → Mb) (ms : List Mb) : List Mb := ms.map fun x => if x.id = t then f x else x
theorem alter_none {t : Int} {f : Mb → Mb} {ms : List Mb} (h : ∀ x ∈ ms, x.id ≠ t) : alter t f ms = ms := by
  unfold alter
  conv => rhs; rw [← List.map_id ms]
  exact List.map_congr_left fun x hx => by simp [h x hx]
theorem put_alter (f : Mb → Mb) (hf : ∀ x, (f x).id = x.id) : ∀ {ms : List Mb} {m : Mb}, Rise Mb.id ms → m ∈ ms → putK Mb.id (f m) ms = alter m.id f ms
  | [], m, _, hm => by simp at hm
  | y :: r, m, h, hm => by
    have h' := List.pairwise_cons.1 h
    by_cases e : y.id = m.id
    · have hym : y = m := by
        rcases List.mem_cons.1 hm with rfl | hr
        · rfl
        · have := h'.1 m hr; omega
      subst hym
      have hr : ∀ z ∈ r, z.id ≠ y.id := fun z hz => by have := h'.1 z hz; omega
      have e1 : dropK Mb.id (f y).id (y :: r) = r := by
        rw [hf]
        have := drop_none (k := Mb.id) hr
        unfold dropK at this ⊢
        rw [List.filter_cons]
        simpa using this
      unfold putK
      rw [e1]
      have e2 : insK Mb.id (f y) r = f y :: r := by
        cases r with
        | nil => rfl
        | cons z q =>
          have := h'.1 z (by simp)
          rw [insK, if_pos (by rw [hf]; exact this)]
      rw [e2]
      have := alter_none (f := f) hr
      unfold alter at this ⊢
      rw [List.map_cons, this]
      simp
    · have hr : m ∈ r := by
        rcases List.mem_cons.1 hm with rfl | hr
        · exact absurd rfl e
        · exact hr
      have hlt := h'.1 m hr
      have ih := put_alter f hf h'.2 hr
      unfold putK at ih ⊢
      have e1 : dropK Mb.id (f m).id (y :: r) = y :: dropK Mb.id (f m).id r := by
        unfold dropK
        rw [List.filter_cons]
        rw [if_pos (by rw [hf]; simpa using e)]
      rw [e1, insK, if_neg (by rw [hf]; omega), ih]
      unfold alter
      rw [List.map_cons, if_neg e]
theorem alter_mids {t : Int} {f : Mb → Mb} (hf : ∀ x, (f x).id = x.id) (ms : List Mb) : mids (alter t f ms) = mids ms := by
  unfold alter mids
  rw [List.map_map]
  refine List.map_congr_left fun x _ => ?_
  simp only [Function.comp_apply]
  split
  · exact hf x
  · rfl
theorem alter_valid {t : Int} {f : Mb → Mb} (hf : ∀ x, (f x).id = x.id) {ms : List Mb} {vs : List Iv} {bs : List Bn} (h : RoomV ms vs bs) (hs : ∀ x ∈ ms, mbB (f x) = true) (ho : ∀ x ∈ ms, (f x).role = x.role) : RoomV (alter t f ms) vs bs := by
  have hm := alter_mids (t := t) hf ms
  refine { h with l1 := by simpa [alter] using h.l1, s1 := fun x hx => ?_, r1 := rise_map.1 (by have := rise_map.2 h.r1; rw [show (alter t f ms).map Mb.id = ms.map Mb.id from hm]; exact this), o1 := ?_, d2 := fun x hx => by rw [hm]; exact h.d2 x hx, d3 := fun x hx => by rw [hm]; exact h.d3 x hx }
  · obtain ⟨y, hy, rfl⟩ := List.mem_map.1 hx
    by_cases e : y.id = t
    · rw [if_pos e]; exact ⟨hs y hy, by rw [hf]; exact (h.s1 y hy).2⟩
    · rw [if_neg e]; exact h.s1 y hy
  · obtain ⟨m, hm, hr⟩ := h.o1
    refine ⟨if m.id = t then f m else m, List.mem_map.2 ⟨m, hm, rfl⟩, ?_⟩
    split
    · rw [ho m hm, hr]
    · exact hr
theorem alter_bad {t : Int} {f : Mb → Mb} {ms : List Mb} {vs : List Iv} {bs : List Bn} {m : Mb} (hm : m ∈ ms) (e : m.id = t) (hb : mbB (f m) = false) : ¬ RoomV (alter t f ms) vs bs := fun h => by
  have := (h.s1 (f m) (List.mem_map.2 ⟨m, hm, by rw [if_pos e]⟩)).1
  rw [hb] at this; cases this
theorem rank_ne {ms : List Mb} {p t : Int} (h : rankB ms p t = true) (ht : t ∈ mids ms) : p ≠ t := by
  rintro rfl
  rw [rank_self ht] at h; cases h
theorem mute_same (o : Bool) (ms : List Mb) (vs : List Iv) (bs : List Bn) (p t til at_ : Int) : carryR o ms vs bs p 4 t at_ (muteF o ms vs bs t til) = muteS o ms vs bs p t til at_ := by
  unfold carryR muteS aboveB muteF
  by_cases hr : roomB ms vs bs = true
  · have hv := roomB_iff.1 hr
    cases hf : findM ms t with
    | none => simp [findM_none.1 hf, rNo]
    | some m =>
      obtain ⟨hm, hid⟩ := findM_some hf
      have ht := findM_mem hf
      have hi : idB t = true := by rw [← hid]; exact (hv.s1 m hm).2
      by_cases hk : rankB ms p t = true
      · have hne := rank_ne hk ht
        have e := put_alter (fun m => { m with quiet := til }) (fun _ => rfl) hv.r1 hm
        dsimp only at e ⊢
        rw [e, hid]
        cases htl : tickB til with
        | true =>
          rw [rGive_yes (alter_valid (f := fun m => { m with quiet := til }) (fun _ => rfl) hv (fun x hx => by have := (hv.s1 x hx).1; simp only [mbB, Bool.and_eq_true] at this ⊢; exact ⟨this.1, this.2.1, htl⟩) (fun _ _ => rfl))]
          simp [hr, hi, hk, ht, hne, alter]
        | false =>
          rw [rGive_no (alter_bad (f := fun m => { m with quiet := til }) hm hid (by simp [mbB, htl]))]
          simp
      · simp [hk]
  · simp only [Bool.not_eq_true] at hr
    simp [hr]
theorem role_same (o : Bool) (ms : List Mb) (vs : List Iv) (bs : List Bn) (p t r at_ : Int) : carryR o ms vs bs p 7 t at_ (roleF o ms vs bs t r) = roleS o ms vs bs p t r at_ := by
  unfold carryR roleS aboveB roleF
  by_cases hr : roomB ms vs bs = true
  · have hv := roomB_iff.1 hr
    cases hf : findM ms t with
    | none => simp [findM_none.1 hf, rNo]
    | some m =>
      obtain ⟨hm, hid⟩ := findM_some hf
      have ht := findM_mem hf
      have hi : idB t = true := by rw [← hid]; exact (hv.s1 m hm).2
      by_cases hk : rankB ms p t = true
      · have hne := rank_ne hk ht
        have e := put_alter (fun m => { m with role := r }) (fun _ => rfl) hv.r1 hm
        dsimp only at e ⊢
        rw [e, hid]
        cases htl : roleB r with
        | true => simp [hr, hi, hk, ht, hne, alter]
        | false =>
          rw [rGive_no (alter_bad (f := fun m => { m with role := r }) hm hid (by simp [mbB, htl]))]
          simp
      · simp [hk]
  · simp only [Bool.not_eq_true] at hr
    simp [hr]
theorem put_in {α : Type} {k : α → Int} {x : α} {xs : List α} : x ∈ putK k x xs := put_mem.2 (.inl rfl)
theorem ban_same (o : Bool) (ms : List Mb) (vs : List Iv) (bs : List Bn) (p t til at_ : Int) : carryR o ms vs bs p 6 t at_ (banF o ms vs bs t til at_) = banS o ms vs bs p t til at_ := by
  unfold carryR banS aboveB banF
  by_cases hr : roomB ms vs bs = true
  · have hv := roomB_iff.1 hr
    by_cases ha : allowB ms p 6 at_ = true
    · by_cases hk : rankB ms p t = true
      · have hne : p ≠ t := fun e => by subst e; rw [rank_self (allow_mem ha)] at hk; cases hk
        by_cases hl : til < at_
        · simp [hl, rNo]
        · by_cases hg : idB t = true ∧ tickB til = true
          · simp [hr, ha, hk, hne, hl, hg.1, hg.2]
          · have hno : ¬ RoomV (dropK Mb.id t ms) (dropK Iv.id t vs) (putK Bn.id ⟨t, til⟩ bs) := fun h => by
              have := h.s3 ⟨t, til⟩ put_in
              exact hg ⟨this.2, this.1⟩
            cases h1 : idB t <;> cases h2 : tickB til <;> first | (exfalso; exact hg ⟨h1, h2⟩) | simp [hl, rGive_no hno]
      · simp [hk]
    · simp [ha]
  · simp only [Bool.not_eq_true] at hr
    simp [hr]
theorem invite_same (o : Bool) (ms : List Mb) (vs : List Iv) (bs : List Bn) (p t til at_ : Int) : carryR o ms vs bs p 3 t at_ (inviteF o ms vs bs p t til at_) = inviteS o ms vs bs p t til at_ := by
  unfold carryR inviteS aboveB inviteF
  by_cases hr : roomB ms vs bs = true
  · have hv := roomB_iff.1 hr
    by_cases ha : allowB ms p 3 at_ = true
    · by_cases hm : t ∈ mids ms
      · simp [hm, rNo]
      · have hne : p ≠ t := fun e => by subst e; exact hm (allow_mem ha)
        have hk : rankB ms p t = true := by simp [rankB, findM_none.2 hm]
        by_cases hl : til < at_
        · simp [hl, rNo]
        · by_cases hb : t ∈ bids bs
          · simp [hb, rNo]
          · by_cases hg : idB t = true ∧ tickB til = true
            · simp [hr, ha, hk, hne, hl, hg.1, hg.2, hm, hb]
            · have hno : ¬ RoomV ms (putK Iv.id ⟨t, p, til⟩ vs) bs := fun h => by
                have := h.s2 ⟨t, p, til⟩ put_in
                have h2 := this.1
                simp only [ivB, Bool.and_eq_true] at h2
                exact hg ⟨this.2, h2.2⟩
              cases h1 : idB t <;> cases h2 : tickB til <;> first | (exfalso; exact hg ⟨h1, h2⟩) | simp [hm, hl, hb, rGive_no hno]
    · simp [ha]
  · simp only [Bool.not_eq_true] at hr
    simp [hr]
theorem join_same (o : Bool) (ms : List Mb) (vs : List Iv) (bs : List Bn) (t at_ : Int) : changeR ms vs bs (joinF o ms vs bs t at_) = joinS o ms vs bs t at_ := by
  unfold changeR joinS joinF
  by_cases hr : roomB ms vs bs = true
  · have hv := roomB_iff.1 hr
    by_cases hm : t ∈ mids ms
    · simp [hm, rNo]
    · have hp : putK Mb.id ⟨t, 1, at_, 0⟩ ms = insK Mb.id ⟨t, 1, at_, 0⟩ ms := by
        unfold putK
        rw [drop_none (k := Mb.id) (t := t) fun y hy e => hm (by rw [← e]; exact List.mem_map_of_mem hy)]
      cases hd : doorB o vs t at_ with
      | false => simp [hm, rNo]
      | true =>
        by_cases hb : t ∈ bids bs
        · simp [hb, rNo]
        · by_cases hg : idB t = true ∧ tickB at_ = true
          · simp [hr, hg.1, hg.2, hm, hb, hp]
          · have hno : ¬ RoomV (putK Mb.id ⟨t, 1, at_, 0⟩ ms) (dropK Iv.id t vs) bs := fun h => by
              have := h.s1 ⟨t, 1, at_, 0⟩ put_in
              have h2 := this.1
              simp only [mbB, Bool.and_eq_true] at h2
              exact hg ⟨this.2, h2.2.1⟩
            cases h1 : idB t <;> cases h2 : tickB at_ <;> first | (exfalso; exact hg ⟨h1, h2⟩) | simp [hm, hb, rGive_no hno]
  · simp only [Bool.not_eq_true] at hr
    simp [hr]
theorem hush_id (at_ : Int) (m : Mb) : (hush at_ m).id = m.id := by unfold hush; split <;> rfl
theorem hush_role (at_ : Int) (m : Mb) : (hush at_ m).role = m.role := by unfold hush; split <;> rfl
theorem sweep_valid {ms : List Mb} {vs : List Iv} {bs : List Bn} (h : RoomV ms vs bs) (at_ : Int) (f : Iv → Bool) (g : Bn → Bool) : RoomV (ms.map (hush at_)) (vs.filter f) (bs.filter g) := by
  have hm : mids (ms.map (hush at_)) = mids ms := by unfold mids; rw [List.map_map]; exact List.map_congr_left fun x _ => hush_id at_ x
  have hi : ∀ x, x ∈ iids (vs.filter f) → x ∈ iids vs := fun x hx => by
    obtain ⟨y, hy, rfl⟩ := List.mem_map.1 hx
    exact List.mem_map_of_mem (List.mem_filter.1 hy).1
  refine ⟨by simpa using h.l1, fun m hm' => ?_, rise_map.1 (by have := rise_map.2 h.r1; rw [show (ms.map (hush at_)).map Mb.id = ms.map Mb.id from hm]; exact this), ?_, Nat.le_trans (List.length_filter_le _ _) h.l2, fun x hx => h.s2 x (List.mem_filter.1 hx).1, h.r2.filter _, fun x hx => by rw [hm]; exact h.d2 x (List.mem_filter.1 hx).1, Nat.le_trans (List.length_filter_le _ _) h.l3, fun x hx => h.s3 x (List.mem_filter.1 hx).1, h.r3.filter _, fun x hx => by rw [hm]; exact ⟨(h.d3 x (List.mem_filter.1 hx).1).1, fun hc => (h.d3 x (List.mem_filter.1 hx).1).2 (hi _ hc)⟩⟩
  · obtain ⟨y, hy, rfl⟩ := List.mem_map.1 hm'
    have := h.s1 y hy
    refine ⟨?_, by rw [hush_id]; exact this.2⟩
    have h1 := this.1
    simp only [mbB, Bool.and_eq_true, hush_role] at h1 ⊢
    unfold hush
    split
    · exact ⟨h1.1, h1.2.1, by simp [tickB]⟩
    · exact h1
  · obtain ⟨m, hm, hr⟩ := h.o1
    exact ⟨hush at_ m, List.mem_map_of_mem hm, by rw [hush_role]; exact hr⟩
theorem sweep_same (o : Bool) (ms : List Mb) (vs : List Iv) (bs : List Bn) (at_ : Int) : changeR ms vs bs (sweepF o ms vs bs at_) = sweepS o ms vs bs at_ := by
  unfold changeR sweepS sweepF
  by_cases hr : roomB ms vs bs = true
  · have hv := roomB_iff.1 hr
    cases ht : tickB at_ with
    | true => simp [hr, rGive_yes (sweep_valid hv at_ _ _)]
    | false => simp [rNo]
  · simp only [Bool.not_eq_true] at hr
    simp [hr]
end Go.Proofs.Yteeodjbionjlmaa
