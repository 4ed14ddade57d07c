import Derived.Test.YtmnmmjobplbflaaGreatDoorJq
namespace Go.Proofs.YtmnmmjobplbflaaGreatDoor
set_option linter.unusedVariables false
theorem filt_yes {α : Type} {f : α → Bool} {xs : List α} {n : Nat} {z : α} (hz : xs[n]? = some z) (h : f z = true) : (xs.take (n + 1)).filter f = (xs.take n).filter f ++ [z] := by
  rw [List.take_add_one, hz]; simp [h]
theorem filt_no {α : Type} {f : α → Bool} {xs : List α} {n : Nat} {z : α} (hz : xs[n]? = some z) (h : f z = false) : (xs.take (n + 1)).filter f = (xs.take n).filter f := by
  rw [List.take_add_one, hz]; simp [h]
theorem filt_len {α : Type} {f : α → Bool} {xs : List α} {n : Nat} : ((xs.take n).filter f).length ≤ n := Nat.le_trans (List.length_filter_le _ _) (List.length_take_le _ _)
/-- the first k members hushed -/
def hushK (at_ : Int) (k : Nat) (ms : List Mb) : List Mb := (ms.take k).map (hush at_) ++ ms.drop k
theorem hushK_len {at_ : Int} {k : Nat} {ms : List Mb} : (hushK at_ k ms).length = ms.length := by simp [hushK]; omega
theorem hushK_zero {at_ : Int} {ms : List Mb} : hushK at_ 0 ms = ms := by simp [hushK]
theorem hushK_all {at_ : Int} {ms : List Mb} : hushK at_ ms.length ms = ms.map (hush at_) := by simp [hushK]
theorem hushK_at {at_ : Int} {k : Nat} {ms : List Mb} {z : Mb} (hz : ms[k]? = some z) : (hushK at_ k ms)[k]? = some z := by
  have hl := (List.getElem?_eq_some_iff.1 hz).1
  unfold hushK
  rw [List.getElem?_append_right (by simp; omega)]
  simp
  rw [show k + (k - min k ms.length) = k by omega]
  exact hz
theorem hushK_step {at_ : Int} {k : Nat} {ms : List Mb} {z : Mb} (hz : ms[k]? = some z) : (hushK at_ k ms).set k (hush at_ z) = hushK at_ (k + 1) ms := by
  obtain ⟨hl, he⟩ := List.getElem?_eq_some_iff.1 hz
  unfold hushK
  rw [List.set_append_right _ _ (by simp; omega)]
  have h1 : (List.map (hush at_) (List.take k ms)).length = k := by simp; omega
  rw [h1, Nat.sub_self, List.take_add_one, hz, List.drop_eq_getElem_cons hl, he]
  simp
theorem hushK_same {at_ : Int} {k : Nat} {ms : List Mb} {z : Mb} (hz : ms[k]? = some z) (h : ¬ z.quiet ≤ at_) : hushK at_ (k + 1) ms = hushK at_ k ms := by
  rw [← hushK_step hz, show hush at_ z = z by simp [hush, h]]
  apply List.ext_getElem?
  intro j
  rw [List.getElem?_set]
  by_cases hj : k = j
  · subst hj
    have h2 := hushK_at (at_ := at_) hz
    rw [if_pos rfl, h2, if_pos (List.getElem?_eq_some_iff.1 h2).1]
  · rw [if_neg hj]
theorem hushK_ids {at_ : Int} {k : Nat} {ms : List Mb} : (hushK at_ k ms).map Mb.id = ms.map Mb.id := by
  unfold hushK
  rw [List.map_append, List.map_map, show (Mb.id ∘ hush at_) = Mb.id from funext fun x => hush_id at_ x, ← List.map_append, List.take_append_drop]
theorem hushK_rise {at_ : Int} {k : Nat} {ms : List Mb} (h : Rise Mb.id ms) : Rise Mb.id (hushK at_ k ms) := by
  rw [← rise_map, hushK_ids]; exact rise_map.2 h
theorem set_alter0 {ms : List Mb} {K : Nat} {m : Mb} (f : Mb → Mb) (hr : Rise Mb.id ms) (hz : ms[K]? = some m) : ms.set K (f m) = alter m.id f ms := by
  apply List.ext_getElem?
  intro j
  rw [List.getElem?_set, alter, List.getElem?_map]
  have hK := (List.getElem?_eq_some_iff.1 hz).1
  by_cases hj : K = j
  · subst hj
    obtain ⟨hl, he⟩ := List.getElem?_eq_some_iff.1 hz
    simp [hl, he]
  · rw [if_neg hj]
    cases hx : ms[j]? with
    | none => rfl
    | some x =>
      have hne : x.id ≠ m.id := by
        obtain ⟨a1, e1⟩ := List.getElem?_eq_some_iff.1 hz
        obtain ⟨a2, e2⟩ := List.getElem?_eq_some_iff.1 hx
        rcases Nat.lt_or_gt_of_ne hj with hl | hl
        · have := List.pairwise_iff_getElem.1 hr K j a1 a2 hl
          rw [e1, e2] at this
          omega
        · have := List.pairwise_iff_getElem.1 hr j K a2 a1 hl
          rw [e1, e2] at this
          omega
      simp [hne]
theorem hushK_put {at_ : Int} {k : Nat} {ms : List Mb} {z : Mb} (hr : Rise Mb.id ms) (hz : ms[k]? = some z) : putK Mb.id (hush at_ z) (hushK at_ k ms) = hushK at_ (k + 1) ms := by
  have hzk := hushK_at (at_ := at_) hz
  have hrk := hushK_rise (at_ := at_) (k := k) hr
  rw [put_alter (hush at_) (hush_id at_) hrk (List.mem_of_getElem? hzk), ← set_alter0 (hush at_) hrk hzk, hushK_step hz]
end Go.Proofs.YtmnmmjobplbflaaGreatDoor
namespace Go.Proofs.YtmnmmjobplbflaaGreatDoor
set_option linter.unusedVariables false
/-- the best of the first i stands at k -/
def BestAt (xs : List Mb) (i k : Nat) : Prop := ∃ m, xs[k]? = some m ∧ bestM (xs.take i) = some m
theorem BestAt.one {xs : List Mb} {x : Mb} (h : xs[0]? = some x) : BestAt xs 1 0 := ⟨x, h, by
  cases xs with
  | nil => simp at h
  | cons y r => simp at h; subst h; rfl⟩
theorem best_take {xs : List Mb} {i : Nat} {m z : Mb} (h : bestM (xs.take i) = some m) (hz : xs[i]? = some z) : bestM (xs.take (i + 1)) = some (stepM m z) := by
  rw [List.take_add_one, hz]
  cases ht : xs.take i with
  | nil => rw [ht] at h; cases h
  | cons y r =>
    rw [ht] at h
    simp only [bestM, Option.some.injEq] at h
    simp only [Option.toList, List.cons_append, bestM, List.foldl_append, List.foldl_cons, List.foldl_nil, h]
theorem BestAt.yes {xs : List Mb} {i k : Nat} {m z : Mb} (h : BestAt xs i k) (hk : xs[k]? = some m) (hz : xs[i]? = some z) (hr : rankLt z m = true) : BestAt xs (i + 1) i := by
  obtain ⟨m', h1, h2⟩ := h
  rw [hk] at h1; cases h1
  exact ⟨z, hz, by rw [best_take h2 hz, stepM, if_pos hr]⟩
theorem BestAt.no {xs : List Mb} {i k : Nat} {m z : Mb} (h : BestAt xs i k) (hk : xs[k]? = some m) (hz : xs[i]? = some z) (hr : rankLt z m = false) : BestAt xs (i + 1) k := by
  obtain ⟨m', h1, h2⟩ := h
  rw [hk] at h1; cases h1
  exact ⟨m, hk, by rw [best_take h2 hz, stepM, if_neg (by rw [hr]; decide)]⟩
theorem BestAt.full {xs : List Mb} {i k : Nat} (h : BestAt xs i k) (hi : xs.length ≤ i) : ∃ m, xs[k]? = some m ∧ bestM xs = some m := by
  obtain ⟨m, h1, h2⟩ := h
  rw [List.take_of_length_le hi] at h2
  exact ⟨m, h1, h2⟩
/-- what the model gives the best one -/
def heirL (xs : List Mb) : Int := if xs.any (fun x => decide (x.role = 3)) then 0 else 3
theorem heir_no {xs : List Mb} (h : ∀ x ∈ xs, x.role ≠ 3) : heirL xs = 3 := by
  rw [heirL, if_neg]
  simp only [List.any_eq_true, decide_eq_true_eq, not_exists, not_and]
  exact h
theorem heir_yes {xs : List Mb} {x : Mb} (h : x ∈ xs) (hr : x.role = 3) : heirL xs = 0 := by
  rw [heirL, if_pos (List.any_eq_true.2 ⟨x, h, by simp [hr]⟩)]
theorem heir_max {xs : List Mb} {m : Mb} (hp : xs.Pairwise fun a b => a.id ≠ b.id) (hb : bestM xs = some m) (hr : ∀ x ∈ xs, 0 ≤ x.role ∧ x.role ≤ 3) : (if heirL xs < m.role then m.role else heirL xs) = 3 := by
  obtain ⟨hm, hall⟩ := best_spec hp hb
  have h1 := hr m hm
  by_cases h : ∃ x ∈ xs, x.role = 3
  · obtain ⟨x, hx, hx3⟩ := h
    rw [heir_yes hx hx3]
    have : m.role = 3 := by
      rcases hall x hx with e | e
      · rw [← e]; exact hx3
      · rw [rankLt_iff] at e; omega
    rw [if_pos (by omega), this]
  · rw [heir_no (fun x hx e => h ⟨x, hx, e⟩), if_neg (by omega)]
end Go.Proofs.YtmnmmjobplbflaaGreatDoor
namespace Go.Proofs.YtmnmmjobplbflaaGreatDoor
set_option linter.unusedVariables false
/-- a greater role than somebody else, whether that one is a member or not -/
def topB (ms : List Mb) (p t : Int) : Bool := decide (p ∈ mids ms) && (!decide (p = t) && (!decide (t ∈ mids ms) || decide (roleAt ms t < roleAt ms p)))
theorem findM_in {ms : List Mb} {t : Int} (h : t ∈ mids ms) : ∃ m, findM ms t = some m := by
  cases hf : findM ms t with
  | none => exact absurd h (findM_none.1 hf)
  | some m => exact ⟨m, rfl⟩
theorem rank_eq {ms : List Mb} {p t : Int} (hp : p ∈ mids ms) : rankB ms p t = (!decide (t ∈ mids ms) || decide (roleAt ms t < roleAt ms p)) := by
  obtain ⟨b, hb⟩ := findM_in hp
  cases hf : findM ms t with
  | none => simp [rankB, hf, findM_none.1 hf]
  | some m => simp [rankB, roleAt, hf, hb, findM_mem hf]
theorem allow_out {ms : List Mb} {p a at_ : Int} (hp : ¬ p ∈ mids ms) : allowB ms p a at_ = false := by
  rw [← Bool.not_eq_true]; intro h; exact hp (allow_mem h)
theorem above_top {ms : List Mb} {vs : List Iv} {bs : List Bn} (h : RoomV ms vs bs) {p t a at_ : Int} (ht : idB t = true) : aboveB ms vs bs p t a at_ = (topB ms p t && allowB ms p a at_) := by
  unfold aboveB topB
  by_cases hp : p ∈ mids ms
  · rw [rank_eq hp, roomB_iff.2 h, ht, decide_eq_true hp]
    cases decide (p = t) <;> cases allowB ms p a at_ <;> cases decide (t ∈ mids ms) <;> cases decide (roleAt ms t < roleAt ms p) <;> rfl
  · rw [allow_out hp, decide_eq_false hp]
    simp
theorem find_alter {t : Int} {f : Mb → Mb} (hf : ∀ x, (f x).id = x.id) (ms : List Mb) : findM (alter t f ms) t = (findM ms t).map f := by
  unfold findM alter
  induction ms with
  | nil => rfl
  | cons x r ih =>
    rw [List.map_cons, List.find?_cons, List.find?_cons]
    by_cases e : x.id = t
    · simp [e, hf]
    · simp only [e, if_false, decide_false]; exact ih
theorem find_drop {ms : List Mb} {p t : Int} (h : p ≠ t) : findM (dropK Mb.id t ms) p = findM ms p := by
  unfold findM dropK
  induction ms with
  | nil => rfl
  | cons x r ih =>
    rw [List.filter_cons, List.find?_cons]
    by_cases e : x.id = t
    · rw [if_neg (by simp [e]), ih]
      have : decide (x.id = p) = false := decide_eq_false (by omega)
      rw [this]
    · rw [if_pos (by simp [e]), List.find?_cons, ih]
theorem role_le {ms : List Mb} {vs : List Iv} {bs : List Bn} (h : RoomV ms vs bs) {p : Int} (hp : p ∈ mids ms) : 0 ≤ roleAt ms p ∧ roleAt ms p ≤ 3 := by
  obtain ⟨b, hb⟩ := findM_in hp
  have := (h.s1 b (findM_some hb).1).1
  simp only [mbB, roleB, Bool.and_eq_true, decide_eq_true_eq] at this
  simp only [roleAt, hb]; exact this.1
theorem role_mem {ms : List Mb} (hr : Rise Mb.id ms) {m : Mb} (hm : m ∈ ms) : roleAt ms m.id = m.role := by
  have := Rise_find hr hm
  simp only [roleAt, findM, this]
theorem top_facts {ms : List Mb} {p t : Int} (h : topB ms p t = true) : p ∈ mids ms ∧ p ≠ t ∧ (t ∈ mids ms → roleAt ms t < roleAt ms p) := by
  simp only [topB, Bool.and_eq_true, Bool.or_eq_true, Bool.not_eq_true', decide_eq_true_eq, decide_eq_false_iff_not] at h
  refine ⟨h.1, h.2.1, fun ht => ?_⟩
  rcases h.2.2 with h | h
  · exact absurd ht h
  · exact h
section
variable {o : Bool} {ms : List Mb} {vs : List Iv} {bs : List Bn} {p t til at_ r : Int}
theorem mute_ok' (h : RoomV ms vs bs) (ht : idB t = true) (hl : tickB til = true) : (muteS o ms vs bs p t til at_).ok = (topB ms p t && (decide (t ∈ mids ms) && allowB ms p 4 at_)) := by
  unfold muteS
  rw [above_top h ht, hl]
  cases topB ms p t <;> cases allowB ms p 4 at_ <;> cases decide (t ∈ mids ms) <;> simp [rNo]
theorem mute_after (h : RoomV ms vs bs) (ht : idB t = true) (hl : tickB til = true) {a2 : Int} (hok : (muteS o ms vs bs p t til at_).ok = true) (hx : a2 < til) :
    roomB (muteS o ms vs bs p t til at_).ms (muteS o ms vs bs p t til at_).vs (muteS o ms vs bs p t til at_).bs = true ∧ allowB (muteS o ms vs bs p t til at_).ms t 1 a2 = false := by
  have hc : (aboveB ms vs bs p t 4 at_ && decide (t ∈ mids ms) && tickB til) = true := by
    unfold muteS at hok
    by_cases hc : (aboveB ms vs bs p t 4 at_ && decide (t ∈ mids ms) && tickB til) = true
    · exact hc
    · rw [if_neg hc] at hok; cases hok
  have e : muteS o ms vs bs p t til at_ = ⟨o, alter t (fun m => { m with quiet := til }) ms, vs, bs, true⟩ := by unfold muteS; rw [if_pos hc]; rfl
  rw [e]
  refine ⟨roomB_iff.2 (alter_valid (f := fun m => { m with quiet := til }) (fun _ => rfl) h (fun x hx => ?_) (fun _ _ => rfl)), ?_⟩
  · have := (h.s1 x hx).1
    simp only [mbB, Bool.and_eq_true] at this ⊢
    exact ⟨this.1, this.2.1, hl⟩
  · show allowB (alter t (fun m => { m with quiet := til }) ms) t 1 a2 = false
    unfold allowB
    rw [find_alter (f := fun m => { m with quiet := til }) (fun _ => rfl)]
    cases findM ms t with
    | none => simp
    | some m => simp; intros; omega
theorem alter_valid' {f : Mb → Mb} (hf : ∀ x, (f x).id = x.id) (h : RoomV ms vs bs) (hs : ∀ x ∈ ms, mbB (f x) = true) (ho : ∃ m ∈ ms, m.role = 3 ∧ m.id ≠ t) : RoomV (alter t f ms) vs bs := by
  have hm := alter_mids (t := t) hf ms
  refine { h with l1 := by simpa [alter] using h.l1, s1 := fun x hx => ?_, r1 := rise_map.1 (by have := rise_map.2 h.r1; rw [show (alter t f ms).map Mb.id = ms.map Mb.id from hm]; exact this), o1 := ?_, d2 := fun x hx => by rw [hm]; exact h.d2 x hx, d3 := fun x hx => by rw [hm]; exact h.d3 x hx }
  · obtain ⟨y, hy, rfl⟩ := List.mem_map.1 hx
    by_cases e : y.id = t
    · rw [if_pos e]; exact ⟨hs y hy, by rw [hf]; exact (h.s1 y hy).2⟩
    · rw [if_neg e]; exact h.s1 y hy
  · obtain ⟨m, hm, hr, hne⟩ := ho
    exact ⟨m, List.mem_map.2 ⟨m, hm, by rw [if_neg hne]⟩, hr⟩
theorem role_ok' (h : RoomV ms vs bs) (ht : idB t = true) (hr : roleB r = true) : (roleS o ms vs bs p t r at_).ok = (topB ms p t && (decide (t ∈ mids ms) && allowB ms p 7 at_)) ∧
    ((roleS o ms vs bs p t r at_).ok = true → roomB (roleS o ms vs bs p t r at_).ms (roleS o ms vs bs p t r at_).vs (roleS o ms vs bs p t r at_).bs = true ∧ t ∈ mids (roleS o ms vs bs p t r at_).ms ∧ roleAt (roleS o ms vs bs p t r at_).ms t = r) := by
  by_cases hc : (aboveB ms vs bs p t 7 at_ && decide (t ∈ mids ms) && roleB r) = true
  · have hv : RoomV (alter t (fun m => { m with role := r }) ms) vs bs := by
      simp only [above_top h ht, Bool.and_eq_true, decide_eq_true_eq] at hc
      obtain ⟨⟨⟨h1, h2⟩, h3⟩, _⟩ := hc
      obtain ⟨hp, hne, _⟩ := top_facts h1
      obtain ⟨b, hb⟩ := findM_in hp
      obtain ⟨hbm, hbi⟩ := findM_some hb
      refine alter_valid' (f := fun m => { m with role := r }) (fun _ => rfl) h (fun x hx => ?_) ⟨b, hbm, ?_, by omega⟩
      · have := (h.s1 x hx).1
        simp only [mbB, Bool.and_eq_true] at this ⊢
        exact ⟨hr, this.2⟩
      · simp only [allowB, hb, mayB, leastL, Bool.and_eq_true, decide_eq_true_eq] at h2
        have h4 := h2.2.1
        simp at h4
        omega
    have e : roleS o ms vs bs p t r at_ = ⟨o, alter t (fun m => { m with role := r }) ms, vs, bs, true⟩ := by
      unfold roleS; rw [if_pos hc]; exact rGive_yes hv
    rw [e]
    simp only [above_top h ht, Bool.and_eq_true, decide_eq_true_eq] at hc
    refine ⟨by simp [hc.1.1.1, hc.1.1.2, hc.1.2], fun _ => ⟨roomB_iff.2 hv, ?_, ?_⟩⟩
    · rw [alter_mids (f := fun m => { m with role := r }) (fun _ => rfl)]; exact hc.1.2
    · unfold roleAt
      rw [find_alter (f := fun m => { m with role := r }) (fun _ => rfl)]
      obtain ⟨m, hm⟩ := findM_in hc.1.2
      rw [hm]; rfl
  · have e : roleS o ms vs bs p t r at_ = rNo := by unfold roleS; rw [if_neg hc]
    rw [e]
    refine ⟨?_, fun hh => by cases hh⟩
    rw [above_top h ht, hr] at hc
    cases h1 : topB ms p t <;> cases h2 : allowB ms p 7 at_ <;> cases h3 : decide (t ∈ mids ms) <;> first | rfl | (exfalso; exact hc (by simp [h1, h2, h3]))
theorem insR_len {α : Type} {k : α → Int} {x : α} : ∀ {xs : List α}, (insK k x xs).length = xs.length + 1
  | [] => rfl
  | y :: r => by
    rw [insK]
    split
    · rfl
    · rw [List.length_cons, insR_len, List.length_cons]
theorem mids_ins {m : Mb} {x : Int} : x ∈ mids (insK Mb.id m ms) ↔ x = m.id ∨ x ∈ mids ms := by
  simp only [mids, List.mem_map, ins_mem]
  constructor
  · rintro ⟨y, rfl | hy, rfl⟩
    · exact .inl rfl
    · exact .inr ⟨y, hy, rfl⟩
  · rintro (rfl | ⟨y, hy, rfl⟩)
    · exact ⟨m, .inl rfl, rfl⟩
    · exact ⟨y, .inr hy, rfl⟩
theorem join_valid (h : RoomV ms vs bs) (hl : ms.length < 32) (ht : idB t = true) (ha : tickB at_ = true) (hm : ¬ t ∈ mids ms) (hb : ¬ t ∈ bids bs) : RoomV (insK Mb.id ⟨t, 1, at_, 0⟩ ms) (dropK Iv.id t vs) bs := by
  refine ⟨by rw [insR_len]; omega, fun m hm' => ?_, ins_rise h.r1 fun y hy e => hm (by have e' : y.id = t := e; rw [← e']; exact List.mem_map_of_mem hy), ?_, Nat.le_trans drop_len h.l2, fun x hx => h.s2 x (drop_mem.1 hx).1, drop_rise h.r2, fun x hx => ?_, h.l3, h.s3, h.r3, fun x hx => ⟨?_, fun hc => (h.d3 x hx).2 ?_⟩⟩
  · rcases ins_mem.1 hm' with rfl | hm'
    · exact ⟨by simp [mbB, roleB, tickB]; simpa [tickB] using ha, ht⟩
    · exact h.s1 m hm'
  · obtain ⟨m, hm, hr⟩ := h.o1
    exact ⟨m, ins_mem.2 (.inr hm), hr⟩
  · obtain ⟨hx1, hx2⟩ := drop_mem.1 hx
    rw [mids_ins]
    rintro (e | e)
    · exact hx2 e
    · exact h.d2 x hx1 e
  · rw [mids_ins]
    rintro (e | e)
    · exact hb (by rw [← show x.id = t from e]; exact List.mem_map_of_mem hx)
    · exact (h.d3 x hx).1 e
  · obtain ⟨y, hy, e⟩ := List.mem_map.1 hc
    rw [← e]; exact List.mem_map_of_mem (drop_mem.1 hy).1
theorem join_eq (h : RoomV ms vs bs) (hl : ms.length < 32) (ht : idB t = true) (ha : tickB at_ = true) :
    joinS o ms vs bs t at_ = if (!decide (t ∈ mids ms) && (!decide (t ∈ bids bs) && doorB o vs t at_)) = true then ⟨o, insK Mb.id ⟨t, 1, at_, 0⟩ ms, dropK Iv.id t vs, bs, true⟩ else rNo := by
  unfold joinS
  rw [roomB_iff.2 h, ht, ha]
  by_cases hm : t ∈ mids ms
  · simp [hm]
  · by_cases hb : t ∈ bids bs
    · simp [hb]
    · cases hd : doorB o vs t at_ with
      | false => simp
      | true =>
        simp only [hm, hb, decide_false, Bool.not_false, Bool.and_self, if_true]
        exact rGive_yes (join_valid h hl ht ha hm hb)
theorem putR_len {α : Type} {k : α → Int} {x : α} {xs : List α} : (putK k x xs).length ≤ xs.length + 1 := by
  unfold putK; rw [insR_len]; have := drop_len (k := k) (t := k x) (xs := xs); omega
theorem bids_put {b : Bn} {x : Int} : x ∈ bids (putK Bn.id b bs) ↔ x = b.id ∨ x ∈ bids bs := by
  simp only [bids, List.mem_map, put_mem]
  constructor
  · rintro ⟨y, rfl | hy, rfl⟩
    · exact .inl rfl
    · exact .inr ⟨y, hy.1, rfl⟩
  · rintro (rfl | ⟨y, hy, rfl⟩)
    · exact ⟨b, .inl rfl, rfl⟩
    · by_cases e : y.id = b.id
      · exact ⟨b, .inl rfl, e.symm⟩
      · exact ⟨y, .inr ⟨hy, e⟩, rfl⟩
/-- what a ban leaves -/
def bannedR (o : Bool) (ms : List Mb) (vs : List Iv) (bs : List Bn) (t til : Int) : ROut := ⟨o, dropK Mb.id t ms, dropK Iv.id t vs, putK Bn.id ⟨t, til⟩ bs, true⟩
theorem ban_valid (h : RoomV ms vs bs) (hf : bs.length ≤ 6) (ht : idB t = true) (hl : tickB til = true) (htop : topB ms p t = true) : RoomV (dropK Mb.id t ms) (dropK Iv.id t vs) (putK Bn.id ⟨t, til⟩ bs) := by
  obtain ⟨hp, hne, hlt⟩ := top_facts htop
  refine ⟨Nat.le_trans drop_len h.l1, fun m hm => h.s1 m (drop_mem.1 hm).1, drop_rise h.r1, ?_, Nat.le_trans drop_len h.l2, fun x hx => h.s2 x (drop_mem.1 hx).1, drop_rise h.r2, fun x hx => by rw [mids_drop]; exact fun hc => h.d2 x (drop_mem.1 hx).1 hc.1, by have := putR_len (k := Bn.id) (x := ⟨t, til⟩) (xs := bs); omega, fun x hx => ?_, put_rise h.r3, fun x hx => ?_⟩
  · obtain ⟨m, hm, hr⟩ := h.o1
    refine ⟨m, drop_mem.2 ⟨hm, fun e => ?_⟩, hr⟩
    have ht' : t ∈ mids ms := by rw [← e]; exact List.mem_map_of_mem hm
    have h1 := hlt ht'
    have h2 := role_mem h.r1 hm
    rw [e] at h2
    have := (role_le h hp).2
    omega
  · rcases put_mem.1 hx with rfl | ⟨hx, _⟩
    · exact ⟨by simpa [bnB] using hl, ht⟩
    · exact h.s3 x hx
  · rcases put_mem.1 hx with rfl | ⟨hx, _⟩
    · refine ⟨by rw [mids_drop]; exact fun hc => hc.2 rfl, fun hc => ?_⟩
      obtain ⟨y, hy, e⟩ := List.mem_map.1 hc
      exact (drop_mem.1 hy).2 e
    · refine ⟨by rw [mids_drop]; exact fun hc => (h.d3 x hx).1 hc.1, fun hc => ?_⟩
      obtain ⟨y, hy, e⟩ := List.mem_map.1 hc
      exact (h.d3 x hx).2 (by rw [← e]; exact List.mem_map_of_mem (drop_mem.1 hy).1)
theorem ban_eq (h : RoomV ms vs bs) (hf : bs.length ≤ 6) (ht : idB t = true) (hl : tickB til = true) (hx : ¬ til < at_) :
    banS o ms vs bs p t til at_ = if (topB ms p t && allowB ms p 6 at_) = true then bannedR o ms vs bs t til else rNo := by
  unfold banS
  rw [above_top h ht, hl, decide_eq_false hx]
  simp only [Bool.and_true, Bool.not_false]
  by_cases hc : (topB ms p t && allowB ms p 6 at_) = true
  · rw [if_pos hc, if_pos hc]
    simp only [Bool.and_eq_true] at hc
    exact rGive_yes (ban_valid h hf ht hl hc.1)
  · rw [if_neg hc, if_neg hc]
theorem top_drop (h : topB ms p t = true) : topB (dropK Mb.id t ms) p t = true := by
  obtain ⟨hp, hne, _⟩ := top_facts h
  have h1 : p ∈ mids (dropK Mb.id t ms) := mids_drop.2 ⟨hp, hne⟩
  have h2 : ¬ t ∈ mids (dropK Mb.id t ms) := fun hc => (mids_drop.1 hc).2 rfl
  simp [topB, h1, h2, hne]
theorem allow_drop {a : Int} (hne : p ≠ t) : allowB (dropK Mb.id t ms) p a at_ = allowB ms p a at_ := by
  unfold allowB; rw [find_drop hne]
theorem inv_banned (h : RoomV ms vs bs) {q u v : Int} (hb : t ∈ bids bs) : (inviteS o ms vs bs q t u v).ok = false := by
  unfold inviteS
  rw [if_neg (by simp [hb])]
  rfl
theorem join_banned {v : Int} (hb : t ∈ bids bs) : (joinS o ms vs bs t v).ok = false := by
  unfold joinS
  rw [if_neg (by simp [hb])]
  rfl
theorem lift_eq (h : RoomV ms vs bs) (ht : idB t = true) (htop : topB ms p t = true) (ha : allowB ms p 6 at_ = true) (hb : t ∈ bids bs) : liftS o ms vs bs p t at_ = ⟨o, ms, vs, dropK Bn.id t bs, true⟩ := by
  unfold liftS
  rw [above_top h ht, htop, ha]
  simp [hb]
/-- who was banned and let off comes in where the room is open -/
theorem back_eq (h : RoomV ms vs bs) (hl : ms.length < 32) (ht : idB t = true) (ha : tickB at_ = true) (hm : ¬ t ∈ mids ms) (hv : ¬ t ∈ iids vs) : (joinS o ms vs (dropK Bn.id t bs) t at_).ok = o := by
  have hb : ¬ t ∈ bids (dropK Bn.id t bs) := fun hc => by
    obtain ⟨y, hy, e⟩ := List.mem_map.1 hc
    exact (drop_mem.1 hy).2 e
  rw [join_eq (lift_valid h t) hl ht ha]
  have hd : doorB o vs t at_ = o := by
    have : findI vs t = none := findK_none hv
    simp [doorB, this]
  rw [hd]
  cases o <;> simp [hm, hb, rNo]
end
end Go.Proofs.YtmnmmjobplbflaaGreatDoor
namespace Go.Proofs.YtmnmmjobplbflaaGreatDoor
set_option linter.unusedVariables false
theorem hush_two (at_ : Int) (m : Mb) : hush at_ (hush at_ m) = hush at_ m := by
  by_cases h : m.quiet ≤ at_
  · simp [hush, h]
  · simp [hush, h]
def swI (at_ : Int) (vs : List Iv) : List Iv := vs.filter fun x => !decide (x.til < at_)
def swB (at_ : Int) (bs : List Bn) : List Bn := bs.filter fun x => !decide (x.til < at_)
section
variable {o : Bool} {ms : List Mb} {vs : List Iv} {bs : List Bn} {t at_ : Int}
theorem sweep_eq (h : RoomV ms vs bs) (ht : tickB at_ = true) : sweepS o ms vs bs at_ = ⟨o, ms.map (hush at_), swI at_ vs, swB at_ bs, true⟩ := by
  unfold sweepS
  rw [if_pos (by rw [roomB_iff.2 h, ht]; rfl)]
  rfl
theorem swept_valid (h : RoomV ms vs bs) : RoomV (ms.map (hush at_)) (swI at_ vs) (swB at_ bs) := sweep_valid h at_ _ _
theorem swI_two : swI at_ (swI at_ vs) = swI at_ vs := by
  unfold swI
  rw [List.filter_filter]
  simp
theorem swB_two : swB at_ (swB at_ bs) = swB at_ bs := by
  unfold swB
  rw [List.filter_filter]
  simp
theorem sweep_two (h : RoomV ms vs bs) (ht : tickB at_ = true) : sweepS o (ms.map (hush at_)) (swI at_ vs) (swB at_ bs) at_ = ⟨o, ms.map (hush at_), swI at_ vs, swB at_ bs, true⟩ := by
  have e1 : (ms.map (hush at_)).map (hush at_) = ms.map (hush at_) := by
    rw [List.map_map]
    exact List.map_congr_left fun x _ => hush_two at_ x
  rw [sweep_eq (swept_valid h) ht, e1, swI_two, swB_two]
theorem swI_at {k : Nat} {z : Iv} (h : (swI at_ vs)[k]? = some z) : ¬ z.til < at_ := by
  have := (List.mem_filter.1 (List.mem_of_getElem? h)).2
  simpa using this
theorem swB_at {k : Nat} {z : Bn} (h : (swB at_ bs)[k]? = some z) : ¬ z.til < at_ := by
  have := (List.mem_filter.1 (List.mem_of_getElem? h)).2
  simpa using this
theorem find_hush : findM (ms.map (hush at_)) t = (findM ms t).map (hush at_) := by
  unfold findM
  rw [List.find?_map]
  have e : ((fun x : Mb => decide (x.id = t)) ∘ hush at_) = fun x : Mb => decide (x.id = t) := by
    funext x
    have := hush_id at_ x
    show decide ((hush at_ x).id = t) = _
    rw [show (hush at_ x).id = x.id from this]
  rw [e]
theorem allow_hush {a : Int} (ht : tickB at_ = true) : allowB (ms.map (hush at_)) t a at_ = allowB ms t a at_ := by
  have h0 : 0 ≤ at_ := by simp [tickB] at ht; omega
  unfold allowB
  rw [find_hush]
  cases findM ms t with
  | none => rfl
  | some m =>
    have e1 : (hush at_ m).role = m.role := by unfold hush; split <;> rfl
    have e2 : decide ((hush at_ m).quiet ≤ at_) = decide (m.quiet ≤ at_) := by
      by_cases h : m.quiet ≤ at_
      · simp [hush, h, h0]
      · simp [hush, h]
    show (tickB at_ && (mayB (hush at_ m).role a && (decide ((hush at_ m).quiet ≤ at_) || decide (a = 0)))) = (tickB at_ && (mayB m.role a && (decide (m.quiet ≤ at_) || decide (a = 0))))
    rw [e1, e2]
/-- the members by their ranks are a list of all members that falls -/
theorem rank_list (h : RoomV ms vs bs) : ∃ ys : List Mb, rankL ms.length ms = ys ∧ ys.Perm ms ∧ ys.Pairwise fun a b => rankLt b a = false := by
  have hp := rise_ne h.r1
  have hq := List.mergeSort_perm ms (fun a b => !rankLt b a)
  have ht : ∀ a b c : Mb, (!rankLt b a) = true → (!rankLt c b) = true → (!rankLt c a) = true := by
    intro a b c h1 h2
    simp only [Bool.not_eq_true', Bool.eq_false_iff, ne_eq, rankLt_iff] at h1 h2 ⊢
    omega
  have hto : ∀ a b : Mb, ((!rankLt b a) || (!rankLt a b)) = true := by
    intro a b
    simp only [Bool.or_eq_true, Bool.not_eq_true', Bool.eq_false_iff, ne_eq, rankLt_iff]
    omega
  have hs : (ms.mergeSort fun a b => !rankLt b a).Pairwise fun a b => (!rankLt b a) = true := by
    first
      | exact List.pairwise_mergeSort ht hto ms
      | exact List.sorted_mergeSort ht hto ms
  have hs' := hs.imp (S := fun a b => rankLt b a = false) (by intro a b hab; simpa using hab)
  have hk := rankL_sorted _ ms hp hq hs'
  rw [hq.length_eq] at hk
  exact ⟨_, hk, hq, hs'⟩
def lastK (ys : List Mb) : Nat → Int
  | 0 => 3
  | k + 1 => match ys[k]? with | some m => m.role | none => 3
theorem rank_at {ys : List Mb} {k : Nat} {z : Mb} (h : RoomV ms vs bs) (hq : ys.Perm ms) (hs : ys.Pairwise fun a b => rankLt b a = false) (hz : ys[k]? = some z) :
    z.id ∈ mids ms ∧ roleAt ms z.id = z.role ∧ z.role ≤ lastK ys k ∧ lastK ys (k + 1) = z.role ∧ 1 ≤ z.id ∧ z.id ≤ 1000 := by
  have hm : z ∈ ms := hq.mem_iff.1 (List.mem_of_getElem? hz)
  have h1 := h.s1 z hm
  have hb : (0 ≤ z.role ∧ z.role ≤ 3) ∧ 1 ≤ z.id ∧ z.id ≤ 1000 := by
    have a := h1.1
    have b := h1.2
    simp only [mbB, roleB, Bool.and_eq_true, decide_eq_true_eq] at a
    simp only [idB, decide_eq_true_eq] at b
    exact ⟨a.1, b⟩
  refine ⟨List.mem_map_of_mem hm, role_mem h.r1 hm, ?_, ?_, hb.2.1, hb.2.2⟩
  · cases k with
    | zero => exact hb.1.2
    | succ k =>
      obtain ⟨hl, he⟩ := List.getElem?_eq_some_iff.1 hz
      have hl' : k < ys.length := by omega
      have := List.pairwise_iff_getElem.1 hs k (k + 1) hl' hl (by omega)
      rw [he] at this
      have hn : ¬ rankLt z ys[k] = true := by rw [this]; simp
      rw [rankLt_iff] at hn
      show z.role ≤ (match ys[k]? with | some m => m.role | none => 3)
      rw [List.getElem?_eq_getElem hl']
      show z.role ≤ ys[k].role
      omega
  · show (match ys[k]? with | some m => m.role | none => 3) = z.role
    rw [hz]
end
end Go.Proofs.YtmnmmjobplbflaaGreatDoor
