import Derived.Test.YtmnmmjobplbflaaGreatDoorJq
namespace Go.Proofs.YtmnmmjobplbflaaGreatDoor
set_option linter.unusedVariables false
/-- a greater role than somebody else, whether that one is a member or not -/
def topB (ms : List Mb) (p t : Int) : Bool := decide (p ∈ mids ms) && (!decide (p = t) && (!decide (t ∈ mids ms) || decide (roleAt ms t < roleAt ms p)))
theorem findM_in {ms : List Mb} {t : Int} (h : t ∈ mids ms) : ∃ m, findM ms t = some m := by
  cases hf : findM ms t with
  | none => exact absurd h (findM_none.1 hf)
  | some m => exact ⟨m, rfl⟩
theorem rank_eq {ms : List Mb} {p t : Int} (hp : p ∈ mids ms) : rankB ms p t = (!decide (t ∈ mids ms) || decide (roleAt ms t < roleAt ms p)) := by
  obtain ⟨b, hb⟩ := findM_in hp
  cases hf : findM ms t with
  | none => simp [rankB, hf, findM_none.1 hf]
  | some m => simp [rankB, roleAt, hf, hb, findM_mem hf]
theorem allow_out {ms : List Mb} {p a at_ : Int} (hp : ¬ p ∈ mids ms) : allowB ms p a at_ = false := by
  rw [← Bool.not_eq_true]; intro h; exact hp (allow_mem h)
theorem above_top {ms : List Mb} {vs : List Iv} {bs : List Bn} (h : RoomV ms vs bs) {p t a at_ : Int} (ht : idB t = true) : aboveB ms vs bs p t a at_ = (topB ms p t && allowB ms p a at_) := by
  unfold aboveB topB
  by_cases hp : p ∈ mids ms
  · rw [rank_eq hp, roomB_iff.2 h, ht, decide_eq_true hp]
    cases decide (p = t) <;> cases allowB ms p a at_ <;> cases decide (t ∈ mids ms) <;> cases decide (roleAt ms t < roleAt ms p) <;> rfl
  · rw [allow_out hp, decide_eq_false hp]
    simp
theorem find_alter {t : Int} {f : Mb → Mb} (hf : ∀ x, (f x).id = x.id) (ms : List Mb) : findM (alter t f ms) t = (findM ms t).map f := by
  unfold findM alter
  induction ms with
  | nil => rfl
  | cons x r ih =>
    rw [List.map_cons, List.find?_cons, List.find?_cons]
    by_cases e : x.id = t
    · simp [e, hf]
    · simp only [e, if_false, decide_false]; exact ih
theorem find_drop {ms : List Mb} {p t : Int} (h : p ≠ t) : findM (dropK Mb.id t ms) p = findM ms p := by
  unfold findM dropK
  induction ms with
  | nil => rfl
  | cons x r ih =>
    rw [List.filter_cons, List.find?_cons]
    by_cases e : x.id = t
    · rw [if_neg (by simp [e]), ih]
      have : decide (x.id = p) = false := decide_eq_false (by omega)
      rw [this]
    · rw [if_pos (by simp [e]), List.find?_cons, ih]
theorem role_le {ms : List Mb} {vs : List Iv} {bs : List Bn} (h : RoomV ms vs bs) {p : Int} (hp : p ∈ mids ms) : 0 ≤ roleAt ms p ∧ roleAt ms p ≤ 3 := by
  obtain ⟨b, hb⟩ := findM_in hp
  have := (h.s1 b (findM_some hb).1).1
  simp only [mbB, roleB, Bool.and_eq_true, decide_eq_true_eq] at this
  simp only [roleAt, hb]; exact this.1
theorem role_mem {ms : List Mb} (hr : Rise Mb.id ms) {m : Mb} (hm : m ∈ ms) : roleAt ms m.id = m.role := by
  have := Rise_find hr hm
  simp only [roleAt, findM, this]
theorem top_facts {ms : List Mb} {p t : Int} (h : topB ms p t = true) : p ∈ mids ms ∧ p ≠ t ∧ (t ∈ mids ms → roleAt ms t < roleAt ms p) := by
  simp only [topB, Bool.and_eq_true, Bool.or_eq_true, Bool.not_eq_true', decide_eq_true_eq, decide_eq_false_iff_not] at h
  refine ⟨h.1, h.2.1, fun ht => ?_⟩
  rcases h.2.2 with h | h
  · exact absurd ht h
  · exact h
section
variable {o : Bool} {ms : List Mb} {vs : List Iv} {bs : List Bn} {p t til at_ r : Int}
theorem mute_ok' (h : RoomV ms vs bs) (ht : idB t = true) (hl : tickB til = true) : (muteS o ms vs bs p t til at_).ok = (topB ms p t && (decide (t ∈ mids ms) && allowB ms p 4 at_)) := by
  unfold muteS
  rw [above_top h ht, hl]
  cases topB ms p t <;> cases allowB ms p 4 at_ <;> cases decide (t ∈ mids ms) <;> simp [rNo]
theorem mute_after (h : RoomV ms vs bs) (ht : idB t = true) (hl : tickB til = true) {a2 : Int} (hok : (muteS o ms vs bs p t til at_).ok = true) (hx : a2 < til) :
    roomB (muteS o ms vs bs p t til at_).ms (muteS o ms vs bs p t til at_).vs (muteS o ms vs bs p t til at_).bs = true ∧ allowB (muteS o ms vs bs p t til at_).ms t 1 a2 = false := by
  have hc : (aboveB ms vs bs p t 4 at_ && decide (t ∈ mids ms) && tickB til) = true := by
    unfold muteS at hok
    by_cases hc : (aboveB ms vs bs p t 4 at_ && decide (t ∈ mids ms) && tickB til) = true
    · exact hc
    · rw [if_neg hc] at hok; cases hok
  have e : muteS o ms vs bs p t til at_ = ⟨o, alter t (fun m => { m with quiet := til }) ms, vs, bs, true⟩ := by unfold muteS; rw [if_pos hc]; rfl
  rw [e]
  refine ⟨roomB_iff.2 (alter_valid (f := fun m => { m with quiet := til }) (fun _ => rfl) h (fun x hx => ?_) (fun _ _ => rfl)), ?_⟩
  · have := (h.s1 x hx).1
    simp only [mbB, Bool.and_eq_true] at this ⊢
    exact ⟨this.1, this.2.1, hl⟩
  · show allowB (alter t (fun m => { m with quiet := til }) ms) t 1 a2 = false
    unfold allowB
    rw [find_alter (f := fun m => { m with quiet := til }) (fun _ => rfl)]
    cases findM ms t with
    | none => simp
    | some m => simp; intros; omega
theorem alter_valid' {f : Mb → Mb} (hf : ∀ x, (f x).id = x.id) (h : RoomV ms vs bs) (hs : ∀ x ∈ ms, mbB (f x) = true) (ho : ∃ m ∈ ms, m.role = 3 ∧ m.id ≠ t) : RoomV (alter t f ms) vs bs := by
  have hm := alter_mids (t := t) hf ms
  refine { h with l1 := by simpa [alter] using h.l1, s1 := fun x hx => ?_, r1 := rise_map.1 (by have := rise_map.2 h.r1; rw [show (alter t f ms).map Mb.id = ms.map Mb.id from hm]; exact this), o1 := ?_, d2 := fun x hx => by rw [hm]; exact h.d2 x hx, d3 := fun x hx => by rw [hm]; exact h.d3 x hx }
  · obtain ⟨y, hy, rfl⟩ := List.mem_map.1 hx
    by_cases e : y.id = t
    · rw [if_pos e]; exact ⟨hs y hy, by rw [hf]; exact (h.s1 y hy).2⟩
    · rw [if_neg e]; exact h.s1 y hy
  · obtain ⟨m, hm, hr, hne⟩ := ho
    exact ⟨m, List.mem_map.2 ⟨m, hm, by rw [if_neg hne]⟩, hr⟩
theorem role_ok' (h : RoomV ms vs bs) (ht : idB t = true) (hr : roleB r = true) : (roleS o ms vs bs p t r at_).ok = (topB ms p t && (decide (t ∈ mids ms) && allowB ms p 7 at_)) ∧
    ((roleS o ms vs bs p t r at_).ok = true → roomB (roleS o ms vs bs p t r at_).ms (roleS o ms vs bs p t r at_).vs (roleS o ms vs bs p t r at_).bs = true ∧ t ∈ mids (roleS o ms vs bs p t r at_).ms ∧ roleAt (roleS o ms vs bs p t r at_).ms t = r) := by
  by_cases hc : (aboveB ms vs bs p t 7 at_ && decide (t ∈ mids ms) && roleB r) = true
  · have hv : RoomV (alter t (fun m => { m with role := r }) ms) vs bs := by
      simp only [above_top h ht, Bool.and_eq_true, decide_eq_true_eq] at hc
      obtain ⟨⟨⟨h1, h2⟩, h3⟩, _⟩ := hc
      obtain ⟨hp, hne, _⟩ := top_facts h1
      obtain ⟨b, hb⟩ := findM_in hp
      obtain ⟨hbm, hbi⟩ := findM_some hb
      refine alter_valid' (f := fun m => { m with role := r }) (fun _ => rfl) h (fun x hx => ?_) ⟨b, hbm, ?_, by omega⟩
      · have := (h.s1 x hx).1
        simp only [mbB, Bool.and_eq_true] at this ⊢
        exact ⟨hr, this.2⟩
      · simp only [allowB, hb, mayB, leastL, Bool.and_eq_true, decide_eq_true_eq] at h2
        have h4 := h2.2.1
        simp at h4
        omega
    have e : roleS o ms vs bs p t r at_ = ⟨o, alter t (fun m => { m with role := r }) ms, vs, bs, true⟩ := by
      unfold roleS; rw [if_pos hc]; exact rGive_yes hv
    rw [e]
    simp only [above_top h ht, Bool.and_eq_true, decide_eq_true_eq] at hc
    refine ⟨by simp [hc.1.1.1, hc.1.1.2, hc.1.2], fun _ => ⟨roomB_iff.2 hv, ?_, ?_⟩⟩
    · rw [alter_mids (f := fun m => { m with role := r }) (fun _ => rfl)]; exact hc.1.2
    · unfold roleAt
      rw [find_alter (f := fun m => { m with role := r }) (fun _ => rfl)]
      obtain ⟨m, hm⟩ := findM_in hc.1.2
      rw [hm]; rfl
  · have e : roleS o ms vs bs p t r at_ = rNo := by unfold roleS; rw [if_neg hc]
    rw [e]
    refine ⟨?_, fun hh => by cases hh⟩
    rw [above_top h ht, hr] at hc
    cases h1 : topB ms p t <;> cases h2 : allowB ms p 7 at_ <;> cases h3 : decide (t ∈ mids ms) <;> first | rfl | (exfalso; exact hc (by simp [h1, h2, h3]))
theorem insR_len {α : Type} {k : α → Int} {x : α} : ∀ {xs : List α}, (insK k x xs).length = xs.length + 1
  | [] => rfl
  | y :: r => by
    rw [insK]
    split
    · rfl
    · rw [List.length_cons, insR_len, List.length_cons]
theorem mids_ins {m : Mb} {x : Int} : x ∈ mids (insK Mb.id m ms) ↔ x = m.id ∨ x ∈ mids ms := by
  simp only [mids, List.mem_map, ins_mem]
  constructor
  · rintro ⟨y, rfl | hy, rfl⟩
    · exact .inl rfl
    · exact .inr ⟨y, hy, rfl⟩
  · rintro (rfl | ⟨y, hy, rfl⟩)
    · exact ⟨m, .inl rfl, rfl⟩
    · exact ⟨y, .inr hy, rfl⟩
theorem join_valid (h : RoomV ms vs bs) (hl : ms.length < 32) (ht : idB t = true) (ha : tickB at_ = true) (hm : ¬ t ∈ mids ms) (hb : ¬ t ∈ bids bs) : RoomV (insK Mb.id ⟨t, 1, at_, 0⟩ ms) (dropK Iv.id t vs) bs := by
  refine ⟨by rw [insR_len]; omega, fun m hm' => ?_, ins_rise h.r1 fun y hy e => hm (by have e' : y.id = t := e; rw [← e']; exact List.mem_map_of_mem hy), ?_, Nat.le_trans drop_len h.l2, fun x hx => h.s2 x (drop_mem.1 hx).1, drop_rise h.r2, fun x hx => ?_, h.l3, h.s3, h.r3, fun x hx => ⟨?_, fun hc => (h.d3 x hx).2 ?_⟩⟩
  · rcases ins_mem.1 hm' with rfl | hm'
    · exact ⟨by simp [mbB, roleB, tickB]; simpa [tickB] using ha, ht⟩
    · exact h.s1 m hm'
  · obtain ⟨m, hm, hr⟩ := h.o1
    exact ⟨m, ins_mem.2 (.inr hm), hr⟩
  · obtain ⟨hx1, hx2⟩ := drop_mem.1 hx
    rw [mids_ins]
    rintro (e | e)
    · exact hx2 e
    · exact h.d2 x hx1 e
  · rw [mids_ins]
    rintro (e | e)
    · exact hb (by rw [← show x.id = t from e]; exact List.mem_map_of_mem hx)
    · exact (h.d3 x hx).1 e
  · obtain ⟨y, hy, e⟩ := List.mem_map.1 hc
    rw [← e]; exact List.mem_map_of_mem (drop_mem.1 hy).1
theorem join_eq (h : RoomV ms vs bs) (hl : ms.length < 32) (ht : idB t = true) (ha : tickB at_ = true) :
    joinS o ms vs bs t at_ = if (!decide (t ∈ mids ms) && (!decide (t ∈ bids bs) && doorB o vs t at_)) = true then ⟨o, insK Mb.id ⟨t, 1, at_, 0⟩ ms, dropK Iv.id t vs, bs, true⟩ else rNo := by
  unfold joinS
  rw [roomB_iff.2 h, ht, ha]
  by_cases hm : t ∈ mids ms
  · simp [hm]
  · by_cases hb : t ∈ bids bs
    · simp [hb]
    · cases hd : doorB o vs t at_ with
      | false => simp
      | true =>
        simp only [hm, hb, decide_false, Bool.not_false, Bool.and_self, if_true]
        exact rGive_yes (join_valid h hl ht ha hm hb)
theorem putR_len {α : Type} {k : α → Int} {x : α} {xs : List α} : (putK k x xs).length ≤ xs.length + 1 := by
  unfold putK; rw [insR_len]; have := drop_len (k := k) (t := k x) (xs := xs); omega
theorem bids_put {b : Bn} {x : Int} : x ∈ bids (putK Bn.id b bs) ↔ x = b.id ∨ x ∈ bids bs := by
  simp only [bids, List.mem_map, put_mem]
  constructor
  · rintro ⟨y, rfl | hy, rfl⟩
    · exact .inl rfl
    · exact .inr ⟨y, hy.1, rfl⟩
  · rintro (rfl | ⟨y, hy, rfl⟩)
    · exact ⟨b, .inl rfl, rfl⟩
    · by_cases e : y.id = b.id
      · exact ⟨b, .inl rfl, e.symm⟩
      · exact ⟨y, .inr ⟨hy, e⟩, rfl⟩
/-- what a ban leaves -/
def bannedR (o : Bool) (ms : List Mb) (vs : List Iv) (bs : List Bn) (t til : Int) : ROut := ⟨o, dropK Mb.id t ms, dropK Iv.id t vs, putK Bn.id ⟨t, til⟩ bs, true⟩
theorem ban_valid (h : RoomV ms vs bs) (hf : bs.length ≤ 6) (ht : idB t = true) (hl : tickB til = true) (htop : topB ms p t = true) : RoomV (dropK Mb.id t ms) (dropK Iv.id t vs) (putK Bn.id ⟨t, til⟩ bs) := by
  obtain ⟨hp, hne, hlt⟩ := top_facts htop
  refine ⟨Nat.le_trans drop_len h.l1, fun m hm => h.s1 m (drop_mem.1 hm).1, drop_rise h.r1, ?_, Nat.le_trans drop_len h.l2, fun x hx => h.s2 x (drop_mem.1 hx).1, drop_rise h.r2, fun x hx => by rw [mids_drop]; exact fun hc => h.d2 x (drop_mem.1 hx).1 hc.1, by have := putR_len (k := Bn.id) (x := ⟨t, til⟩) (xs := bs); omega, fun x hx => ?_, put_rise h.r3, fun x hx => ?_⟩
  · obtain ⟨m, hm, hr⟩ := h.o1
    refine ⟨m, drop_mem.2 ⟨hm, fun e => ?_⟩, hr⟩
    have ht' : t ∈ mids ms := by rw [← e]; exact List.mem_map_of_mem hm
    have h1 := hlt ht'
    have h2 := role_mem h.r1 hm
    rw [e] at h2
    have := (role_le h hp).2
    omega
  · rcases put_mem.1 hx with rfl | ⟨hx, _⟩
    · exact ⟨by simpa [bnB] using hl, ht⟩
    · exact h.s3 x hx
  · rcases put_mem.1 hx with rfl | ⟨hx, _⟩
    · refine ⟨by rw [mids_drop]; exact fun hc => hc.2 rfl, fun hc => ?_⟩
      obtain ⟨y, hy, e⟩ := List.mem_map.1 hc
      exact (drop_mem.1 hy).2 e
    · refine ⟨by rw [mids_drop]; exact fun hc => (h.d3 x hx).1 hc.1, fun hc => ?_⟩
      obtain ⟨y, hy, e⟩ := List.mem_map.1 hc
      exact (h.d3 x hx).2 (by rw [← e]; exact List.mem_map_of_mem (drop_mem.1 hy).1)
theorem ban_eq (h : RoomV ms vs bs) (hf : bs.length ≤ 6) (ht : idB t = true) (hl : tickB til = true) (hx : ¬ til < at_) :
    banS o ms vs bs p t til at_ = if (topB ms p t && allowB ms p 6 at_) = true then bannedR o ms vs bs t til else rNo := by
  unfold banS
  rw [above_top h ht, hl, decide_eq_false hx]
  simp only [Bool.and_true, Bool.not_false]
  by_cases hc : (topB ms p t && allowB ms p 6 at_) = true
  · rw [if_pos hc, if_pos hc]
    simp only [Bool.and_eq_true] at hc
    exact rGive_yes (ban_valid h hf ht hl hc.1)
  · rw [if_neg hc, if_neg hc]
theorem top_drop (h : topB ms p t = true) : topB (dropK Mb.id t ms) p t = true := by
  obtain ⟨hp, hne, _⟩ := top_facts h
  have h1 : p ∈ mids (dropK Mb.id t ms) := mids_drop.2 ⟨hp, hne⟩
  have h2 : ¬ t ∈ mids (dropK Mb.id t ms) := fun hc => (mids_drop.1 hc).2 rfl
  simp [topB, h1, h2, hne]
theorem allow_drop {a : Int} (hne : p ≠ t) : allowB (dropK Mb.id t ms) p a at_ = allowB ms p a at_ := by
  unfold allowB; rw [find_drop hne]
theorem inv_banned (h : RoomV ms vs bs) {q u v : Int} (hb : t ∈ bids bs) : (inviteS o ms vs bs q t u v).ok = false := by
  unfold inviteS
  rw [if_neg (by simp [hb])]
  rfl
theorem join_banned {v : Int} (hb : t ∈ bids bs) : (joinS o ms vs bs t v).ok = false := by
  unfold joinS
  rw [if_neg (by simp [hb])]
  rfl
theorem lift_eq (h : RoomV ms vs bs) (ht : idB t = true) (htop : topB ms p t = true) (ha : allowB ms p 6 at_ = true) (hb : t ∈ bids bs) : liftS o ms vs bs p t at_ = ⟨o, ms, vs, dropK Bn.id t bs, true⟩ := by
  unfold liftS
  rw [above_top h ht, htop, ha]
  simp [hb]
/-- who was banned and let off comes in where the room is open -/
theorem back_eq (h : RoomV ms vs bs) (hl : ms.length < 32) (ht : idB t = true) (ha : tickB at_ = true) (hm : ¬ t ∈ mids ms) (hv : ¬ t ∈ iids vs) : (joinS o ms vs (dropK Bn.id t bs) t at_).ok = o := by
  have hb : ¬ t ∈ bids (dropK Bn.id t bs) := fun hc => by
    obtain ⟨y, hy, e⟩ := List.mem_map.1 hc
    exact (drop_mem.1 hy).2 e
  rw [join_eq (lift_valid h t) hl ht ha]
  have hd : doorB o vs t at_ = o := by
    have : findI vs t = none := findK_none hv
    simp [doorB, this]
  rw [hd]
  cases o <;> simp [hm, hb, rNo]
end
end Go.Proofs.YtmnmmjobplbflaaGreatDoor
