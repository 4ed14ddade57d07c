import Derived.Test.YtmnmmjobplbflaaGreatDoorZRankedP
import Derived.Test.YtmnmmjobplbflaaGreatDoorZRankT
namespace Go.Proofs.YtmnmmjobplbflaaGreatDoor
set_option linter.unusedVariables false
theorem drop_ins {α : Type} {k : α → Int} {x : α} : ∀ {xs : List α}, (∀ y ∈ xs, k y ≠ k x) → dropK k (k x) (insK k x xs) = xs
  | [], _ => by simp [insK, dropK]
  | y :: r, h => by
    have hy := h y List.mem_cons_self
    have ih := drop_ins (xs := r) fun z hz => h z (List.mem_cons_of_mem _ hz)
    have hn : dropK k (k x) (y :: r) = y :: r := drop_none fun z hz => h z hz
    rw [insK]
    split
    · rw [show dropK k (k x) (x :: y :: r) = dropK k (k x) (y :: r) by simp [dropK], hn]
    · rw [show dropK k (k x) (y :: insK k x r) = y :: dropK k (k x) (insK k x r) by simp [dropK, hy], ih]
theorem same_id : ∀ {ms : List Mb}, (ms.Pairwise fun a b => a.id ≠ b.id) → ∀ {x m : Mb}, x ∈ ms → m ∈ ms → x.id = m.id → x = m
  | [], _, _, _, hx, _, _ => by cases hx
  | y :: r, hp, x, m, hx, hm, e => by
    have hp' := List.pairwise_cons.1 hp
    rcases List.mem_cons.1 hx with h1 | h1 <;> rcases List.mem_cons.1 hm with h2 | h2
    · rw [h1, h2]
    · subst h1; exact absurd e (hp'.1 m h2)
    · subst h2; exact absurd e.symm (hp'.1 x h1)
    · exact same_id hp'.2 h1 h2 e
theorem best_some {ms : List Mb} {x : Mb} (h : x ∈ ms) : ∃ m, bestM ms = some m := by
  cases ms with
  | nil => cases h
  | cons y r => exact ⟨_, rfl⟩
section
variable {o : Bool} {ms : List Mb} {vs : List Iv} {bs : List Bn} {t at_ : Int}
theorem best_owner {m : Mb} (hV : RoomV ms vs bs) (hb : bestM ms = some m) : m.role = 3 := by
  obtain ⟨hm, hall⟩ := best_spec (rise_ne hV.r1) hb
  obtain ⟨x, hx, hr⟩ := hV.o1
  have h3 := (hV.s1 m hm).1
  simp only [mbB, roleB, Bool.and_eq_true, decide_eq_true_eq] at h3
  have hr' : x.role = 3 := by simpa [ownB] using hr
  rcases hall x hx with e | e
  · rw [← e]; exact hr'
  · rw [rankLt_iff] at e; omega
theorem alter_self {m : Mb} (hp : ms.Pairwise fun a b => a.id ≠ b.id) (hm : m ∈ ms) (hr : m.role = 3) : alter m.id asOwner ms = ms := by
  unfold alter
  conv => rhs; rw [← List.map_id ms]
  refine List.map_congr_left fun x hx => ?_
  split
  · rename_i e
    have := same_id hp hx hm e
    subst this
    obtain ⟨a, b, c, d⟩ := x
    simp only at hr
    subst hr
    rfl
  · rfl
theorem ins_drop (hm : ¬ t ∈ mids ms) : dropK Mb.id t (insK Mb.id ⟨t, 1, at_, 0⟩ ms) = ms :=
  drop_ins (k := Mb.id) (x := ⟨t, 1, at_, 0⟩) fun y hy e => hm (by have e' : y.id = t := e; rw [← e']; exact List.mem_map_of_mem hy)
theorem leave_back (h : RoomV ms vs bs) (hl : ms.length < 32) (ht : idB t = true) (ha : tickB at_ = true) (hm : ¬ t ∈ mids ms) (hb : ¬ t ∈ bids bs) :
    leaveS o (insK Mb.id ⟨t, 1, at_, 0⟩ ms) (dropK Iv.id t vs) bs t = ⟨o, ms, dropK Iv.id t vs, bs, true⟩ ∧ RoomV ms (dropK Iv.id t vs) bs := by
  have hv := join_valid h hl ht ha hm hb
  obtain ⟨x, hx, _⟩ := h.o1
  obtain ⟨m, hbm⟩ := best_some hx
  have hbs := best_spec (rise_ne h.r1) hbm
  have hs := alter_self (rise_ne h.r1) hbs.1 (best_owner h hbm)
  constructor
  · unfold leaveS
    rw [if_pos (by rw [roomB_iff.2 hv]; simp [mids_ins]), ins_drop hm, hbm]
    simp only [hs]
  · have := leave_valid (t := t) (m := m) hv (by rw [ins_drop hm]; exact hbs.1)
    rwa [ins_drop hm, hs] at this
theorem drop_one {m : Mb} (hp : ms.Pairwise fun a b => a.id ≠ b.id) (hm : m ∈ ms) : (dropK Mb.id m.id ms).length + 1 = ms.length := by
  obtain ⟨a, b, e⟩ := List.append_of_mem hm
  have h1 : (m :: (a ++ b)).Perm ms := by rw [e]; exact List.perm_middle.symm
  have h2 := (drop_cons_perm hp h1).length_eq
  have h3 := h1.length_eq
  rw [List.length_cons] at h3
  omega
theorem leave_len (h : RoomV ms vs bs) (ht : t ∈ mids ms) : (dropK Mb.id t ms).length + 1 = ms.length := by
  obtain ⟨x, hx, e⟩ := List.mem_map.1 ht
  rw [← e]; exact drop_one (rise_ne h.r1) hx
/-- what is left of a room that somebody leaves -/
theorem leave_yes (h : RoomV ms vs bs) (ht : t ∈ mids ms) (hl : 2 ≤ ms.length) : (leaveS o ms vs bs t).ok = true ∧ RoomV (leaveS o ms vs bs t).ms (leaveS o ms vs bs t).vs (leaveS o ms vs bs t).bs ∧ ¬ t ∈ mids (leaveS o ms vs bs t).ms ∧ (leaveS o ms vs bs t).ms.length + 1 = ms.length := by
  have hd := leave_len h ht
  obtain ⟨x, hx⟩ : ∃ x, x ∈ dropK Mb.id t ms := by
    cases hq : dropK Mb.id t ms with
    | nil => rw [hq] at hd; simp at hd; omega
    | cons x r => exact ⟨x, List.mem_cons_self⟩
  obtain ⟨m, hbm⟩ := best_some hx
  have hbs := best_spec (rise_ne (drop_rise h.r1)) hbm
  have e : leaveS o ms vs bs t = ⟨o, alter m.id asOwner (dropK Mb.id t ms), vs, bs, true⟩ := by
    unfold leaveS
    rw [if_pos (by rw [roomB_iff.2 h]; simpa using ht), hbm]
  rw [e]
  refine ⟨rfl, leave_valid h hbs.1, ?_, ?_⟩
  · show ¬ t ∈ mids (alter m.id asOwner (dropK Mb.id t ms))
    rw [alter_mids (f := asOwner) (fun _ => rfl), mids_drop]; exact fun hc => hc.2 rfl
  · simpa [alter] using hd
theorem leave_nobody (ht : ¬ t ∈ mids ms) : leaveS o ms vs bs t = rNo := by
  unfold leaveS
  rw [if_neg (by simp [ht])]
theorem leave_lone (h : RoomV ms vs bs) (ht : t ∈ mids ms) (hl : ms.length < 2) : leaveS o ms vs bs t = rNo := by
  have hd := leave_len h ht
  have : dropK Mb.id t ms = [] := List.eq_nil_of_length_eq_zero (by omega)
  unfold leaveS
  rw [this]
  simp [bestM]
def invK (vs : List Iv) (t at_ : Int) (k : Nat) : Bool := (vs.take k).any fun y => (y.id == t) && decide (at_ ≤ y.til)
def banK (bs : List Bn) (t : Int) (k : Nat) : Bool := (bs.take k).any fun y => y.id == t
theorem any_step {α : Type} {xs : List α} {p : α → Bool} {k : Nat} {z : α} (h : xs[k]? = some z) : (xs.take (k + 1)).any p = ((xs.take k).any p || p z) := by
  rw [List.take_add_one, h]; simp
theorem inv_step {k : Nat} {z : Iv} (h : vs[k]? = some z) : invK vs t at_ (k + 1) = (invK vs t at_ k || ((z.id == t) && decide (at_ ≤ z.til))) := any_step h
theorem ban_step {k : Nat} {z : Bn} (h : bs[k]? = some z) : banK bs t (k + 1) = (banK bs t k || (z.id == t)) := any_step h
theorem ban_full {k : Nat} (h : bs.length ≤ k) : banK bs t k = decide (t ∈ bids bs) := by
  unfold banK
  rw [List.take_of_length_le h, Bool.eq_iff_iff]
  simp [bids]
theorem door_inv {k : Nat} (hr : Rise Iv.id vs) (h : vs.length ≤ k) : doorB o vs t at_ = (o || invK vs t at_ k) := by
  unfold doorB invK
  rw [List.take_of_length_le h]
  congr 1
  clear h
  induction vs with
  | nil => simp [findI]
  | cons y r ih =>
    have hp := List.pairwise_cons.1 hr
    unfold findI at ih ⊢
    rw [List.find?_cons]
    by_cases e : y.id = t
    · have hn : (r.any fun y => (y.id == t) && decide (at_ ≤ y.til)) = false := by
        rw [List.any_eq_false]
        intro z hz
        have := hp.1 z hz
        simp
        intro e2
        omega
      simp [e, hn]
    · simp only [e, decide_false]
      rw [ih hp.2]
      simp [e]
theorem join_ok2 {k j : Nat} (h : RoomV ms vs bs) (hl : ms.length < 32) (ht : idB t = true) (ha : tickB at_ = true) (hk : vs.length ≤ k) (hj : bs.length ≤ j) : (joinS o ms vs bs t at_).ok = (!decide (t ∈ mids ms) && (!banK bs t j && (o || invK vs t at_ k))) := by
  rw [join_eq h hl ht ha, ban_full hj, ← door_inv h.r2 hk]
  split
  · rename_i e; rw [e]
  · rename_i e; simp only [Bool.not_eq_true] at e; rw [e]; rfl
theorem join_yes {k j : Nat} (h : RoomV ms vs bs) (hl : ms.length < 32) (ht : idB t = true) (ha : tickB at_ = true) (hok : (joinS o ms vs bs t at_).ok = true) : joinS o ms vs bs t at_ = ⟨o, insK Mb.id ⟨t, 1, at_, 0⟩ ms, dropK Iv.id t vs, bs, true⟩ ∧ ¬ t ∈ mids ms ∧ ¬ t ∈ bids bs := by
  rw [join_eq h hl ht ha] at hok ⊢
  split at hok
  · rename_i e
    rw [if_pos e]
    simp only [Bool.and_eq_true, Bool.not_eq_true', decide_eq_false_iff_not] at e
    exact ⟨rfl, e.1, e.2.1⟩
  · cases hok
theorem role_ins (hm : ¬ t ∈ mids ms) : roleAt (insK Mb.id ⟨t, 1, at_, 0⟩ ms) t = 1 := by
  have h : ∀ {xs : List Mb}, ¬ t ∈ mids xs → findM (insK Mb.id ⟨t, 1, at_, 0⟩ xs) t = some ⟨t, 1, at_, 0⟩ := by
    intro xs
    induction xs with
    | nil => intro _; simp [insK, findM]
    | cons y r ih =>
      intro hx
      have hy : ¬ y.id = t := fun e => hx (by simp [mids, e])
      have hr : ¬ t ∈ mids r := fun e => hx (by simp only [mids, List.map_cons, List.mem_cons] at e ⊢; exact .inr e)
      rw [insK]
      split
      · simp [findM]
      · have := ih hr
        simp only [findM] at this ⊢
        rw [List.find?_cons]
        simp only [hy, decide_false]
        exact this
  unfold roleAt
  rw [h hm]
end
end Go.Proofs.YtmnmmjobplbflaaGreatDoor
