import Derived.Test.YteeodjbionjlmaaSetP
namespace Go.Proofs.Yteeodjbionjlmaa
set_option linter.unusedVariables false
/-- members, invites and bans of a room, field by field -/
structure Mb where
  id : Int
  role : Int
  since : Int
  quiet : Int
structure Iv where
  id : Int
  byy : Int
  til : Int
structure Bn where
  id : Int
  til : Int
def tickB (n : Int) : Bool := decide (0 ≤ n ∧ n ≤ 1000000)
def roleB (n : Int) : Bool := decide (0 ≤ n ∧ n ≤ 3)
def idB (n : Int) : Bool := decide (1 ≤ n ∧ n ≤ 1000)
def mbB (m : Mb) : Bool := roleB m.role && (tickB m.since && tickB m.quiet)
def ivB (x : Iv) : Bool := idB x.byy && tickB x.til
def bnB (x : Bn) : Bool := tickB x.til
def mids (ms : List Mb) : List Int := ms.map Mb.id
def iids (ms : List Iv) : List Int := ms.map Iv.id
def bids (ms : List Bn) : List Int := ms.map Bn.id
def ownB (m : Mb) : Bool := m.role == 3
def membersB (ms : List Mb) : Bool := decide (ms.length ≤ 32) && (ms.all mbB && memB (mids ms)) && ms.any ownB
def invitesB (ms : List Mb) (vs : List Iv) : Bool := decide (vs.length ≤ 16) && (vs.all ivB && memB (iids vs)) && vs.all fun x => !decide (x.id ∈ mids ms)
def bansB (ms : List Mb) (vs : List Iv) (bs : List Bn) : Bool := decide (bs.length ≤ 16) && (bs.all bnB && memB (bids bs)) && bs.all fun x => !decide (x.id ∈ mids ms) && !decide (x.id ∈ iids vs)
def roomB (ms : List Mb) (vs : List Iv) (bs : List Bn) : Bool := membersB ms && (invitesB ms vs && bansB ms vs bs)
theorem setL_nodup (l : List Int) (h : l.Nodup) : (setL l).length = l.length := by
  obtain ⟨h1, h2, _⟩ := setL_facts l
  have hn : (setL l).Nodup := h2.imp fun hab => by omega
  exact ((List.perm_ext_iff_of_nodup hn h).2 h1).length_eq
theorem setL_dup {a b : List Int} {x : Int} (ha : x ∈ a) (hb : x ∈ b) : (setL (a ++ b)).length < (a ++ b).length := by
  obtain ⟨h1, h2, h3⟩ := setL_facts (a ++ b)
  have hn : (setL (a ++ b)).Nodup := h2.imp fun hab => by omega
  obtain ⟨b1, b2, rfl⟩ := List.append_of_mem hb
  have hs : (setL (a ++ (b1 ++ x :: b2))).length ≤ (a ++ (b1 ++ b2)).length := by
    obtain ⟨g1, g2, g3⟩ := setL_facts (a ++ (b1 ++ b2))
    have e : setL (a ++ (b1 ++ x :: b2)) = setL (a ++ (b1 ++ b2)) := strict_ext _ _ h2 g2 fun y => by
      rw [h1, g1]
      simp only [List.mem_append, List.mem_cons]
      constructor
      · rintro (h | h | rfl | h)
        · exact .inl h
        · exact .inr (.inl h)
        · exact .inl ha
        · exact .inr (.inr h)
      · rintro (h | h | h)
        · exact .inl h
        · exact .inr (.inl h)
        · exact .inr (.inr (.inr h))
    rw [e]; exact g3
  simp only [List.length_append, List.length_cons] at hs ⊢
  omega
theorem nodup3 {a b c : List Int} (ha : a.Nodup) (hb : b.Nodup) (hc : c.Nodup) (hab : ∀ x ∈ b, ¬ x ∈ a) (hac : ∀ x ∈ c, ¬ x ∈ a) (hbc : ∀ x ∈ c, ¬ x ∈ b) : (a ++ (b ++ c)).Nodup := by
  rw [List.nodup_append]
  refine ⟨ha, ?_, ?_⟩
  · rw [List.nodup_append]
    exact ⟨hb, hc, fun x hx y hy e => hbc y hy (e ▸ hx)⟩
  · intro x hx y hy e
    subst e
    rcases List.mem_append.1 hy with h | h
    · exact hab x h hx
    · exact hac x h hx
theorem memB_nodup {l : List Int} (h : memB l = true) : l.Nodup := (memB_pair h).imp fun hab => by omega
/-- the program's last test: an Id that stands in two lists is only once in the set -/
theorem distinct_iff (ms : List Mb) (vs : List Iv) (bs : List Bn) (h1 : memB (mids ms) = true) (h2 : memB (iids vs) = true) (h3 : memB (bids bs) = true) :
    ((setL (mids ms ++ (iids vs ++ bids bs))).length = ms.length + vs.length + bs.length) ↔ ((vs.all fun x => !decide (x.id ∈ mids ms)) = true ∧ (bs.all fun x => !decide (x.id ∈ mids ms) && !decide (x.id ∈ iids vs)) = true) := by
  have hl : (mids ms ++ (iids vs ++ bids bs)).length = ms.length + vs.length + bs.length := by simp [mids, iids, bids]; omega
  constructor
  · intro h
    constructor
    · rw [List.all_eq_true]
      intro x hx
      rw [Bool.not_eq_true', decide_eq_false_iff_not]
      intro hm
      have := setL_dup hm (b := iids vs ++ bids bs) (List.mem_append_left _ (List.mem_map_of_mem hx))
      omega
    · rw [List.all_eq_true]
      intro x hx
      rw [Bool.and_eq_true, Bool.not_eq_true', Bool.not_eq_true', decide_eq_false_iff_not, decide_eq_false_iff_not]
      constructor
      · intro hm
        have := setL_dup hm (b := iids vs ++ bids bs) (List.mem_append_right _ (List.mem_map_of_mem hx))
        omega
      · intro hm
        have := setL_dup (a := mids ms ++ iids vs) (b := bids bs) (List.mem_append_right _ hm) (List.mem_map_of_mem hx)
        rw [List.append_assoc] at this
        omega
  · rintro ⟨ha, hb⟩
    rw [List.all_eq_true] at ha hb
    rw [setL_nodup _ (nodup3 (memB_nodup h1) (memB_nodup h2) (memB_nodup h3) ?_ ?_ ?_), hl]
    · intro y hy
      obtain ⟨x, hx, rfl⟩ := List.mem_map.1 hy
      have := ha x hx
      simpa using this
    · intro y hy
      obtain ⟨x, hx, rfl⟩ := List.mem_map.1 hy
      have := hb x hx
      rw [Bool.and_eq_true] at this
      simpa using this.1
    · intro y hy
      obtain ⟨x, hx, rfl⟩ := List.mem_map.1 hy
      have := hb x hx
      rw [Bool.and_eq_true] at this
      simpa using this.2
theorem first_at {xs : List Int} {t : Int} (h : t ∈ xs) : ∃ k : Nat, xs[k]? = some t ∧ NotIn xs t k := by
  induction xs with
  | nil => simp at h
  | cons x r ih =>
    by_cases e : x = t
    · exact ⟨0, by simp [e], NotIn.zero _ _⟩
    · obtain ⟨k, h1, h2⟩ := ih (by rcases List.mem_cons.1 h with h | h; exact absurd h.symm e; exact h)
      refine ⟨k + 1, by simpa using h1, fun j y hj hy => ?_⟩
      cases j with
      | zero => simp at hy; subst hy; exact e
      | succ j => exact h2 j y (by omega) (by simpa using hy)
theorem mb_bad {xs : List Mb} {z : Mb} {k : Nat} (hz : xs[k]? = some z) (h : mbB z = false ∨ idB z.id = false) : membersB xs = false := by
  rw [← Bool.not_eq_true]; intro H
  simp only [membersB, Bool.and_eq_true] at H
  obtain ⟨⟨_, h1, h2⟩, _⟩ := H
  have hm := List.mem_of_getElem? hz
  rcases h with h | h
  · have := List.all_eq_true.1 h1 z hm; rw [h] at this; cases this
  · have hr := mem_rise h2 k z.id (by have := (List.getElem?_eq_some_iff.1 hz).1; simpa [mids] using this) (by simp [mids, hz])
    have : idB z.id = true := by simp [idB, hr.1, hr.2.1]
    rw [h] at this; cases this
theorem mb_flat {xs : List Mb} {z y : Mb} {k : Nat} (h0 : 0 < k) (hz : xs[k]? = some z) (hy : xs[k - 1]? = some y) (h : z.id ≤ y.id) : membersB xs = false := by
  rw [← Bool.not_eq_true]; intro H
  simp only [membersB, Bool.and_eq_true] at H
  obtain ⟨⟨_, _, h2⟩, _⟩ := H
  have := rises_flat (xs := mids xs) (lo := 1) (hi := 1000) (k := k) (x := z.id) (y := y.id) h0 (by simp [mids, hz]) (by simp [mids, hy]) h
  unfold memB at h2
  rw [this] at h2; cases h2
theorem mb_long {xs : List Mb} (h : 32 < xs.length) : membersB xs = false := by
  rw [← Bool.not_eq_true]; intro H
  simp only [membersB, Bool.and_eq_true, decide_eq_true_eq] at H
  omega
theorem mb_none {xs : List Mb} (h : xs.length < 1) : membersB xs = false := by
  have : xs = [] := List.eq_nil_of_length_eq_zero (by omega)
  subst this; simp [membersB]
def ownersTo (xs : List Mb) (k : Nat) : Nat := ((xs.take k).filter ownB).length
theorem ownersTo_yes {xs : List Mb} {z : Mb} {k : Nat} (hz : xs[k]? = some z) (h : z.role = 3) : ownersTo xs (k + 1) = ownersTo xs k + 1 := by
  simp [ownersTo, take_some hz, List.filter_append, ownB, h]
theorem ownersTo_no {xs : List Mb} {z : Mb} {k : Nat} (hz : xs[k]? = some z) (h : z.role ≠ 3) : ownersTo xs (k + 1) = ownersTo xs k := by
  simp [ownersTo, take_some hz, List.filter_append, ownB, h]
theorem ownersTo_le (xs : List Mb) (k : Nat) : ownersTo xs k ≤ k := by
  unfold ownersTo
  have := List.length_filter_le ownB (xs.take k)
  have := List.length_take_le k xs
  omega
/-- what stands of the members up to k -/
def MbTo (xs : List Mb) (k : Nat) : Prop := RiseTo (mids xs) 1 1000 k ∧ ∀ z ∈ xs.take k, mbB z = true
theorem MbTo.zero (xs : List Mb) : MbTo xs 0 := ⟨RiseTo.zero _ _ _, fun z h => by simp at h⟩
theorem MbTo.succ {xs : List Mb} {z : Mb} {k : Nat} (h : MbTo xs k) (hz : xs[k]? = some z) (h1 : mbB z = true) (h2 : idB z.id = true) (h3 : ∀ y, 0 < k → xs[k - 1]? = some y → y.id < z.id) : MbTo xs (k + 1) := by
  simp only [idB, decide_eq_true_eq] at h2
  refine ⟨h.1.succ (x := z.id) (by simp [mids, hz]) h2.1 h2.2 fun y h0 hy => ?_, fun u hu => ?_⟩
  · simp only [mids, List.getElem?_map, Option.map_eq_some_iff] at hy
    obtain ⟨y', hy', rfl⟩ := hy
    exact h3 y' h0 hy'
  · rw [take_some hz, List.mem_append] at hu
    rcases hu with hu | hu
    · exact h.2 u hu
    · simp at hu; subst hu; exact h1
theorem mb_full {xs : List Mb} {k : Nat} (h : MbTo xs k) (hk : xs.length ≤ k) (hl : xs.length ≤ 32) : membersB xs = decide (0 < ownersTo xs k) := by
  obtain ⟨h1, h2⟩ := h
  have e1 : memB (mids xs) = true := rises_full h1 (by simpa [mids] using hk)
  rw [List.take_of_length_le hk] at h2
  have e2 : xs.all mbB = true := List.all_eq_true.2 h2
  have e3 : xs.any ownB = decide (0 < ownersTo xs k) := by
    rw [Bool.eq_iff_iff, decide_eq_true_eq, List.any_eq_true]
    unfold ownersTo
    rw [List.take_of_length_le hk, List.length_pos_iff_exists_mem]
    simp only [List.mem_filter]
  simp [membersB, e1, e2, e3, hl]
end Go.Proofs.Yteeodjbionjlmaa
