import Derived.Test.YtdpclbmcmgknjaaRoomP
namespace Go.Proofs.Ytdpclbmcmgknjaa
set_option linter.unusedVariables false
def IvTo (ms : List Mb) (xs : List Iv) (k : Nat) : Prop := RiseTo (iids xs) 1 1000 k ∧ ∀ z ∈ xs.take k, ivB z = true ∧ ¬ z.id ∈ mids ms
theorem IvTo.zero (ms : List Mb) (xs : List Iv) : IvTo ms xs 0 := ⟨RiseTo.zero _ _ _, fun z h => by simp at h⟩
theorem IvTo.succ {ms : List Mb} {xs : List Iv} {z : Iv} {k : Nat} (h : IvTo ms xs k) (hz : xs[k]? = some z) (h1 : ivB z = true) (h2 : idB z.id = true) (h3 : ∀ y, 0 < k → xs[k - 1]? = some y → y.id < z.id) (h4 : ¬ z.id ∈ mids ms) : IvTo ms xs (k + 1) := by
  simp only [idB, decide_eq_true_eq] at h2
  refine ⟨h.1.succ (x := z.id) (by simp [iids, hz]) h2.1 h2.2 fun y h0 hy => ?_, fun u hu => ?_⟩
  · simp only [iids, List.getElem?_map, Option.map_eq_some_iff] at hy
    obtain ⟨y', hy', rfl⟩ := hy
    exact h3 y' h0 hy'
  · rw [take_some hz, List.mem_append] at hu
    rcases hu with hu | hu
    · exact h.2 u hu
    · simp at hu; subst hu; exact ⟨h1, h4⟩
theorem iv_bad {ms : List Mb} {xs : List Iv} {z : Iv} {k : Nat} (hz : xs[k]? = some z) (h : ivB z = false ∨ idB z.id = false ∨ ¬ (¬ z.id ∈ mids ms)) : invitesB ms xs = false := by
  rw [← Bool.not_eq_true]; intro H
  simp only [invitesB, Bool.and_eq_true] at H
  obtain ⟨⟨_, h1, h2⟩, h3⟩ := H
  have hm := List.mem_of_getElem? hz
  rcases h with h | h | h
  · have := List.all_eq_true.1 h1 z hm; rw [h] at this; cases this
  · have hr := mem_rise h2 k z.id (by have := (List.getElem?_eq_some_iff.1 hz).1; simpa [iids] using this) (by simp [iids, hz])
    have : idB z.id = true := by simp [idB, hr.1, hr.2.1]
    rw [h] at this; cases this
  · have := List.all_eq_true.1 h3 z hm
    exact h (by simpa using this)
theorem iv_flat {ms : List Mb} {xs : List Iv} {z y : Iv} {k : Nat} (h0 : 0 < k) (hz : xs[k]? = some z) (hy : xs[k - 1]? = some y) (h : z.id ≤ y.id) : invitesB ms xs = false := by
  rw [← Bool.not_eq_true]; intro H
  simp only [invitesB, Bool.and_eq_true] at H
  obtain ⟨⟨_, _, h2⟩, _⟩ := H
  have := rises_flat (xs := iids xs) (lo := 1) (hi := 1000) (k := k) (x := z.id) (y := y.id) h0 (by simp [iids, hz]) (by simp [iids, hy]) h
  unfold memB at h2
  rw [this] at h2; cases h2
theorem iv_long {ms : List Mb} {xs : List Iv} (h : 16 < xs.length) : invitesB ms xs = false := by
  rw [← Bool.not_eq_true]; intro H
  simp only [invitesB, Bool.and_eq_true, decide_eq_true_eq] at H
  omega
theorem iv_full {ms : List Mb} {xs : List Iv} {k : Nat} (h : IvTo ms xs k) (hk : xs.length ≤ k) (hl : xs.length ≤ 16) : invitesB ms xs = true := by
  obtain ⟨h1, h2⟩ := h
  have e1 : memB (iids xs) = true := rises_full h1 (by simpa [iids] using hk)
  rw [List.take_of_length_le hk] at h2
  have e2 : xs.all ivB = true := List.all_eq_true.2 fun z hz => (h2 z hz).1
  simp only [invitesB, e1, e2, Bool.and_true, Bool.and_eq_true, decide_eq_true_eq]
  refine ⟨hl, List.all_eq_true.2 fun z hz => ?_⟩
  have := (h2 z hz).2
  simpa using this
def BnTo (ms : List Mb) (vs : List Iv) (xs : List Bn) (k : Nat) : Prop := RiseTo (bids xs) 1 1000 k ∧ ∀ z ∈ xs.take k, bnB z = true ∧ ¬ z.id ∈ mids ms ∧ ¬ z.id ∈ iids vs
theorem BnTo.zero (ms : List Mb) (vs : List Iv) (xs : List Bn) : BnTo ms vs xs 0 := ⟨RiseTo.zero _ _ _, fun z h => by simp at h⟩
theorem BnTo.succ {ms : List Mb} {vs : List Iv} {xs : List Bn} {z : Bn} {k : Nat} (h : BnTo ms vs xs k) (hz : xs[k]? = some z) (h1 : bnB z = true) (h2 : idB z.id = true) (h3 : ∀ y, 0 < k → xs[k - 1]? = some y → y.id < z.id) (h4 : ¬ z.id ∈ mids ms ∧ ¬ z.id ∈ iids vs) : BnTo ms vs xs (k + 1) := by
  simp only [idB, decide_eq_true_eq] at h2
  refine ⟨h.1.succ (x := z.id) (by simp [bids, hz]) h2.1 h2.2 fun y h0 hy => ?_, fun u hu => ?_⟩
  · simp only [bids, List.getElem?_map, Option.map_eq_some_iff] at hy
    obtain ⟨y', hy', rfl⟩ := hy
    exact h3 y' h0 hy'
  · rw [take_some hz, List.mem_append] at hu
    rcases hu with hu | hu
    · exact h.2 u hu
    · simp at hu; subst hu; exact ⟨h1, h4⟩
theorem bn_bad {ms : List Mb} {vs : List Iv} {xs : List Bn} {z : Bn} {k : Nat} (hz : xs[k]? = some z) (h : bnB z = false ∨ idB z.id = false ∨ ¬ (¬ z.id ∈ mids ms ∧ ¬ z.id ∈ iids vs)) : bansB ms vs xs = false := by
  rw [← Bool.not_eq_true]; intro H
  simp only [bansB, Bool.and_eq_true] at H
  obtain ⟨⟨_, h1, h2⟩, h3⟩ := H
  have hm := List.mem_of_getElem? hz
  rcases h with h | h | h
  · have := List.all_eq_true.1 h1 z hm; rw [h] at this; cases this
  · have hr := mem_rise h2 k z.id (by have := (List.getElem?_eq_some_iff.1 hz).1; simpa [bids] using this) (by simp [bids, hz])
    have : idB z.id = true := by simp [idB, hr.1, hr.2.1]
    rw [h] at this; cases this
  · have := List.all_eq_true.1 h3 z hm
    exact h (by simpa using this)
theorem bn_flat {ms : List Mb} {vs : List Iv} {xs : List Bn} {z y : Bn} {k : Nat} (h0 : 0 < k) (hz : xs[k]? = some z) (hy : xs[k - 1]? = some y) (h : z.id ≤ y.id) : bansB ms vs xs = false := by
  rw [← Bool.not_eq_true]; intro H
  simp only [bansB, Bool.and_eq_true] at H
  obtain ⟨⟨_, _, h2⟩, _⟩ := H
  have := rises_flat (xs := bids xs) (lo := 1) (hi := 1000) (k := k) (x := z.id) (y := y.id) h0 (by simp [bids, hz]) (by simp [bids, hy]) h
  unfold memB at h2
  rw [this] at h2; cases h2
theorem bn_long {ms : List Mb} {vs : List Iv} {xs : List Bn} (h : 16 < xs.length) : bansB ms vs xs = false := by
  rw [← Bool.not_eq_true]; intro H
  simp only [bansB, Bool.and_eq_true, decide_eq_true_eq] at H
  omega
theorem bn_full {ms : List Mb} {vs : List Iv} {xs : List Bn} {k : Nat} (h : BnTo ms vs xs k) (hk : xs.length ≤ k) (hl : xs.length ≤ 16) : bansB ms vs xs = true := by
  obtain ⟨h1, h2⟩ := h
  have e1 : memB (bids xs) = true := rises_full h1 (by simpa [bids] using hk)
  rw [List.take_of_length_le hk] at h2
  have e2 : xs.all bnB = true := List.all_eq_true.2 fun z hz => (h2 z hz).1
  simp only [bansB, e1, e2, Bool.and_true, Bool.and_eq_true, decide_eq_true_eq]
  refine ⟨hl, List.all_eq_true.2 fun z hz => ?_⟩
  have := (h2 z hz).2
  simpa using this
end Go.Proofs.Ytdpclbmcmgknjaa
