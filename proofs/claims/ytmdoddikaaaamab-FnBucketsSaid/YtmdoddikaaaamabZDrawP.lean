import Derived.Test.YtmdoddikaaaamabJq
namespace Go.Proofs.Ytmdoddikaaaamab
set_option linter.unusedVariables false
/-- few of each -/
def FewL (ms : List Mb) (vs : List Iv) (bs : List Bn) : Prop := ms.length ≤ 6 ∧ vs.length ≤ 6 ∧ bs.length ≤ 6
/-- what is known of a room that is being drawn, the next member's number being k -/
structure DrawV (k own : Int) (ms : List Mb) (vs : List Iv) (bs : List Bn) : Prop where
  m1 : ∀ m ∈ ms, 1 ≤ m.id ∧ m.id < k ∧ mbB m = true
  v1 : ∀ x ∈ vs, 1 ≤ x.id ∧ x.id < k ∧ ivB x = true
  b1 : ∀ x ∈ bs, 1 ≤ x.id ∧ x.id < k ∧ bnB x = true
  r1 : Rise Mb.id ms
  r2 : Rise Iv.id vs
  r3 : Rise Bn.id bs
  d2 : ∀ x ∈ vs, ¬ x.id ∈ mids ms
  d3 : ∀ x ∈ bs, ¬ x.id ∈ mids ms ∧ ¬ x.id ∈ iids vs
  o1 : own < k → ∃ m ∈ ms, m.role = 3
  l1 : (ms.length : Int) + 1 ≤ k
  l2 : (vs.length : Int) + 1 ≤ k
  l3 : (bs.length : Int) + 1 ≤ k
theorem DrawV.start (own : Int) (h : 1 ≤ own) : DrawV 1 own [] [] [] :=
  ⟨by simp, by simp, by simp, List.Pairwise.nil, List.Pairwise.nil, List.Pairwise.nil, by simp, by simp, fun h' => by omega, by simp, by simp, by simp⟩
theorem rise_snoc {α : Type} {k : α → Int} {xs : List α} {z : α} (h : Rise k xs) (hz : ∀ y ∈ xs, k y < k z) : Rise k (xs ++ [z]) := by
  unfold Rise
  rw [List.pairwise_append]
  exact ⟨h, List.pairwise_singleton _ _, fun a ha b hb => by simp at hb; subst hb; exact hz a ha⟩
section
variable {k own : Int} {ms : List Mb} {vs : List Iv} {bs : List Bn}
theorem mem_snoc {α : Type} {x z : α} {xs : List α} (h : x ∈ xs ++ [z]) : x ∈ xs ∨ x = z := by simpa using h
theorem DrawV.skip (h : DrawV k own ms vs bs) (ho : own ≠ k) : DrawV (k + 1) own ms vs bs :=
  ⟨fun m hm => by have := h.m1 m hm; exact ⟨this.1, by omega, this.2.2⟩, fun m hm => by have := h.v1 m hm; exact ⟨this.1, by omega, this.2.2⟩, fun m hm => by have := h.b1 m hm; exact ⟨this.1, by omega, this.2.2⟩, h.r1, h.r2, h.r3, h.d2, h.d3, fun h' => h.o1 (by omega), by have := h.l1; omega, by have := h.l2; omega, by have := h.l3; omega⟩
theorem DrawV.addM (h : DrawV k own ms vs bs) (hk : 1 ≤ k) {m : Mb} (hid : m.id = k) (hm : mbB m = true) (ho : own = k → m.role = 3) : DrawV (k + 1) own (ms ++ [m]) vs bs := by
  have hn : ∀ t : Int, t < k → t ∈ mids (ms ++ [m]) → t ∈ mids ms := fun t ht hm' => by
    simp only [mids, List.map_append, List.mem_append, List.map_cons, List.map_nil, List.mem_singleton] at hm'
    rcases hm' with h1 | h1
    · exact h1
    · omega
  refine ⟨fun x hx => ?_, fun x hx => by have := h.v1 x hx; exact ⟨this.1, by omega, this.2.2⟩, fun x hx => by have := h.b1 x hx; exact ⟨this.1, by omega, this.2.2⟩, rise_snoc h.r1 (fun y hy => by have := (h.m1 y hy).2.1; omega), h.r2, h.r3, fun x hx hc => h.d2 x hx (hn _ (h.v1 x hx).2.1 hc), fun x hx => ⟨fun hc => (h.d3 x hx).1 (hn _ (h.b1 x hx).2.1 hc), (h.d3 x hx).2⟩, fun h' => ?_, by have := h.l1; simp; omega, by have := h.l2; omega, by have := h.l3; omega⟩
  · rcases mem_snoc hx with hx | rfl
    · have := h.m1 x hx; exact ⟨this.1, by omega, this.2.2⟩
    · exact ⟨by omega, by omega, hm⟩
  · by_cases he : own = k
    · exact ⟨m, by simp, ho he⟩
    · obtain ⟨x, hx, hr⟩ := h.o1 (by omega)
      exact ⟨x, by simp [hx], hr⟩
theorem DrawV.addI (h : DrawV k own ms vs bs) (hk : 1 ≤ k) {m : Iv} (hid : m.id = k) (hm : ivB m = true) (ho : own ≠ k) : DrawV (k + 1) own ms (vs ++ [m]) bs := by
  have hn : ∀ t : Int, t < k → t ∈ iids (vs ++ [m]) → t ∈ iids vs := fun t ht hm' => by
    simp only [iids, List.map_append, List.mem_append, List.map_cons, List.map_nil, List.mem_singleton] at hm'
    rcases hm' with h1 | h1
    · exact h1
    · omega
  have hno : ¬ k ∈ mids ms := fun hc => by
    obtain ⟨y, hy, e⟩ := List.mem_map.1 hc
    have := (h.m1 y hy).2.1
    omega
  refine ⟨fun x hx => by have := h.m1 x hx; exact ⟨this.1, by omega, this.2.2⟩, fun x hx => ?_, fun x hx => by have := h.b1 x hx; exact ⟨this.1, by omega, this.2.2⟩, h.r1, rise_snoc h.r2 (fun y hy => by have := (h.v1 y hy).2.1; omega), h.r3, fun x hx => ?_, fun x hx => ⟨(h.d3 x hx).1, fun hc => (h.d3 x hx).2 (hn _ (h.b1 x hx).2.1 hc)⟩, fun h' => h.o1 (by omega), by have := h.l1; omega, by have := h.l2; simp; omega, by have := h.l3; omega⟩
  · rcases mem_snoc hx with hx | rfl
    · have := h.v1 x hx; exact ⟨this.1, by omega, this.2.2⟩
    · exact ⟨by omega, by omega, hm⟩
  · rcases mem_snoc hx with hx | rfl
    · exact h.d2 x hx
    · rw [hid]; exact hno
theorem DrawV.addB (h : DrawV k own ms vs bs) (hk : 1 ≤ k) {m : Bn} (hid : m.id = k) (hm : bnB m = true) (ho : own ≠ k) : DrawV (k + 1) own ms vs (bs ++ [m]) := by
  have hno : ¬ k ∈ mids ms := fun hc => by
    obtain ⟨y, hy, e⟩ := List.mem_map.1 hc
    have := (h.m1 y hy).2.1
    omega
  have hno2 : ¬ k ∈ iids vs := fun hc => by
    obtain ⟨y, hy, e⟩ := List.mem_map.1 hc
    have := (h.v1 y hy).2.1
    omega
  refine ⟨fun x hx => by have := h.m1 x hx; exact ⟨this.1, by omega, this.2.2⟩, fun x hx => by have := h.v1 x hx; exact ⟨this.1, by omega, this.2.2⟩, fun x hx => ?_, h.r1, h.r2, rise_snoc h.r3 (fun y hy => by have := (h.b1 y hy).2.1; omega), h.d2, fun x hx => ?_, fun h' => h.o1 (by omega), by have := h.l1; omega, by have := h.l2; omega, by have := h.l3; simp; omega⟩
  · rcases mem_snoc hx with hx | rfl
    · have := h.b1 x hx; exact ⟨this.1, by omega, this.2.2⟩
    · exact ⟨by omega, by omega, hm⟩
  · rcases mem_snoc hx with hx | rfl
    · exact h.d3 x hx
    · rw [hid]; exact ⟨hno, hno2⟩
theorem DrawV.room (h : DrawV 7 own ms vs bs) (ho : own ≤ 6) : RoomV ms vs bs ∧ FewL ms vs bs :=
  ⟨⟨by have := h.l1; omega, fun m hm => ⟨(h.m1 m hm).2.2, by have := h.m1 m hm; simp [idB]; omega⟩, h.r1, h.o1 (by omega), by have := h.l2; omega, fun m hm => ⟨(h.v1 m hm).2.2, by have := h.v1 m hm; simp [idB]; omega⟩, h.r2, h.d2, by have := h.l3; omega, fun m hm => ⟨(h.b1 m hm).2.2, by have := h.b1 m hm; simp [idB]; omega⟩, h.r3, h.d3⟩, by have := h.l1; omega, by have := h.l2; omega, by have := h.l3; omega⟩
end
end Go.Proofs.Ytmdoddikaaaamab
