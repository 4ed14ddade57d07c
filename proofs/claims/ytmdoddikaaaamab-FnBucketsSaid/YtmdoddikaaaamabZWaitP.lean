import Derived.Test.YtmdoddikaaaamabChecked
import Derived.WalkKit
import Derived.ProofKit
import Derived.OpenShut
import Derived.ShutString
import Derived.ChangeOld
import Derived.Below
import Derived.Lib.Hide
import Derived.Test.YtmdoddikaaaamabZBktW
import Derived.Test.YtmdoddikaaaamabZBktU
import Derived.Test.YtmdoddikaaaamabZDrawK
namespace Go.Proofs.Ytmdoddikaaaamab
open Go.ChangeShapes Go.WideShapes Go.ChangeAt Go.RowKit
open Go.ChangeMaps (open_string shut_string)
set_option linter.unusedVariables false
set_option maxRecDepth 100000
structure Waits (b : Bk) (count at_ : Int) : Prop where
  ok : bktB b = true
  ha : atB b at_ = true
  hc : askB b count = true
  l1 : b.lf ≤ leftB b at_
  l2 : leftB b at_ ≤ b.sz
  r1 : max at_ (readyB b count) ≤ 100000
theorem waits_of {b : Bk} (h : BkDrawn b) {x0 x1 : Int} (h0 : 0 ≤ x0 ∧ x0 < b.sz) (h1 : 0 ≤ x1 ∧ x1 < 30) : Waits b (1 + x0) (b.tm + x1) := by
  have ok := bktB_of h.ok
  obtain ⟨s1, s2, e1, e2, l1, l2, t1, t2⟩ := h
  have ha : atB b (b.tm + x1) = true := by simp [atB]; omega
  have hc : askB b (1 + x0) = true := by simp [askB]; omega
  obtain ⟨z1, z2⟩ := left_le ok ha
  refine ⟨ok, ha, hc, z1, z2, ?_⟩
  unfold readyB
  have hm : 0 ≤ (1000 - (1 + x0 - b.lf)) * b.ev := Int.mul_nonneg (by omega) (by omega)
  have hm2 : 0 ≤ (1000 - (1 + x0 - b.lf)) * (12 - b.ev) := Int.mul_nonneg (by omega) (by omega)
  rw [Int.sub_mul] at hm
  rw [Int.mul_sub, Int.sub_mul, Int.sub_mul] at hm2
  omega
section
variable {b : Bk} {count at_ : Int}
theorem Waits.wok (h : Waits b count at_) : waitOk b count at_ = true := by
  unfold waitOk
  rw [h.ok, h.ha, h.hc]
  have := h.r1
  exact decide_eq_true (by omega)
theorem Waits.wz (h : Waits b count at_) : waitZ b count at_ = max at_ (readyB b count) - at_ := waitZ_yes h.wok
theorem Waits.ah (h : Waits b count at_) : (bktB b && atB b at_) = true := by rw [h.ok, h.ha]; rfl
theorem Waits.all (h : Waits b count at_) : (bktB b && atB b at_ && askB b count) = true := by rw [h.ok, h.ha, h.hc]; rfl
theorem Waits.at2 (h : Waits b count at_) {t : Int} (h1 : at_ ≤ t) (h2 : t ≤ 100000) : (bktB b && atB b t) = true := by
  obtain ⟨a1, a2⟩ := at_le h.ha
  rw [h.ok]
  simp [atB]
  omega
theorem Waits.then_ (h : Waits b count at_) : count ≤ leftB b (at_ + waitZ b count at_) := by
  have hr := h.r1
  have e : at_ + waitZ b count at_ = max at_ (readyB b count) := by rw [h.wz]; omega
  rw [e]
  exact (left_iff (h.at2 (by omega) (by omega)) h.hc).2 (by omega)
theorem Waits.did (h : Waits b count at_) : (decide (waitZ b count at_ = 0)) = didB b count at_ := by
  have hl := left_iff h.ah h.hc
  rw [h.wz]
  unfold didB
  rw [Bool.eq_iff_iff]
  simp only [decide_eq_true_eq]
  omega
theorem Waits.before (h : Waits b count at_) (h0 : 0 < waitZ b count at_) : leftB b (at_ + waitZ b count at_ - 1) < count := by
  have hr := h.r1
  have hw := h.wz
  rw [hw] at h0
  have e : at_ + waitZ b count at_ - 1 = max at_ (readyB b count) - 1 := by rw [hw]; omega
  rw [e]
  have hl := left_iff (h.at2 (t := max at_ (readyB b count) - 1) (by omega) (by omega)) h.hc
  have : ¬ count ≤ leftB b (max at_ (readyB b count) - 1) := fun x => by have := hl.1 x; omega
  omega
theorem Waits.no (h : Waits b count at_) (h0 : 0 < waitZ b count at_) : leftB b at_ < count ∧ takeB b count at_ = b ∧ didB b count at_ = false := by
  have hd := h.did
  have : didB b count at_ = false := by rw [← hd]; exact decide_eq_false (by omega)
  have hl : leftB b at_ < count := by simp [didB] at this; omega
  exact ⟨hl, take_lo hl, this⟩
theorem Waits.yes (h : Waits b count at_) (h0 : ¬ 0 < waitZ b count at_) : waitZ b count at_ = 0 ∧ ¬ leftB b at_ < count ∧ didB b count at_ = true := by
  have hw := h.wz
  have h1 : waitZ b count at_ = 0 := by omega
  have hd := h.did
  have : didB b count at_ = true := by rw [← hd]; exact decide_eq_true h1
  have hl : ¬ leftB b at_ < count := by simp [didB] at this; omega
  exact ⟨h1, hl, this⟩
theorem Waits.taken (h : Waits b count at_) (hl : ¬ leftB b at_ < count) : (bktB (takeB b count at_) && atB (takeB b count at_) at_) = true ∧ leftB (takeB b count at_) at_ = leftB b at_ - count := by
  obtain ⟨s1, s2, e1, e2, l1, l2, t1, t2⟩ := bktB_ok h.ok
  obtain ⟨a1, a2⟩ := at_le h.ha
  obtain ⟨q1, q2⟩ := ask_le h.hc
  have z1 := h.l1; have z2 := h.l2
  have m := mul_le (at_ - b.tm) b.ev (by omega) e1
  have hb : ∀ t, 0 ≤ t → t ≤ at_ → at_ - t < b.ev → (bktB ⟨b.sz, b.ev, leftB b at_ - count, t⟩ && atB ⟨b.sz, b.ev, leftB b at_ - count, t⟩ at_) = true ∧ leftB ⟨b.sz, b.ev, leftB b at_ - count, t⟩ at_ = leftB b at_ - count := by
    intro t h1 h2 h3
    have ok : BkOk ⟨b.sz, b.ev, leftB b at_ - count, t⟩ := ⟨s1, s2, e1, e2, by show 0 ≤ leftB b at_ - count; omega, by show leftB b at_ - count ≤ b.sz; omega, h1, by show t ≤ 1000000; omega⟩
    have hd : (at_ - t) / b.ev = 0 := Int.ediv_eq_zero_of_lt (by omega) h3
    refine ⟨?_, ?_⟩
    · rw [bktB_of ok]
      simp [atB]
      omega
    · show min b.sz (leftB b at_ - count + (at_ - t) / b.ev) = _
      rw [hd]
      omega
  by_cases hf : leftB b at_ = b.sz
  · rw [take_full hl hf]
    exact hb at_ (by omega) (by omega) (by omega)
  · rw [take_hi hl hf]
    refine hb _ (by omega) (by omega) ?_
    have h3 := Int.emod_lt_of_pos (at_ - b.tm) (show 0 < b.ev by omega)
    have h1 := Int.emod_add_mul_ediv (at_ - b.tm) b.ev
    rw [Int.mul_comm] at h1
    omega
theorem Waits.full (h : Waits b count at_) : bktB ⟨b.sz, b.ev, b.sz, at_⟩ = true ∧ (bktB ⟨b.sz, b.ev, b.sz, at_⟩ && atB ⟨b.sz, b.ev, b.sz, at_⟩ at_) = true ∧ leftB ⟨b.sz, b.ev, b.sz, at_⟩ at_ = b.sz := by
  obtain ⟨s1, s2, e1, e2, l1, l2, t1, t2⟩ := bktB_ok h.ok
  obtain ⟨a1, a2⟩ := at_le h.ha
  have hk : bktB ⟨b.sz, b.ev, b.sz, at_⟩ = true := bktB_of ⟨s1, s2, e1, e2, by show 0 ≤ b.sz; omega, Int.le_refl _, by show 0 ≤ at_; omega, a2⟩
  refine ⟨hk, ?_, ?_⟩
  · rw [hk]
    simp [atB]
    omega
  · show min b.sz (b.sz + (at_ - at_) / b.ev) = b.sz
    rw [Int.sub_self, Int.zero_ediv]
    omega
end
end Go.Proofs.Ytmdoddikaaaamab
