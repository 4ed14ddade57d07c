import Derived.Test.YtmdoddikaaaamaaChecked
import Derived.WalkKit
import Derived.ProofKit
import Derived.OpenShut
import Derived.ShutString
import Derived.ChangeOld
import Derived.Below
import Derived.Lib.Hide
import Derived.MapKept
import Derived.Maps.OwnSet
import Derived.Maps.OwnOps
import Derived.Test.YtmdoddikaaaamaaZPtsP
import Derived.Test.YtmdoddikaaaamaaZLookT
namespace Go.Proofs.Ytmdoddikaaaamaa
open Go.ChangeShapes Go.WideShapes Go.ChangeAt Go.RowKit
open Go.ChangeMaps (open_string shut_string)
set_option linter.unusedVariables false
open Go.Maps
set_option maxRecDepth 100000
def numV (x : Bn) : Value := .int .i64 x.til
/-- what a tally says of a member -/
def lk0 (bs : List Bn) (t : Int) : Int := match bs.find? (fun x => decide (x.id = t)) with | some z => z.til | none => 0
/-- a tally to which v is added for t -/
def addB (bs : List Bn) (t v : Int) : List Bn := putK Bn.id ⟨t, lk0 bs t + v⟩ bs
def talS (at_ fade : Int) (bs : List Bn) (z : Iv) : List Bn := if z.til ≤ at_ then addB bs z.id (ptZ at_ fade z) else bs
def talL (at_ fade : Int) (xs : List Iv) : List Bn := xs.foldl (talS at_ fade) []
theorem talL_step {at_ fade : Int} {xs : List Iv} {k : Nat} {z : Iv} (h : xs[k]? = some z) : talL at_ fade (xs.take (k + 1)) = talS at_ fade (talL at_ fade (xs.take k)) z := by
  unfold talL; rw [take_some h, List.foldl_append]; rfl
theorem addB_rise {bs : List Bn} {t v : Int} (h : Rise Bn.id bs) : Rise Bn.id (addB bs t v) := put_rise h
theorem talS_rise {at_ fade : Int} {bs : List Bn} {z : Iv} (h : Rise Bn.id bs) : Rise Bn.id (talS at_ fade bs z) := by
  unfold talS; split
  · exact addB_rise h
  · exact h
theorem lk0_add {bs : List Bn} {t v m : Int} (h : Rise Bn.id bs) : lk0 (addB bs t v) m = lk0 bs m + (if t = m then v else 0) := by
  have hr := addB_rise (t := t) (v := v) h
  by_cases e : t = m
  · subst e
    have hf := Rise_find (k := Bn.id) hr (z := ⟨t, lk0 bs t + v⟩) (put_mem.2 (.inl rfl))
    rw [if_pos rfl]
    show lk0 (addB bs t v) t = _
    unfold lk0 at hf ⊢
    rw [hf]
  · rw [if_neg e]
    by_cases hm : m ∈ bs.map Bn.id
    · obtain ⟨z, hz, hzm, hzi⟩ := findK_mem hm
      have hf := Rise_find (k := Bn.id) hr (z := z) (put_mem.2 (.inr ⟨hzm, fun x => e (x.symm.trans hzi)⟩))
      rw [hzi] at hf
      unfold lk0; rw [hf, hz]; simp
    · have h1 := findK_none hm
      have hm2 : ¬ m ∈ (addB bs t v).map Bn.id := fun x => by
        obtain ⟨y, hy, hyi⟩ := List.mem_map.1 x
        rcases put_mem.1 hy with rfl | ⟨hy, _⟩
        · exact e hyi
        · exact hm (List.mem_map.2 ⟨y, hy, hyi⟩)
      have h2 := findK_none hm2
      unfold lk0; rw [h1, h2]; simp
theorem lk0_fold {at_ fade m : Int} : ∀ (xs : List Iv) (bs : List Bn), Rise Bn.id bs → lk0 (xs.foldl (talS at_ fade) bs) m = lk0 bs m + ptsL m at_ fade xs := by
  intro xs
  induction xs with
  | nil => intro bs _; simp [ptsL]
  | cons z r ih =>
    intro bs h
    rw [List.foldl_cons, ih _ (talS_rise h), ptsL]
    unfold talS ptOf
    by_cases h1 : z.til ≤ at_
    · rw [if_pos h1, lk0_add h]
      by_cases h2 : z.id = m
      · rw [if_pos h2, if_pos ⟨h2, h1⟩]; omega
      · rw [if_neg h2, if_neg (fun x => h2 x.1)]; omega
    · rw [if_neg h1, if_neg (fun x => h1 x.2)]; omega
theorem rise_nil : Rise Bn.id ([] : List Bn) := List.Pairwise.nil
theorem lk0_tal {at_ fade m : Int} {xs : List Iv} : lk0 (talL at_ fade xs) m = ptsL m at_ fade xs := by
  have h := lk0_fold (at_ := at_) (fade := fade) (m := m) xs [] rise_nil
  unfold talL; rw [h]; simp [lk0]
theorem tal_rise {at_ fade : Int} : ∀ (xs : List Iv) (bs : List Bn), Rise Bn.id bs → Rise Bn.id (xs.foldl (talS at_ fade) bs) := by
  intro xs
  induction xs with
  | nil => intro bs h; exact h
  | cons z r ih => intro bs h; exact ih _ (talS_rise h)
theorem shr_min (x : Int) (K : Nat) (h0 : 0 ≤ x) (h4 : x ≤ 4) : x / (2 : Int) ^ (min K 64) = x / (2 : Int) ^ K := by
  rcases Nat.le_total K 64 with h | h
  · rw [Nat.min_eq_left h]
  · rw [Nat.min_eq_right h]
    have hp : (4 : Int) < (2 : Int) ^ K := by
      have h1 : (2 : Nat) ^ 64 ≤ 2 ^ K := Nat.pow_le_pow_right (by decide) h
      have h2 : ((2 ^ K : Nat) : Int) = (2 : Int) ^ K := by push_cast; rfl
      rw [← h2]
      have h3 : (2 : Nat) ^ 64 = 18446744073709551616 := by decide
      omega
    rw [Int.ediv_eq_zero_of_lt h0 (by have : (4 : Int) < 2 ^ 64 := by decide
                                      omega), Int.ediv_eq_zero_of_lt h0 (by omega)]
/-- what a look-up in a tally gives -/
theorem look_num {P : Program} {mt : TypeId} {kt : TypeId} (K : Keyed P kt) (ht : P.underlying mt = some (.map kt kt)) (hi : P.underlying kt = some (.int .i64)) {w : World} (hz : (zeroValue kt).run P w = .ok (.int .i64 0) w) {b N : Nat} {bs : List Bn}
    (h : w.ownsMap P kt heldR b N (tabD Bn.id numV bs)) (t : Int) (hw : (Lit.int .i64 t).wf = true) :
    (Instr.lookup mt (.map (some b)) (.int .i64 t) false).run P w = .ok (.int .i64 (lk0 bs t)) w := by
  have hl := look_tabT K ht hi hz h t hw
  unfold lk0
  cases hf : bs.find? (fun x => decide (x.id = t)) with
  | some z => exact (hl.1 z hf).2
  | none => exact (hl.2 hf).2
end Go.Proofs.Ytmdoddikaaaamaa
