import Derived.Test.YteeodjbionjlmaaChecked
import Derived.WalkKit
import Derived.ProofKit
import Derived.OpenShut
import Derived.ShutString
import Derived.ChangeOld
import Derived.Below
import Derived.Lib.Hide
import Derived.Sort.OwnSortedInts
import Derived.Sort.OwnSorted
import Derived.Test.YteeodjbionjlmaaJa
import Derived.Test.YteeodjbionjlmaaShelf
import Derived.Test.YteeodjbionjlmaaJr
namespace Go.Proofs.Yteeodjbionjlmaa
open Go.ChangeShapes Go.WideShapes Go.ChangeAt Go.RowKit
open Go.ChangeMaps (open_string shut_string)
set_option linter.unusedVariables false
open Go.Sort
theorem own_cutTo {w : World} {base e n m g cap : Nat} {xs ys : List Value} (h : w.ownsRow base e 1 (.slice (some ⟨g, 0, none⟩) n cap) n (xs ++ ys)) (hm : xs.length = m) : w.ownsRow base e 1 (.slice (some ⟨g, 0, none⟩) m cap) m xs := by
  have hl : (xs ++ ys).length = n := by simpa using h.1
  rw [List.length_append] at hl
  rcases h.2 with ⟨h0, _⟩ | ⟨g', cap', cur, hv, hg, hh, hn, hcap, hsz, htake⟩
  · cases h0
  · cases hv
    refine ⟨by simp [hm], .inr ⟨g, cap, cur, rfl, hg, hh, by omega, hcap, hsz, ?_⟩⟩
    have : cur.toList.take (m * 1) = (cur.toList.take (n * 1)).take m := by rw [List.take_take]; congr 1; omega
    rw [this, htake, ← hm, List.take_left']
    rfl
theorem grown_trans {w w1 w2 : World} {row : Option Nat} (h1 : w.grownBy w1 row) (h2 : w1.grownBy w2 row) : w.grownBy w2 row :=
  ⟨h2.os.trans h1.os, h2.tape.trans h1.tape, h2.output.trans h1.output, Nat.le_trans h1.size h2.size, fun k hk hne => (h2.block k (Nat.lt_of_lt_of_le hk h1.size) hne).trans (h1.block k hk hne)⟩
set_option maxHeartbeats 400000 in
theorem setOf_any (A : Option Addr) (n c base : Nat) (xs : List Int) (w : World) (h : w.ownsRow base 2 1 (.slice A n c) n (xs.map i64v)) (hn : n ≤ 1073741824) :
    Calls Try.prog 115 #[.slice A n c] w fun e w' => ∃ m, e = .returned (.slice A m c) ∧ w'.ownsRow base 2 1 (.slice A m c) m ((setL xs).map i64v) ∧ w.grownBy w' (Value.slice A n c).ownBlock := by
  have hl : xs.length = n := by simpa using h.1
  by_cases h0 : n = 0
  · subst h0
    have hx : xs = [] := List.length_eq_zero_iff.1 hl
    subst hx
    clear hl hn
    go_enter Try.func115, Try.ntmps115
    go_wp2_with (first | (go_at_call 156; refine (Try.slices_Sort_int_none A c _).mono ?_; rintro e w' ⟨rfl, rfl⟩) | (go_at_call 157; refine (Try.slices_Compact_int_empty A c _).mono ?_; rintro e w' ⟨rfl, rfl⟩))
    go_ret
    exact ⟨0, rfl, by rw [setL_nil]; exact h, World.grownBy.refl _ _⟩
  · rcases h.2 with ⟨_, hn0⟩ | ⟨g, cap, cur, hv, hbg, hg, hcn, hcap, hcs, htake⟩
    · exact absurd hn0 h0
    · injection hv with hA _ hc
      subst hA; subst hc; subst hl
      have hH : Holds (Value.int .i64) w g 0 xs.toArray := holds_of_blockI hg (by rw [Nat.mul_one] at htake; exact htake)
      have hglt : g < w.heap.size := (h.lt g rfl).2
      have hsort := Try.slices_Sort_int g 0 c xs w hH hglt (by omega)
      have HP := Lib.hid (sorted_sort xs)
      have hlen : (xs.mergeSort fun x y => decide (x ≤ y)).length = xs.length := List.length_mergeSort xs
      have hset : setL xs = Lib.compact (xs.mergeSort fun x y => decide (x ≤ y)) := rfl
      generalize hts : (xs.mergeSort fun x y => decide (x ≤ y)) = ts at *
      clear hts
      have hcle := (compact_facts ts HP.out).2.2
      have HSET := Lib.hid hset
      clear hset
      go_enter Try.func115, Try.ntmps115
      go_wp2_with fail
      go_at_call 156; refine hsort.mono ?_; rintro e w1 ⟨rfl, q, os, hw1⟩
      have ho1 : w1.ownsRow base 2 1 (.slice (some ⟨g, 0, none⟩) xs.length c) xs.length (ts.map (Value.int .i64)) := by rw [hw1]; exact ownsRow_sortedI hlen hbg hg hcn hcap hcs
      have hgr1 : w.grownBy w1 (some g) := by rw [hw1]; exact grownBy_sortedI _
      clear hw1 hsort hH h
      rcases ho1.2 with ⟨hz, _⟩ | ⟨g', cap', cur1, hv1, _, hg1, _, _, hcs1, htake1⟩
      · cases hz
      cases hv1
      have hH1 : Holds (Value.int .i64) w1 g 0 ts.toArray := holds_of_blockI hg1 (by rw [hlen]; rw [Nat.mul_one] at htake1; exact htake1)
      have hcomp := Try.slices_Compact_int g 0 c ts w1 hH1 (by omega) (by omega)
      rw [hlen] at hcomp
      clear hH1 htake1 htake
      go_wp2_with fail
      go_at_call 157; refine hcomp.mono ?_; rintro e w2 ⟨rfl, q2, hw2⟩
      have ho2 : w2.ownsRow base 2 1 (.slice (some ⟨g, 0, none⟩) xs.length c) xs.length ((Lib.compact ts ++ List.replicate (xs.length - (Lib.compact ts).length) 0).map (Value.int .i64)) := by
        rw [hw2, ← grow_empty (putRow _ _ _ _ _)]
        exact ownsRow_sortedI (by rw [List.length_append, List.length_replicate]; omega) hbg hg1 hcn hcap hcs1
      have hgr2 : w1.grownBy w2 (some g) := by rw [hw2, ← grow_empty (putRow _ _ _ _ _)]; exact grownBy_sortedI _
      clear hw2 hcomp ho1
      go_wp2
      go_ret
      exact ⟨_, rfl, by rw [HSET.out]; rw [List.map_append] at ho2; exact own_cutTo ho2 (by simp), grown_trans hgr1 hgr2⟩
end Go.Proofs.Yteeodjbionjlmaa
