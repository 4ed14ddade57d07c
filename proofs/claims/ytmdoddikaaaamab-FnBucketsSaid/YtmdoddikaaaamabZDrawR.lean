import Derived.Test.YtmdoddikaaaamabChecked
import Derived.WalkKit
import Derived.ProofKit
import Derived.OpenShut
import Derived.ShutString
import Derived.ChangeOld
import Derived.Below
import Derived.Lib.Hide
import Derived.Test.YtmdoddikaaaamabZDrawW
namespace Go.Proofs.Ytmdoddikaaaamab
open Go.ChangeShapes Go.WideShapes Go.ChangeAt Go.RowKit
open Go.ChangeMaps (open_string shut_string)
set_option linter.unusedVariables false
set_option maxRecDepth 100000
abbrev u8v : Nat → Value := fun z => .int .u8 (z : Int)
theorem l00From_any (A : Option Addr) (n c : Nat) (zs : List Nat) (B : Nat) (w : World) (h : Row u8v w B A n zs) (hB : B ≤ w.heap.size) (hz : ∀ z ∈ zs, z < 256) :
    Calls Try.prog 111 #[.slice A n c] w fun e w' => e = .returned (.pointer (some ⟨w.heap.size, 0, none⟩)) ∧ w' = w.alloc (.cells #[.slice A n c, .int .i64 0, .int .u64 0] 192) ∧ SrcAt w' w.heap.size A n c zs ((0 : Nat) : Int) 0 := by
  go_enter Try.func111, Try.ntmps111
  go_wp2
  go_ret
  refine ⟨rfl, rfl, Blk.new _ _ _, h.1, hz, fun j z hj => ?_⟩
  obtain ⟨b, off, hA, hb, hc⟩ := h.2 (by have := (List.getElem?_eq_some_iff.1 hj).1; have := h.1; omega)
  refine ⟨b, off, hA, by omega, ?_⟩
  have hb1 := (Below.refl w.heap.size w).alloc (Nat.le_refl _) (.cells #[.slice A n c, .int .i64 0, .int .u64 0] 192)
  exact (hb1.cell (World.block_lt_of_cell? w _ (hc j z hj))).trans (hc j z hj)
theorem u8row {w : World} {a : Option Addr} {len cap : Nat} {zs : List Int} (h : IsRow .u8 w a len cap zs) : ∃ ys : List Nat, Row u8v w w.heap.size a len ys ∧ ∀ z ∈ ys, z < 256 := by
  rcases h with ⟨rfl, rfl, rfl, rfl⟩ | ⟨⟨b, off, spot⟩, rfl, hl, hm, hz, hcell, hwf⟩
  · exact ⟨[], Row.none_, by simp⟩
  · refine ⟨(zs.take len).map Int.toNat, ⟨by simp; omega, fun hn => ?_⟩, ?_⟩
    · have hc0 := hcell 0 (by omega)
      have hspot : spot = none := by simpa [Addr.add] using World.cell?_spot hc0
      subst hspot
      refine ⟨b, off, rfl, ?_, fun j z hj => ?_⟩
      · have := World.block_lt_of_cell? w _ hc0
        simpa [Addr.add] using this
      · have hjl : j < len := by
          have := (List.getElem?_eq_some_iff.1 hj).1
          simp at this; omega
        have hc := hcell j (by omega)
        have hjz : j < zs.length := by omega
        rw [List.getElem?_map, List.getElem?_take_of_lt hjl, List.getElem?_eq_getElem hjz] at hj
        simp at hj
        have hw := hwf zs[j] (List.getElem_mem hjz)
        simp [Lit.wf, IntKind.min, IntKind.max, IntKind.bits, IntKind.signed] at hw
        have e : (⟨b, off, none⟩ : Addr).add j = ⟨b, off + j, none⟩ := by unfold Addr.add; split <;> simp_all
        rw [e] at hc
        rw [hc]
        simp [u8v, List.getD_eq_getElem?_getD, List.getElem?_eq_getElem hjz]
        omega
    · intro z hz
      obtain ⟨y, hy, rfl⟩ := List.mem_map.1 hz
      have hw := hwf y (List.mem_of_mem_take hy)
      simp [Lit.wf, IntKind.min, IntKind.max, IntKind.bits, IntKind.signed] at hw
      omega
theorem r8Long_yes (A A' : Option Addr) (n c n' c' : Nat) (w : World) (h : ¬ (n ≤ 48 ∧ n' ≤ 48)) :
    Calls Try.prog 45 #[.slice A n c, .slice A' n' c'] w fun e w' => e = .returned (.bool true) ∧ w = w' := by
  by_cases h1 : n ≤ 48
  · have x1 : decide ((48 : Int) < (n : Int)) = false := decide_eq_false (by omega)
    have x2 : decide ((48 : Int) < (n' : Int)) = true := decide_eq_true (by omega)
    clear h h1
    go_enter Try.func45, Try.ntmps45
    go_wp2
    go_ret
    exact ⟨rfl, rfl⟩
  · have x1 : decide ((48 : Int) < (n : Int)) = true := decide_eq_true (by omega)
    clear h h1
    go_enter Try.func45, Try.ntmps45
    go_wp2
    go_ret
    exact ⟨rfl, rfl⟩
theorem r8Long_no (A A' : Option Addr) (n c n' c' : Nat) (w : World) (h : n ≤ 48) (h' : n' ≤ 48) :
    Calls Try.prog 45 #[.slice A n c, .slice A' n' c'] w fun e w' => e = .returned (.bool false) ∧ w = w' := by
  have x1 : decide ((48 : Int) < (n : Int)) = false := decide_eq_false (by omega)
  have x2 : decide ((48 : Int) < (n' : Int)) = false := decide_eq_false (by omega)
  clear h h'
  go_enter Try.func45, Try.ntmps45
  go_wp2
  go_ret
  exact ⟨rfl, rfl⟩
theorem r8At_any (A : Option Addr) (n c B : Nat) (zs : List Nat) (k m : Nat) (w : World) (h : Row u8v w B A n zs) (hz : ∀ z ∈ zs, z < 256) (hm : 1 < m) (hm' : m ≤ 1000) (hk : k < 1000) (hn : n ≤ 48) :
    Calls Try.prog 47 #[.slice A n c, .int .i64 (k : Int), .int .i64 (m : Int)] w fun e w' => ∃ x : Int, e = .returned (.int .i64 x) ∧ 0 ≤ x ∧ x < m ∧ w = w' := by
  have x1 : decide ((m : Int) ≤ 1) = false := decide_eq_false (by omega)
  by_cases hkn : k < n
  · obtain ⟨b, off, z, rfl, hb, hzk, hc⟩ := h.at_ hkn
    have hz256 := hz z (List.mem_of_getElem? hzk)
    have x2 : decide ((n : Int) ≤ (k : Int)) = false := decide_eq_false (by omega)
    clear h hz
    go_enter Try.func47, Try.ntmps47
    go_wp2
    go_ret
    exact ⟨_, rfl, Int.emod_nonneg _ (by omega), Int.emod_lt_of_pos _ (by omega), rfl⟩
  · have x2 : decide ((n : Int) ≤ (k : Int)) = true := decide_eq_true (by omega)
    go_enter Try.func47, Try.ntmps47
    go_wp2
    go_ret
    exact ⟨_, rfl, by omega, by omega, rfl⟩
end Go.Proofs.Ytmdoddikaaaamab
