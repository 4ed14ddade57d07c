import Derived.Test.YteeodjbionjlmaaChecked
import Derived.WalkKit
import Derived.ProofKit
import Derived.OpenShut
import Derived.ShutString
import Derived.ChangeOld
import Derived.Below
import Derived.Lib.Hide
import Derived.Test.YteeodjbionjlmaaZChainI
namespace Go.Proofs.Yteeodjbionjlmaa
open Go.ChangeShapes Go.WideShapes Go.ChangeAt Go.RowKit
open Go.ChangeMaps (open_string shut_string)
set_option linter.unusedVariables false
def IsRowS (w : World) (a : Option Addr) (len cap : Nat) (zs : List ByteArray) : Prop :=
  (a = none ∧ len = 0 ∧ cap = 0 ∧ zs = []) ∨
  ∃ x, a = some x ∧ len ≤ cap ∧ cap ≤ maxLen ∧ zs.length = cap ∧ (∀ i, i < zs.length → w.cell? (x.add i) = some (.string (zs.getD i ByteArray.empty))) ∧ ∀ s ∈ zs, s.size ≤ maxLen
theorem row_of_isRowS {w : World} {a : Option Addr} {len cap : Nat} {zs : List ByteArray} (h : IsRowS w a len cap zs) : Row strv w w.heap.size a len (zs.take len) := by
  rcases h with ⟨rfl, rfl, rfl, rfl⟩ | ⟨⟨b, off, spot⟩, rfl, hl, hm, hz, hcell, _⟩
  · exact Row.none_
  · refine ⟨by simp; omega, fun hn => ?_⟩
    have hc0 := hcell 0 (by omega)
    have hspot : spot = none := by simpa [Addr.add] using World.cell?_spot hc0
    subst hspot
    refine ⟨b, off, rfl, ?_, fun j z hj => ?_⟩
    · have := World.block_lt_of_cell? w _ hc0
      simpa [Addr.add] using this
    · have hjl : j < len := by
        have := (List.getElem?_eq_some_iff.1 hj).1
        simp at this; omega
      have := hcell j (by omega)
      rw [List.getElem?_take_of_lt hjl] at hj
      have e : (⟨b, off, none⟩ : Addr).add j = ⟨b, off + j, none⟩ := by unfold Addr.add; split <;> simp_all
      rw [e] at this
      rw [this]
      simp [hj]
theorem sizes_of_isRowS {w : World} {a : Option Addr} {len cap : Nat} {zs : List ByteArray} (h : IsRowS w a len cap zs) : ∀ s ∈ zs.take len, s.size ≤ maxLen := by
  intro s hs
  rcases h with ⟨rfl, rfl, rfl, rfl⟩ | ⟨_, _, _, _, _, _, hsz⟩
  · simp at hs
  · exact hsz s (List.mem_of_mem_take hs)
theorem len_of_isRowS {w : World} {a : Option Addr} {len cap : Nat} {zs : List ByteArray} (h : IsRowS w a len cap zs) : len ≤ maxLen := by
  rcases h with ⟨rfl, rfl, rfl, rfl⟩ | ⟨_, _, h1, h2, _, _, _⟩
  · exact Nat.zero_le _
  · omega
set_option maxHeartbeats 400000 in
theorem szStringS_any (A : Option Addr) (n c : Nat) (xs : List ByteArray) (w : World) (h : Row strv w w.heap.size A n xs) (hs : ∀ s ∈ xs, s.size ≤ maxLen) (hn : n ≤ maxLen) :
    Calls Try.prog 20 #[.slice A n c, .int .i64 1048576] w fun e w' => ∃ r : Int, e = .returned (.int .i64 r) ∧ w = w' ∧ r ≤ 1048576 ∧ (r < 0 ∨ n ≤ 1048576) ∧ -1 ≤ r := by
  unfold maxLen at hn
  go_enter Try.func20, Try.ntmps20
  by_cases hb : n ≤ 1048576
  · go_wp2
    go_loopw [1, 5] (fun q i wr => ∃ (k : Nat) (r : Int), k ≤ n ∧ i = .int .i64 k ∧ q = .int .i64 r ∧ 0 ≤ r ∧ r ≤ 1048576 ∧ wr = w) (fun _ i _ => n - (intOf i).toNat)
    case atStart => exact ⟨0, 1048576 - (n : Int), by omega, rfl, by go_num, by omega, by omega, rfl⟩
    case round =>
      obtain ⟨k, r, hk, rfl, rfl, hr0, hr1, rfl⟩ := hrel
      by_cases hkn : k < n
      · obtain ⟨bb, off, z, rfl, hblt, hz, hc⟩ := h.ats hkn
        have hzs : z.size ≤ 9223372036854775807 := hs z (List.mem_of_getElem? hz)
        clear hz hs
        by_cases hneg : r - (z.size : Int) < 0
        · go_wp2
          go_ret
          exact ⟨-1, rfl, rfl, by omega, .inl (by omega), by omega⟩
        · go_wp2
          go_roundw
          case rel => exact ⟨k + 1, r - z.size, by omega, by go_num, by go_num, by omega, by omega, by first | rfl | trivial⟩
          case measure => simp [intOf]; omega
      · go_wp2
        go_ret
        exact ⟨r, rfl, rfl, hr1, .inr hb, by omega⟩
  · go_wp2
    go_ret
    exact ⟨-1, rfl, rfl, by omega, .inl (by omega), by omega⟩
theorem chTo_len2 (b : ByteArray) (xs : List ByteArray) : (chTo b xs xs.length).1.length = xs.length := chTo_len b xs _ (Nat.le_refl _)
end Go.Proofs.Yteeodjbionjlmaa
