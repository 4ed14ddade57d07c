import Derived.Test.YteeodjbionjlmaaZPlain1
namespace Go.Proofs.Yteeodjbionjlmaa
set_option linter.unusedVariables false
def nameC (c : UInt8) : Bool := 97 ≤ c && c ≤ 122
def nameB (s : ByteArray) : Bool := decide (1 ≤ s.size ∧ s.size ≤ 8) && s.data.toList.all nameC
theorem nameC_yes {c : UInt8} (h1 : 97 ≤ (c.toNat : Int)) (h2 : (c.toNat : Int) ≤ 122) : nameC c = true := by
  simp [nameC, UInt8.le_iff_toNat_le]; omega
theorem nameC_no {c : UInt8} (h : (c.toNat : Int) < 97 ∨ 122 < (c.toNat : Int)) : nameC c = false := by
  simp [nameC, UInt8.le_iff_toNat_le]; omega
theorem nameB_out {s : ByteArray} (h : ¬ (1 ≤ s.size ∧ s.size ≤ 8)) : nameB s = false := by simp [nameB, h]
theorem nameB_bad {s : ByteArray} {k : Nat} (hk : k < s.size) (hp : nameC s[k] = false) : nameB s = false := by
  simp only [nameB, all_false hk hp, Bool.and_false]
theorem nameB_end {s : ByteArray} {k : Nat} (h : AllTo nameC s k) (hk : s.size ≤ k) : nameB s = decide (1 ≤ s.size ∧ s.size ≤ 8) := by
  simp only [nameB, h.all hk, Bool.and_true]
theorem nameB_in {s : ByteArray} {k : Nat} (h : AllTo nameC s k) (hk : s.size ≤ k) (hs : 1 ≤ s.size ∧ s.size ≤ 8) : nameB s = true := by
  rw [nameB_end h hk]; simp [hs]
end Go.Proofs.Yteeodjbionjlmaa
