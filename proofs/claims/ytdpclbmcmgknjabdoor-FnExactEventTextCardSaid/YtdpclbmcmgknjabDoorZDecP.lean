import Derived.Lib.ItoaNum
import Derived.Laws.BytesArg
namespace Go.Proofs.YtdpclbmcmgknjabDoor
set_option linter.unusedVariables false
def dg (u : Nat) : List Int := (Lib.decDigits u).map fun b => (b.toNat : Int)
theorem dg_small {u : Nat} (h : u < 10) : dg u = [48 + (u : Int)] := by
  have h2 : (48 + u) % 256 = 48 + u := Nat.mod_eq_of_lt (by omega)
  rw [dg, Lib.decDigits]
  simp [h]
  omega
theorem dg_big {u : Nat} (h : ¬ u < 10) : dg u = dg (u / 10) ++ [48 + ((u % 10 : Nat) : Int)] := by
  rw [dg, Lib.decDigits]
  simp [h, dg]
  omega
theorem dg_step (u : Nat) : dg u = (if u / 10 = 0 then [] else dg (u / 10)) ++ [48 + ((u % 10 : Nat) : Int)] := by
  by_cases h : u < 10
  · have h1 : u / 10 = 0 := by omega
    have h2 : u % 10 = u := by omega
    rw [dg_small h, if_pos h1, h2]; rfl
  · have h1 : ¬ u / 10 = 0 := by omega
    rw [dg_big h, if_neg h1]
def DecInv (u : Nat) (out : List Int) (r : Nat) : Prop := (out = [] ∧ r = u) ∨ (out ≠ [] ∧ dg u = (if r = 0 then [] else dg r) ++ out)
theorem DecInv.start (u : Nat) : DecInv u [] u := .inl ⟨rfl, rfl⟩
theorem DecInv.step {u r : Nat} {out : List Int} (h : DecInv u out r) (hc : out = [] ∨ r ≠ 0) : DecInv u ((48 + ((r % 10 : Nat) : Int)) :: out) (r / 10) := by
  refine .inr ⟨by simp, ?_⟩
  rcases h with ⟨rfl, rfl⟩ | ⟨h1, h2⟩
  · exact dg_step r
  · rcases hc with hc | hc
    · exact absurd hc h1
    · rw [h2, if_neg hc, dg_step r]
      simp
theorem DecInv.done {u r : Nat} {out : List Int} (h : DecInv u out r) (h0 : out ≠ []) (hr : r = 0) : dg u = out := by
  rcases h with ⟨h1, _⟩ | ⟨_, h2⟩
  · exact absurd h1 h0
  · rw [h2, if_pos hr]; rfl
/-- at most nineteen digits -/
def DecLen (n r : Nat) : Prop := n ≤ 19 ∧ r < 10 ^ (19 - n)
theorem DecLen.start {u : Nat} (h : u ≤ 9223372036854775808) : DecLen 0 u := ⟨by omega, Nat.lt_of_le_of_lt h (by decide)⟩
theorem DecLen.step {n r : Nat} (h : DecLen n r) (hc : n = 0 ∨ r ≠ 0) : DecLen (n + 1) (r / 10) := by
  obtain ⟨h1, h2⟩ := h
  by_cases hn : n = 19
  · subst hn
    have : r < 1 := by simpa using h2
    rcases hc with hc | hc <;> omega
  · obtain ⟨e, he⟩ : ∃ e, 19 - n = e + 1 := ⟨18 - n, by omega⟩
    rw [he, Nat.pow_succ] at h2
    refine ⟨by omega, ?_⟩
    rw [show 19 - (n + 1) = e by omega]
    omega
theorem rem_pos (r : Nat) : Int.tmod (r : Int) 10 = ((r % 10 : Nat) : Int) := rfl
theorem quo_pos (r : Nat) : Int.tdiv (r : Int) 10 = ((r / 10 : Nat) : Int) := rfl
theorem rem_neg (r : Nat) : Int.tmod (-(r : Int)) 10 = -((r % 10 : Nat) : Int) := by rw [Int.neg_tmod]; rfl
theorem quo_neg (r : Nat) : Int.tdiv (-(r : Int)) 10 = -((r / 10 : Nat) : Int) := by rw [Int.neg_tdiv]; rfl
def decL (n : Int) : List Int := if n < 0 then 45 :: dg n.natAbs else dg n.natAbs
theorem decL_itoa (n : Int) : decL n = (Lib.itoa n).map fun b => (b.toNat : Int) := by
  unfold decL Lib.itoa
  split
  · rfl
  · rw [show n.natAbs = n.toNat by omega]; rfl
theorem decL_str (n : Int) : strOfNums (decL n) = ⟨(Lib.itoa n).toArray⟩ := by
  rw [decL_itoa]
  have e : ((fun n : Int => UInt8.ofNat n.toNat) ∘ fun x : UInt8 => (x.toNat : Int)) = id := by funext x; simp
  simp only [strOfNums, List.map_map, e, List.map_id]
end Go.Proofs.YtdpclbmcmgknjabDoor
