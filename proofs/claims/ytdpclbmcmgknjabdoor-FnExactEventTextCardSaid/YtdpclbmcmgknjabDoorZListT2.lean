import Derived.Test.YtdpclbmcmgknjabDoorChecked
import Derived.WalkKit
import Derived.ProofKit
import Derived.OpenShut
import Derived.ShutString
import Derived.ChangeOld
import Derived.Below
import Derived.Lib.Hide
import Derived.Test.YtdpclbmcmgknjabDoorZListT
namespace Go.Proofs.YtdpclbmcmgknjabDoor
open Go.ChangeShapes Go.WideShapes Go.ChangeAt Go.RowKit
open Go.ChangeMaps (open_string shut_string)
set_option linter.unusedVariables false
def smallB (xs : List Int) : Bool := xs.all fun x => decide (-1000000000 ≤ x ∧ x ≤ 1000000000)
theorem smallB_iff (xs : List Int) : smallB xs = true ↔ SmallL xs := by simp [smallB, SmallL]
theorem smallB_at {xs : List Int} (h : smallB xs = true) {k : Nat} {x : Int} (hx : xs[k]? = some x) : -1000000000 ≤ x ∧ x ≤ 1000000000 := (smallB_iff xs).1 h x (List.mem_of_getElem? hx)
/-- the first number that is too great stands at m, or there is none -/
def FewAt (xs : List Int) (m : Nat) : Prop := m ≤ xs.length ∧ (∀ j x, j < m → xs[j]? = some x → -1000000000 ≤ x ∧ x ≤ 1000000000) ∧ ∀ x, xs[m]? = some x → ¬ (-1000000000 ≤ x ∧ x ≤ 1000000000)
theorem fewAt_ex (xs : List Int) : ∃ m, FewAt xs m := by
  induction xs with
  | nil => exact ⟨0, Nat.le_refl _, fun j p h => by omega, fun p h => by simp at h⟩
  | cons x xs ih =>
    obtain ⟨m, h1, h2, h3⟩ := ih
    by_cases hx : -1000000000 ≤ x ∧ x ≤ 1000000000
    · refine ⟨m + 1, by simpa using h1, ?_, fun p hp => h3 p (by simpa using hp)⟩
      intro j p hj hp
      cases j with
      | zero => simp at hp; subst hp; exact hx
      | succ j => exact h2 j p (by omega) (by simpa using hp)
    · exact ⟨0, Nat.zero_le _, fun j p h => by omega, fun p hp => by simp at hp; subst hp; exact hx⟩
theorem few_small {xs : List Int} (h : FewAt xs xs.length) : SmallL xs := fun x hx => by
  obtain ⟨j, hj, e⟩ := List.mem_iff_getElem.1 hx
  exact h.2.1 j x hj (by rw [List.getElem?_eq_getElem hj, e])
set_option maxHeartbeats 800000 in
theorem l01Text_any (A : Option Addr) (n c : Nat) (x0 : Int) (r : List Int) (w : World) (h : Row i64v w w.heap.size A n (x0 :: r)) (hn : n ≤ 300) (hs : SmallL (x0 :: r)) :
    Calls Tryd.prog 23 #[.slice A n c] w fun e w' => e = .returned (.string (ltTo (x0 :: r) r.length)) ∧ Below w.heap.size w w' := by
  have hlen := h.1
  have hl2 : r.length + 1 = n := by simpa using hlen
  have HL := Lib.hid hl2
  have HSZ := Lib.hid (ltTo_size x0 r hs)
  obtain ⟨b, off, x, hA, hblt, hx, hc⟩ := h.ati (show 0 < n by omega)
  simp at hx
  subst hx
  have hc0 : w.cell? ⟨b, off, none⟩ = some (.int .i64 x0) := by simpa using hc
  have hx0 := hs x0 (by simp)
  have hA2 := hA
  subst hA2
  clear hA hc hlen
  have hn0 : ¬ n = 0 := by omega
  go_enter Tryd.func23, Tryd.ntmps23
  go_wp2_with (go_at_call 36; refine (l01Dec_any _ (by omega) (by omega) _).mono ?_; rintro e w1 ⟨rfl, hb1⟩)
  go_loopw [3, 4] (fun o i wr => ∃ k : Nat, k ≤ r.length ∧ i = .int .i64 ((k + 1 : Nat) : Int) ∧ o = .string (ltTo (x0 :: r) k) ∧ Below w.heap.size w wr) (fun _ i _ => n - (intOf i).toNat)
  case atStart => exact ⟨0, by omega, rfl, rfl, hb1⟩
  case round =>
    obtain ⟨k, hk, rfl, rfl, hbel⟩ := hrel
    clear hb1 hc0
    have hbs := hbel.size
    by_cases hkn : k < r.length
    · obtain ⟨bb, off', y, hA, hblt', hy, hcw⟩ := h.ati (show k + 1 < n by omega)
      injection hA with hA
      injection hA with e1 e2 _
      subst e1; subst e2
      have hc : wr.cell? ⟨b, off + (k + 1), none⟩ = some (.int .i64 y) := (hbel.cell hblt').trans hcw
      have hy2 : r[k]? = some y := by simpa using hy
      have hyb := hs y (by simp [List.mem_of_getElem? hy2])
      have HS := Lib.hid (ltTo_succ x0 r k y hy2)
      have hsz := HSZ.out k (by omega)
      have hds := ds_size y hyb.1 hyb.2
      have hs1 : (⟨#[44]⟩ : ByteArray).size + (strOfNums (decL y)).size ≤ 9223372036854775807 := by show 1 + (ds y).size ≤ _; omega
      have hs2 : (ltTo (x0 :: r) k).size + ((⟨#[44]⟩ : ByteArray) ++ strOfNums (decL y)).size ≤ 9223372036854775807 := by rw [ByteArray.size_append]; show _ + (1 + (ds y).size) ≤ _; omega
      clear hcw hy hy2
      generalize ltTo (x0 :: r) k = st at *
      go_wp2_with (go_at_call 36; refine (l01Dec_any _ (by omega) (by omega) _).mono ?_; rintro e w2 ⟨rfl, hb2⟩)
      go_roundw
      case rel => exact ⟨k + 1, by omega, by go_num, by rw [HS.out]; rfl, hbel.trans (hb2.mono hbs)⟩
      case measure => simp [intOf]; omega
    · have hke : k = r.length := by omega
      subst hke
      go_wp2
      go_ret
      exact ⟨rfl, hbel⟩
end Go.Proofs.YtdpclbmcmgknjabDoor
