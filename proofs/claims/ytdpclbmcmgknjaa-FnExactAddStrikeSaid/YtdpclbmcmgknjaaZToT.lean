import Derived.Test.YtdpclbmcmgknjaaChecked
import Derived.WalkKit
import Derived.ProofKit
import Derived.OpenShut
import Derived.ShutString
import Derived.ChangeOld
import Derived.Below
import Derived.Lib.Hide
import Derived.Deep.MidRow
import Derived.Test.YtdpclbmcmgknjaaJc
namespace Go.Proofs.Ytdpclbmcmgknjaa
open Go.ChangeShapes Go.WideShapes Go.ChangeAt Go.RowKit
open Go.ChangeMaps (open_string shut_string)
set_option linter.unusedVariables false
set_option maxRecDepth 100000
theorem toStrike_any (z : Iv) (w : World) :
    Calls Try.prog 27 #[.agg #[.int .i64 z.id, .int .i64 z.byy, .int .i64 z.til]] w fun e w' => e = .returned (.agg #[.int .i64 z.id, .int .i64 z.byy, .int .i64 z.til]) ∧ Below w.heap.size w w' := by
  go_enter Try.func27, Try.ntmps27
  go_wp2
  exact bodyPost_ret (v := .agg #[.int .i64 z.id, .int .i64 z.byy, .int .i64 z.til]) (by simp [results, Try.results27, go_sem]) rfl ⟨rfl, by repeat (first | exact Below.refl _ _ | refine Below.setCell ?_ (by simp) _ | refine Below.alloc ?_ (by first | (simp; omega) | simp) _)⟩
theorem Try.info_Strike : (Try.prog.info? 50).map (fun i => (i.zero, i.size, i.bytes)) = some (some (.agg #[.int .i64 0, .int .i64 0, .int .i64 0]), 3, 24) := by kernel_rfl
theorem Try.size_Strike : (Try.prog.info? 50).map (·.size) = some 3 := by kernel_rfl
set_option maxHeartbeats 800000 in
theorem toStrikeS_any (A : Option Addr) (n c : Nat) (xs : List Iv) (w : World) (h : SRow 3 ivC w w.heap.size A n xs) (hn : n ≤ 1048576) :
    Calls Try.prog 26 #[.slice A n c] w fun e w' => ∃ g, e = .returned (.slice (some ⟨g, 0, none⟩) n n) ∧ w'.ownsRow w.heap.size 50 3 (.slice (some ⟨g, 0, none⟩) n n) n (xs.flatMap ivC) ∧ Below w.heap.size w w' := by
  obtain ⟨i0, hi, hz0, hz1, hz2⟩ := info_parts Try.info_Strike
  have HL := Lib.hid h.1
  go_enter Try.func26, Try.ntmps26
  go_wp2_with (at_make; refine wpList_make_full _ rfl _ _ 46 rfl w.heap.size 50 i0 (.agg #[.int .i64 0, .int .i64 0, .int .i64 0]) 3 Try.underlying46 hi hz0 hz1 _ _ _ _ n rfl rfl rfl rfl (by rw [hz2]; omega) (by unfold maxLen; omega) (Nat.le_refl _) ?_; intro w1 hown1 hgrow1)
  have hbel1 : Below w.heap.size w w1 := (Below.refl _ _).grown hgrow1 (Nat.le_refl _) (by simp)
  clear hgrow1
  go_loopw [4] (fun i wr => ∃ (k : Nat) (tail : List Value), k ≤ n ∧ i = .int .i64 k ∧ wr.ownsRow w.heap.size 50 3 (.slice (some ⟨w.heap.size, 0, none⟩) n n) n ((xs.take k).flatMap ivC ++ tail) ∧ Below w.heap.size w wr) (fun i _ => n - (intOf i).toNat)
  case atStart => exact ⟨0, _, by omega, rfl, hown1, hbel1⟩
  case round =>
    obtain ⟨k, tail, hk, rfl, hown, hbel⟩ := hrel
    clear hown1 hbel1
    by_cases hlt : k < n
    · obtain ⟨b, off, z, rfl, hb, hz, c0, c1, c2⟩ := h.ativ hlt
      have HZ := Lib.hid hz
      clear hz
      have d0 : wr.cell? ⟨b, off + k * 3, none⟩ = some (.int .i64 z.id) := (hbel.cell hb).trans c0
      have d1 : wr.cell? ⟨b, off + k * 3 + 1, none⟩ = some (.int .i64 z.byy) := (hbel.cell hb).trans c1
      have d2 : wr.cell? ⟨b, off + k * 3 + 2, none⟩ = some (.int .i64 z.til) := (hbel.cell hb).trans c2
      have HO := Lib.hid hown
      have hsz := hbel.size
      clear hown c0 c1 c2
      go_wp2_with fail
      go_at_call 27; refine (toStrike_any z _).mono ?_; rintro e w2 ⟨rfl, hb2⟩
      have hbel2 := hbel.trans (hb2.mono hsz)
      have hsz2 := hbel2.size
      have HO2 := Lib.hid (own_below HO.out hb2 (Nat.le_refl _))
      have HN := Lib.hid (own_next' ivC_len (#[.int .i64 z.id, .int .i64 z.byy, .int .i64 z.til] : Array Value).toList HZ.out rfl hlt HO2.out (by have := HL.out; omega))
      have HT := Lib.hid (own_there HO2.out (k * 3) 3 (by omega))
      clear HO hb2 HO2
      go_wp2_with (refine wpList_store_mid rfl 50 (.tmp 21) (.tmp 20) rfl w.heap.size (k * 3) #[.int .i64 z.id, .int .i64 z.byy, .int .i64 z.til] rfl rfl HT.out Try.size_Strike (ivC_one z) ?_; have hst := HN.out; revert hst; generalize World.setCells _ _ _ _ = w3; intro hst)
      go_roundw
      case rel => exact ⟨k + 1, tail.drop 3, by omega, by go_num, hst.1, hbel2.grown hst.2 hsz2 (by simp)⟩
      case measure => simp [intOf]; omega
    · have hkn : k = n := by omega
      subst hkn
      have HO := Lib.hid (own_full ivC_len HL.out hown)
      clear hown
      go_wp2
      go_ret
      exact ⟨_, rfl, HO.out, hbel⟩
end Go.Proofs.Ytdpclbmcmgknjaa
