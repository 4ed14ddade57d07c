import Derived.Test.YtmdoddikaaaamabChecked
import Derived.WalkKit
import Derived.ProofKit
import Derived.OpenShut
import Derived.ShutString
import Derived.ChangeOld
import Derived.Below
import Derived.Lib.Hide
import Derived.Deep.RegionHeld3
import Derived.Laws.Bits64b
import Derived.Test.YtmdoddikaaaamabJo
namespace Go.Proofs.Ytmdoddikaaaamab
open Go.ChangeShapes Go.WideShapes Go.ChangeAt Go.RowKit
open Go.ChangeMaps (open_string shut_string)
set_option linter.unusedVariables false
set_option maxRecDepth 100000
/-- the source of a draw: bytes, how many have been read, and the seed -/
def SrcAt (w : World) (S : Nat) (A : Option Addr) (n c : Nat) (zs : List Nat) (a sd : Int) : Prop :=
  Blk w S 192 #[.slice A n c, .int .i64 a, .int .u64 sd] ∧ zs.length = n ∧ (∀ z ∈ zs, z < 256) ∧ ∀ (j z : Nat), zs[j]? = some z → ∃ b off, A = some ⟨b, off, none⟩ ∧ b ≠ S ∧ w.cell? ⟨b, off + j, none⟩ = some (.int .u8 (z : Int))
theorem grown_set (w : World) (S i : Nat) (v : Value) : w.grownBy (w.setCell ⟨S, i, none⟩ v) (some S) :=
  ⟨rfl, rfl, rfl, by simp, fun k hk hne => Below.heap_setCell w _ v k (fun e => hne (by rw [e]))⟩
theorem grown_two {w : World} {S : Nat} (v1 v2 : Value) (k : Nat) : w.grownBy (((w.setCell ⟨S, 1, none⟩ v1).setCell ⟨S, 2, none⟩ v2).drewN k) (some S) := by
  have h := (grown_set w S 1 v1).trans (grown_set _ S 2 v2)
  exact ⟨h.os, h.tape, h.output, h.size, h.block⟩
theorem src_two {w : World} {S : Nat} {x y z v1 v2 : Value} (h : Blk w S 192 #[x, y, z]) (k : Nat) : Blk (((w.setCell ⟨S, 1, none⟩ v1).setCell ⟨S, 2, none⟩ v2).drewN k) S 192 #[x, v1, v2] := (h.set_ 1 v1).set_ 2 v2
theorem SrcAt.grown {w w' : World} {S : Nat} {A : Option Addr} {n c : Nat} {zs : List Nat} {a sd : Int} (h : SrcAt w S A n c zs a sd) {row : Option Nat} (hg : w.grownBy w' row) (hr : ∀ b, 0 < n → A = some b → some b.block ≠ row) (hS : some S ≠ row) : SrcAt w' S A n c zs a sd :=
  ⟨h.1.grown hg hS, h.2.1, h.2.2.1, fun j z hz => by
    obtain ⟨b, off, hA, hb, hc⟩ := h.2.2.2 j z hz
    exact ⟨b, off, hA, hb, hg.cell hc (show some b ≠ row from hr ⟨b, off, none⟩ (by have := (List.getElem?_eq_some_iff.1 hz).1; have := h.2.1; omega) hA)⟩⟩
theorem SrcAt.moved {w w' : World} {S : Nat} {A : Option Addr} {n c : Nat} {zs : List Nat} {a sd a' sd' : Int} (h : SrcAt w S A n c zs a sd) (hg : w.grownBy w' (some S)) (hk : Blk w' S 192 #[.slice A n c, .int .i64 a', .int .u64 sd']) : SrcAt w' S A n c zs a' sd' :=
  ⟨hk, h.2.1, h.2.2.1, fun j z hz => by
    obtain ⟨b, off, hA, hb, hc⟩ := h.2.2.2 j z hz
    exact ⟨b, off, hA, hb, hg.cell hc (by intro e; cases e; exact hb rfl)⟩⟩
theorem low8 (y : Int) (h0 : 0 ≤ y) (h1 : y < 18446744073709551616) : 0 ≤ wrap64 (bits BinOp.and IntKind.u64 y 255) ∧ wrap64 (bits BinOp.and IntKind.u64 y 255) < 256 := by
  obtain ⟨m, rfl⟩ : ∃ m : Nat, y = m := ⟨y.toNat, by omega⟩
  have h := bits_and_u64_nat m 255 (by omega) (by decide)
  rw [show ((255 : Nat) : Int) = 255 from rfl] at h
  rw [h]
  have : m &&& 255 ≤ 255 := Nat.and_le_right
  unfold wrap64
  omega
theorem wrap_bd (z : Int) : 0 ≤ IntKind.u64.wrap z ∧ IntKind.u64.wrap z < 18446744073709551616 := by
  simp [IntKind.wrap, IntKind.bits, IntKind.signed]; omega
theorem next_any (S : Nat) (A : Option Addr) (n c : Nat) (zs : List Nat) (a : Nat) (sd : Int) (w : World) (h : SrcAt w S A n c zs a sd) (ha : a < 1000000) :
    Calls Try.prog 156 #[.pointer (some ⟨S, 0, none⟩)] w fun e w' => ∃ (x sd' : Int), e = .returned (.int .i64 x) ∧ 0 ≤ x ∧ x < 256 ∧ w.grownBy w' (some S) ∧ SrcAt w' S A n c zs ((a : Int) + 1) sd' := by
  have HS := Lib.hid h
  obtain ⟨hk, hl, hz, hc⟩ := h
  have HK := Lib.hid hk
  have k0 := hk.cell 0; have k1 := hk.cell 1; have k2 := hk.cell 2
  have f1 := hk.frozen 1; have f2 := hk.frozen 2
  by_cases hlt : a < n
  · obtain ⟨z, hzz⟩ : ∃ z, zs[a]? = some z := ⟨_, List.getElem?_eq_getElem (by omega)⟩
    obtain ⟨b, off, rfl, hbS, hcell⟩ := hc a z hzz
    have hz256 := hz z (List.mem_of_getElem? hzz)
    have i0' : (0 : Int) ≤ (a : Int) := Int.natCast_nonneg _
    have i1' : (a : Int) < (n : Int) := by omega
    have lt' : decide ((a : Int) < (n : Int)) = true := decide_eq_true i1'
    clear hk hc hzz hz
    go_enter Try.func156, Try.ntmps156
    go_wp2_with fail
    go_region
    go_wp2_with fail
    go_region
    go_wp2_with fail
    go_region
    go_wp2
    go_ret
    exact ⟨z, _, rfl, by omega, by omega, grown_two _ _ 3, HS.out.moved (grown_two _ _ 3) (src_two HK.out 3)⟩
  · have lt' : decide ((a : Int) < (n : Int)) = false := decide_eq_false (by omega)
    have hna : (n : Int) ≤ (a : Int) := by omega
    clear hk hc hz
    go_enter Try.func156, Try.ntmps156
    go_wp2_with fail
    go_region
    go_wp2_with fail
    go_region
    go_wp2
    go_ret
    have hx := low8 (IntKind.u64.wrap (IntKind.u64.wrap (IntKind.u64.wrap (sd * 6364136223846793005)) + 1442695040888963407) / 1099511627776) (by have := wrap_bd (IntKind.u64.wrap (IntKind.u64.wrap (sd * 6364136223846793005)) + 1442695040888963407); omega) (by have := wrap_bd (IntKind.u64.wrap (IntKind.u64.wrap (sd * 6364136223846793005)) + 1442695040888963407); omega)
    exact ⟨_, _, rfl, hx.1, hx.2, grown_two _ _ 2, HS.out.moved (grown_two _ _ 2) (src_two HK.out 2)⟩
/-- a draw of a number below n -/
theorem pick_any (S : Nat) (A : Option Addr) (n c : Nat) (zs : List Nat) (a : Nat) (sd m : Int) (w : World) (h : SrcAt w S A n c zs a sd) (ha : a < 1000000) (h1 : 1 < m) (h2 : m ≤ 200) :
    Calls Try.prog 114 #[.pointer (some ⟨S, 0, none⟩), .int .i64 m] w fun e w' => ∃ (x sd' : Int), e = .returned (.int .i64 x) ∧ 0 ≤ x ∧ x < m ∧ w.grownBy w' (some S) ∧ SrcAt w' S A n c zs ((a : Int) + 1) sd' := by
  have hn := next_any S A n c zs a sd w h ha
  have e1 : decide (m ≤ 1) = false := decide_eq_false (by omega)
  have e2 : decide (200 < m) = false := decide_eq_false (by omega)
  have e3 : (m == 0) = false := by simp; omega
  clear h
  go_enter Try.func114, Try.ntmps114
  go_wp2_with (go_at_call 156; refine hn.mono ?_; rintro e w1 ⟨x, sd', rfl, hx0, hx1, hg, hs⟩)
  go_ret
  exact ⟨x % m, sd', rfl, Int.emod_nonneg _ (by omega), Int.emod_lt_of_pos _ (by omega), hg, hs⟩
end Go.Proofs.Ytmdoddikaaaamab
