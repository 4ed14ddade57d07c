import Derived.Test.YtdpclbmcmgknjaaChecked
import Derived.WalkKit
import Derived.ProofKit
import Derived.OpenShut
import Derived.ShutString
import Derived.ChangeOld
import Derived.Below
import Derived.Lib.Hide
import Derived.Deep.RegionHeld3
import Derived.WalkSpells
import Derived.WalkLawsBesides
import Derived.Test.YtdpclbmcmgknjaaStrs1
import Derived.Test.YtdpclbmcmgknjaaRows2
namespace Go.Proofs.Ytdpclbmcmgknjaa
open Go.ChangeShapes Go.WideShapes Go.ChangeAt Go.RowKit
open Go.ChangeMaps (open_string shut_string)
set_option linter.unusedVariables false
def mtGo : Nat → Nat → ByteArray → ByteArray
  | 0, _, out => out
  | f + 1, k, out => if k = 0 then out else mtGo f (k / 10) (strOfNums [48 + (k : Int) % 10] ++ out)
theorem mtGo_zero (f : Nat) (out : ByteArray) : mtGo f 0 out = out := by cases f <;> simp [mtGo]
theorem mtGo_succ (f k : Nat) (out : ByteArray) (h : 0 < k) : mtGo (f + 1) k out = mtGo f (k / 10) (strOfNums [48 + (k : Int) % 10] ++ out) := by simp [mtGo]; omega
def mt (k : Nat) : ByteArray := ⟨#[109]⟩ ++ mtGo k k ⟨#[]⟩
set_option maxHeartbeats 400000 in
set_option maxRecDepth 100000 in
theorem markText_any (k0 : Nat) (w : World) (h0 : 0 < k0) (h1 : k0 ≤ 1099511627776) :
    Calls Try.prog 159 #[.int .i64 k0] w fun e w' => e = .returned (.string (mt k0)) ∧ Below w.heap.size w w' := by
  go_enter Try.func159, Try.ntmps159
  go_wp2
  go_loopw [0, 3] (fun a o wr => ∃ (k f : Nat) (out : ByteArray), k ≤ f ∧ f ≤ k0 ∧ out.size + f ≤ k0 ∧ a = .int .i64 k ∧ o = .string out ∧ mtGo f k out = mtGo k0 k0 ⟨#[]⟩ ∧ Below w.heap.size w wr) (fun a _ _ => (intOf a).toNat)
  case atStart => exact ⟨k0, k0, ⟨#[]⟩, by omega, by omega, by show 0 + k0 ≤ k0; omega, rfl, rfl, rfl, Below.refl _ _⟩
  case round =>
    obtain ⟨k, f, out, hk, hf, hsz, rfl, rfl, hgo, hbel⟩ := hrel
    have HG := Lib.hid hgo
    clear hgo
    by_cases hlt : 0 < k
    · obtain ⟨f, rfl⟩ : ∃ g, f = g + 1 := ⟨f - 1, by omega⟩
      have HS := Lib.hid (mtGo_succ f k out hlt)
      have hb : Blk (wr.alloc (.cells #[.int .u8 (48 + (k : Int) % 10)] 5)) wr.heap.size 5 #[.int .u8 (48 + (k : Int) % 10)] := Blk.new wr _ _
      have hcv := blk_string (P := Try.prog) (n := 1) (cap := 1) (xs := [48 + (k : Int) % 10]) hb rfl rfl Try.underlying220 Try.underlying5 Try.underlying9
      have hls : (strOfNums [48 + (k : Int) % 10]).size = 1 := by rw [strOfNums_size]; rfl
      have HL := Lib.hid hls
      have hsum : (strOfNums [48 + (k : Int) % 10]).size + out.size ≤ 9223372036854775807 := by omega
      clear hb hls
      have hbs := hbel.size
      go_wp2
      go_roundw
      case rel => exact ⟨k / 10, f, strOfNums [48 + (k : Int) % 10] ++ out, by omega, by omega, by rw [ByteArray.size_append, HL.out]; omega, by go_num, rfl, by rw [← HS.out]; exact HG.out, hbel.alloc hbs _⟩
      case measure => simp [intOf]; omega
    · have hk0 : k = 0 := by omega
      have hfin : mt k0 = ⟨#[109]⟩ ++ out := by
        unfold mt
        rw [← HG.out, hk0, mtGo_zero]
      have HF := Lib.hid hfin
      have hsum : (⟨#[109]⟩ : ByteArray).size + out.size ≤ 9223372036854775807 := by show 1 + out.size ≤ _; omega
      clear hk0 hfin
      go_wp2
      go_ret
      exact ⟨ret_str HF.out.symm, hbel⟩
def marksS (k n : Nat) : List ByteArray := (List.range n).map fun j => mt (k + j)
theorem marksS_len (k n : Nat) : (marksS k n).length = n := by simp [marksS]
theorem marksS_at (k n j : Nat) (hj : j < n) : (marksS k n)[j]? = some (mt (k + j)) := by simp [marksS, hj]
theorem marksS_succ (k n : Nat) : marksS k (n + 1) = marksS k n ++ [mt (k + n)] := by simp [marksS, List.range_succ]
end Go.Proofs.Ytdpclbmcmgknjaa
