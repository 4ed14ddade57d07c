import Derived.Test.YteeodjbionjlmaaChecked
import Derived.WalkKit
import Derived.ProofKit
import Derived.OpenShut
import Derived.ShutString
import Derived.ChangeOld
import Derived.Below
import Derived.Lib.Hide
import Derived.Deep.RegionHeld3
import Derived.WalkSpells
import Derived.WalkLawsBesides
import Derived.Test.YteeodjbionjlmaaZStrs1
import Derived.Test.YteeodjbionjlmaaJr
namespace Go.Proofs.Yteeodjbionjlmaa
open Go.ChangeShapes Go.WideShapes Go.ChangeAt Go.RowKit
open Go.ChangeMaps (open_string shut_string)
set_option linter.unusedVariables false
def mtGo : Nat → Nat → ByteArray → ByteArray
  | 0, _, out => out
  | f + 1, k, out => if k = 0 then out else mtGo f (k / 10) (strOfNums [48 + (k : Int) % 10] ++ out)
theorem mtGo_zero (f : Nat) (out : ByteArray) : mtGo f 0 out = out := by cases f <;> simp [mtGo]
theorem mtGo_succ (f k : Nat) (out : ByteArray) (h : 0 < k) : mtGo (f + 1) k out = mtGo f (k / 10) (strOfNums [48 + (k : Int) % 10] ++ out) := by simp [mtGo]; omega
def mt (k : Nat) : ByteArray := ⟨#[109]⟩ ++ mtGo k k ⟨#[]⟩
set_option maxHeartbeats 400000 in
set_option maxRecDepth 100000 in
theorem markText_any (k0 : Nat) (w : World) (h0 : 0 < k0) (h1 : k0 ≤ 1099511627776) :
    Calls Try.prog 64 #[.int .i64 k0] w fun e w' => e = .returned (.string (mt k0)) ∧ Below w.heap.size w w' := by
  go_enter Try.func64, Try.ntmps64
  go_wp2
  go_loopw [0, 3] (fun a o wr => ∃ (k f : Nat) (out : ByteArray), k ≤ f ∧ f ≤ k0 ∧ out.size + f ≤ k0 ∧ a = .int .i64 k ∧ o = .string out ∧ mtGo f k out = mtGo k0 k0 ⟨#[]⟩ ∧ Below w.heap.size w wr) (fun a _ _ => (intOf a).toNat)
  case atStart => exact ⟨k0, k0, ⟨#[]⟩, by omega, by omega, by show 0 + k0 ≤ k0; omega, rfl, rfl, rfl, Below.refl _ _⟩
  case round =>
    obtain ⟨k, f, out, hk, hf, hsz, rfl, rfl, hgo, hbel⟩ := hrel
    have HG := Lib.hid hgo
    clear hgo
    by_cases hlt : 0 < k
    · obtain ⟨f, rfl⟩ : ∃ g, f = g + 1 := ⟨f - 1, by omega⟩
      have HS := Lib.hid (mtGo_succ f k out hlt)
      have hb : Blk (wr.alloc (.cells #[.int .u8 (48 + (k : Int) % 10)] 5)) wr.heap.size 5 #[.int .u8 (48 + (k : Int) % 10)] := Blk.new wr _ _
      have hcv := blk_string (P := Try.prog) (n := 1) (cap := 1) (xs := [48 + (k : Int) % 10]) hb rfl rfl Try.underlying82 Try.underlying5 Try.underlying9
      have hls : (strOfNums [48 + (k : Int) % 10]).size = 1 := by rw [strOfNums_size]; rfl
      have HL := Lib.hid hls
      have hsum : (strOfNums [48 + (k : Int) % 10]).size + out.size ≤ 9223372036854775807 := by omega
      clear hb hls
      have hbs := hbel.size
      go_wp2
      go_roundw
      case rel => exact ⟨k / 10, f, strOfNums [48 + (k : Int) % 10] ++ out, by omega, by omega, by rw [ByteArray.size_append, HL.out]; omega, by go_num, rfl, by rw [← HS.out]; exact HG.out, hbel.alloc hbs _⟩
      case measure => simp [intOf]; omega
    · have hk0 : k = 0 := by omega
      have hfin : mt k0 = ⟨#[109]⟩ ++ out := by
        unfold mt
        rw [← HG.out, hk0, mtGo_zero]
      have HF := Lib.hid hfin
      have hsum : (⟨#[109]⟩ : ByteArray).size + out.size ≤ 9223372036854775807 := by show 1 + out.size ≤ _; omega
      clear hk0 hfin
      go_wp2
      go_ret
      exact ⟨ret_str HF.out.symm, hbel⟩
def marksS (k n : Nat) : List ByteArray := (List.range n).map fun j => mt (k + j)
theorem marksS_len (k n : Nat) : (marksS k n).length = n := by simp [marksS]
theorem marksS_at (k n j : Nat) (hj : j < n) : (marksS k n)[j]? = some (mt (k + j)) := by simp [marksS, hj]
theorem marksS_succ (k n : Nat) : marksS k (n + 1) = marksS k n ++ [mt (k + n)] := by simp [marksS, List.range_succ]
set_option maxHeartbeats 800000 in
theorem markStringS_some (g n c k0 base : Nat) (xs : List ByteArray) (w : World) (h : w.ownsRow base 9 1 (.slice (some ⟨g, 0, none⟩) n c) n (xs.map strv)) (hn : n ≤ 1073741824) (hk0 : k0 ≤ 1073741824) (hk1 : 0 < k0) :
    Calls Try.prog 18 #[.slice (some ⟨g, 0, none⟩) n c, .int .i64 k0] w fun e w' => e = .returned (.int .i64 ((k0 + n : Nat) : Int)) ∧
      w'.ownsRow base 9 1 (.slice (some ⟨g, 0, none⟩) n c) n ((marksS k0 n).map strv) ∧ w.grownBy w' (some g) ∧ w.heap.size ≤ w'.heap.size := by
  have hlen : xs.length = n := by simpa using h.1
  have HL := Lib.hid hlen
  clear hlen
  go_enter Try.func18, Try.ntmps18
  go_wp2
  go_loopw [1, 5] (fun q i wr => ∃ k : Nat, k ≤ n ∧ i = .int .i64 k ∧ q = .int .i64 ((k0 + k : Nat) : Int) ∧ wr.ownsRow base 9 1 (.slice (some ⟨g, 0, none⟩) n c) n ((marksS k0 k ++ xs.drop k).map strv) ∧ w.grownBy wr (some g)) (fun _ i _ => n - (intOf i).toNat)
  case atStart => exact ⟨0, by omega, rfl, rfl, by simpa [marksS] using h, World.grownBy.refl _ _⟩
  case round =>
    obtain ⟨k, hk, rfl, rfl, hown, hgrow⟩ := hrel
    clear h
    by_cases hlt : k < n
    · have HG := Lib.hid hgrow
      clear hgrow
      go_wp2_with fail
      go_at_call 64; refine (markText_any (k0 + k) _ (by omega) (by omega)).mono ?_; rintro e w1 ⟨rfl, hb1⟩
      have hown1 := own_below hown hb1 (Nat.le_refl _)
      have hg1 : w.grownBy w1 (some g) := ⟨hb1.os.trans HG.out.os, hb1.tape.trans HG.out.tape, hb1.output.trans HG.out.output, Nat.le_trans HG.out.size hb1.size, fun j hj hne => (hb1.block j (Nat.lt_of_lt_of_le hj HG.out.size)).trans (HG.out.block j hj hne)⟩
      clear hown hb1 HG
      have hl := HL.out
      obtain ⟨z, hcd⟩ : ∃ z, w1.cell? ⟨g, k, none⟩ = some z := by
        rw [hown1.cellAt k (by omega)]
        exact ⟨_, List.getElem?_eq_getElem (by simp [marksS_len]; omega)⟩
      have hfz := hown1.frozenAt k
      have HO := Lib.hid hown1
      have HG := Lib.hid hg1
      clear hown1 hg1 hl
      go_wp2
      go_roundw
      case rel =>
        have hl := HL.out
        have hs := HO.out.stored k (.string (mt (k0 + k)))
        refine ⟨k + 1, by omega, by go_num, by go_num, ?_, ?_⟩
        · have := hs.1
          obtain ⟨y, ys, hy⟩ : ∃ y ys, xs.drop k = y :: ys := by
            cases hd : xs.drop k with
            | nil => have := congrArg List.length hd; simp at this; omega
            | cons y ys => exact ⟨y, ys, rfl⟩
          have hy2 : xs.drop (k + 1) = ys := by rw [← List.drop_drop, hy]; rfl
          rw [marksS_succ, hy2]
          rw [hy] at this
          rw [List.map_append, List.set_append_right _ _ (by simp [marksS_len])] at this
          simpa [marksS_len, strv] using this
        · exact ⟨hs.2.os.trans HG.out.os, hs.2.tape.trans HG.out.tape, hs.2.output.trans HG.out.output, by have := HG.out.size; simpa using this, fun j hj hne => (hs.2.block j (Nat.lt_of_lt_of_le hj HG.out.size) hne).trans (HG.out.block j hj hne)⟩
      case measure => simp [intOf]; omega
    · have hkn : k = n := by omega
      subst hkn
      have hl := HL.out
      have e : xs.drop k = [] := List.drop_eq_nil_of_le (by omega)
      rw [e, List.append_nil] at hown
      clear e hl
      go_wp2
      go_ret
      exact ⟨rfl, hown, hgrow, hgrow.size⟩
theorem markStringS_nil (k0 : Nat) (w : World) :
    Calls Try.prog 18 #[.slice none 0 0, .int .i64 k0] w fun e w' => e = .returned (.int .i64 k0) ∧ w = w' := by
  go_enter Try.func18, Try.ntmps18
  go_wp2
  refine wp_loop_rounds 1 ?_
  rw [rounds_succ]
  go_wp2
  go_ret
  exact ⟨rfl, rfl⟩
set_option maxHeartbeats 800000 in
theorem heldStringS_any (A : Option Addr) (n c k0 : Nat) (w : World) (h : Row strv w w.heap.size A n (marksS k0 n)) (hn : n ≤ 1073741824) (hk0 : k0 ≤ 1073741824) (hk1 : 0 < k0) :
    Calls Try.prog 19 #[.slice A n c, .int .i64 k0] w fun e w' => e = .returned (.int .i64 ((k0 + n : Nat) : Int)) ∧ Below w.heap.size w w' := by
  go_enter Try.func19, Try.ntmps19
  go_wp2
  go_loopw [1, 5] (fun q i wr => ∃ k : Nat, k ≤ n ∧ i = .int .i64 k ∧ q = .int .i64 ((k0 + k : Nat) : Int) ∧ Below w.heap.size w wr) (fun _ i _ => n - (intOf i).toNat)
  case atStart => exact ⟨0, by omega, rfl, rfl, Below.refl _ _⟩
  case round =>
    obtain ⟨k, hk, rfl, rfl, hbel⟩ := hrel
    by_cases hlt : k < n
    · obtain ⟨b, off, z, rfl, hblt, hz, hc⟩ := (h.below hbel).ats hlt
      rw [marksS_at k0 n k hlt] at hz
      injection hz with hz
      subst hz
      clear h
      have hbs := hbel.size
      have hp : (0 : Int) ≤ (k : Int) := by omega
      have hq : (k : Int) < (n : Int) := by omega
      go_wp2_with fail
      go_region_held3 (fun w' => w'.cell? ⟨b, off + k, none⟩ = some (.string (mt (k0 + k)))) (first | exact hc | exact (hb4.cell (by simp; omega)).trans hc) ((go_at_call 64; refine (markText_any (k0 + k) _ (by omega) (by omega)).mono ?_; rintro e w4 ⟨rfl, hb4⟩))
      all_goals
        have hbel4 : Below w.heap.size w w4 := hbel.drew.trans (hb4.mono hbs)
        clear hbel hb4
        go_wp2
        go_roundw
        case rel => exact ⟨k + 1, by omega, by go_num, by go_num, hbel4⟩
        case measure => simp [intOf]; omega
    · have hkn : k = n := by omega
      subst hkn
      go_wp2
      go_ret
      exact ⟨rfl, hbel⟩
theorem markS_any (A : Option Addr) (n c k0 base : Nat) (xs : List ByteArray) (w : World) (h : w.ownsRow base 9 1 (.slice A n c) n (xs.map strv)) (hn : n ≤ 1073741824) (hk0 : k0 ≤ 1073741824) (hk1 : 0 < k0) :
    Calls Try.prog 18 #[.slice A n c, .int .i64 k0] w fun e w' => e = .returned (.int .i64 ((k0 + n : Nat) : Int)) ∧
      w'.ownsRow base 9 1 (.slice A n c) n ((marksS k0 n).map strv) ∧ (∀ b1 e1 s1 v n1 zs, w.ownsRow b1 e1 s1 v n1 zs → (v.ownBlock = none ∨ v.ownBlock ≠ (Value.slice A n c).ownBlock) → w'.ownsRow b1 e1 s1 v n1 zs) ∧
      (∀ B w0, Below B w0 w → B ≤ base → B ≤ w.heap.size → Below B w0 w') ∧ w.heap.size ≤ w'.heap.size := by
  rcases h.2 with ⟨hv, hn0⟩ | ⟨g, cap, cur, hv, hbg, _⟩
  · injection hv with h1 h2 h3
    subst h1; subst hn0; subst h3
    exact (markStringS_nil k0 w).mono fun e w' ⟨he, hw⟩ => by subst hw; exact ⟨he, World.ownsRow_nil _ _ _ _, fun _ _ _ _ _ _ h _ => h, fun _ _ h _ _ => h, Nat.le_refl _⟩
  · injection hv with h1 h2 h3
    subst h1
    refine (markStringS_some g n c k0 base xs w h hn hk0 hk1).mono fun e w' ⟨he, ho, hg, hs⟩ => ⟨he, ho, fun b1 e1 s1 v n1 zs hz hne => hz.kept hg hne, fun B w0 hb hB hBw => hb.grown hg hBw ?_, hs⟩
    intro k hk
    injection hk with hk
    subst hk
    omega
end Go.Proofs.Yteeodjbionjlmaa
