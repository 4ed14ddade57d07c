import Derived.Test.YteeodjbionjlmaaChecked
import Derived.WalkKit
import Derived.ProofKit
import Derived.OpenShut
import Derived.ShutString
import Derived.ChangeOld
import Derived.Below
import Derived.Lib.Hide
import Derived.Test.YteeodjbionjlmaaZJoinS
import Derived.Test.YteeodjbionjlmaaZLessSetC
import Derived.Test.YteeodjbionjlmaaZRnsC
namespace Go.Proofs.Yteeodjbionjlmaa
open Go.ChangeShapes Go.WideShapes Go.ChangeAt Go.RowKit
open Go.ChangeMaps (open_string shut_string)
set_option linter.unusedVariables false
theorem OneRow.weak {w w0 : World} {zs : List Int} {e : Ending} {w' : World} (h : OneRow w zs e w') (hb : w0.heap.size ≤ w.heap.size) : ∃ A m c, e = .returned (.slice A m c) ∧ w'.ownsRow w0.heap.size 2 1 (.slice A m c) m (zs.map i64v) ∧ Below w.heap.size w w' := by
  obtain ⟨A, m, c, e, ho, hb'⟩ := h
  exact ⟨A, m, c, e, own_weaken ho hb, hb'⟩
set_option maxHeartbeats 800000 in
theorem l01Join_any (b n c n' c' : Nat) (A' : Option Addr) (xs ys : List Int) (w : World) (h : Row i64v w w.heap.size (some ⟨b, 0, none⟩) n xs) (h' : Row i64v w w.heap.size A' n' ys) (hn : n ≤ 1000) (hn' : n' ≤ 1000) :
    Calls Try.prog 113 #[.slice (some ⟨b, 0, none⟩) n c, .slice A' n' c'] w fun e w' => OneRow w (joinL xs ys) e w' := by
  have HL := Lib.hid (And.intro h.1 h'.1)
  have HJ := Lib.hid (joinTo_len xs ys)
  go_enter Try.func113, Try.ntmps113
  go_wp2_with fail
  go_at_call 154; refine (l00Own_any _ _ _ _ _ h (by omega)).mono ?_; rintro e w1 ⟨A1, m1, c1, rfl, ho1, hb1⟩
  go_wp2
  go_loopw [5, 11] (fun v i wr => ∃ k m : Nat, k ≤ n' ∧ i = .int .i64 k ∧ wr.ownsRow w.heap.size 2 1 v m ((joinTo xs ys k).map i64v) ∧ Below w.heap.size w wr) (fun _ i _ => n' - (intOf i).toNat)
  case atStart => exact ⟨0, m1, by omega, rfl, ho1, hb1⟩
  case round =>
    obtain ⟨k, m, hk, rfl, hown, hbel⟩ := hrel
    clear ho1 hb1
    have hbs := hbel.size
    have hm : (joinTo xs ys k).length = m := by simpa using hown.1
    by_cases hkn : k < n'
    · obtain ⟨bb, off, y, rfl, hblt, hy, hcw⟩ := h'.ati hkn
      have hc : wr.cell? ⟨bb, off + k, none⟩ = some (.int .i64 y) := (hbel.cell hblt).trans hcw
      have HS := Lib.hid (joinTo_succ xs ys k y hy)
      have hmb : m ≤ 1048576 := by have h1 := HJ.out k (by have := HL.out.2; omega); have h2 := HL.out.1; omega
      clear hcw hy hm
      obtain ⟨A2, m2, c2, rfl, hmm⟩ := own_shapeS hown
      subst hmm
      go_wp2_with (go_at_call 155; refine (l00Put_any _ _ _ _ _ _ (Row.of_own_any hown) hmb).mono ?_; rintro e w2 hone; obtain ⟨A4, m4, c4, rfl, ho4, hb4⟩ := hone.weak hbs)
      have hbel4 := hbel.trans (hb4.mono hbs)
      clear hb4 hown hbel hc
      go_roundw
      case rel => exact ⟨k + 1, m4, by omega, by go_num, by rw [HS.out]; exact ho4, hbel4⟩
      case measure => simp [intOf]; omega
    · have hke : k = ys.length := by have := HL.out.2; omega
      have hkn' : k = n' := by omega
      have HJL : joinTo xs ys k = joinL xs ys := by rw [hke]; rfl
      rw [HJL] at hown
      clear HJL hke hm
      obtain ⟨A2, m2, c2, rfl, hmm⟩ := own_shapeS hown
      subst hmm
      go_wp2
      go_ret
      exact ⟨A2, _, c2, rfl, hown, hbel⟩
theorem spec_JoinSets_no (A A' : Option Addr) (n c n' c' B B' : Nat) (xs ys : List Int) (w : World) (h : Row i64v w B A n xs) (h' : Row i64v w B' A' n' ys) (hB : B ≤ w.heap.size) (hB' : B' ≤ w.heap.size) (hn : n ≤ 1048576) (hn' : n' ≤ 1048576)
    (hs : ¬ (memB xs = true ∧ memB ys = true)) :
    Calls Try.prog 54 #[.slice A n c, .slice A' n' c'] w fun e w' => TwoNo w e w' := by
  cases hx : memB xs with
  | false =>
    have HX := Lib.hid hx
    clear hx hs
    go_enter Try.func54, Try.ntmps54
    go_wp2_with (go_at_call 112; refine (l01Members_any _ _ _ _ _ false _ h (by omega) HX.out).mono ?_; rintro e w1 ⟨rfl, hq⟩)
    go_ret2
    exact ⟨rfl, drew_below hq⟩
  | true =>
    have hy : memB ys = false := by
      cases hy : memB ys with
      | false => rfl
      | true => exact absurd ⟨hx, hy⟩ hs
    have HX := Lib.hid hx
    have HY := Lib.hid hy
    clear hx hy hs
    go_enter Try.func54, Try.ntmps54
    go_wp2_with fail
    go_at_call 112; refine (l01Members_any _ _ _ _ _ true _ h (by omega) HX.out).mono ?_; rintro e w1 ⟨rfl, hq⟩
    have hb1 := drew_below hq
    have h1 := (h'.more hB').below hb1
    clear hq
    go_wp2_with fail
    go_at_call 112; refine (l01Members_any _ _ _ _ _ false _ h1 (by omega) HY.out).mono ?_; rintro e w2 ⟨rfl, hq⟩
    have hb2 := hb1.trans ((drew_below hq).mono hb1.size)
    clear hq
    go_wp2
    go_ret2
    exact ⟨rfl, hb2⟩
set_option maxHeartbeats 800000 in
theorem spec_JoinSets_yes (b b' n c n' c' B B' : Nat) (xs ys : List Int) (w : World) (h : Row i64v w B (some ⟨b, 0, none⟩) n xs) (h' : Row i64v w B' (some ⟨b', 0, none⟩) n' ys) (hB : B ≤ w.heap.size) (hB' : B' ≤ w.heap.size) (hn : n ≤ 1048576) (hn' : n' ≤ 1048576)
    (hs : memB xs = true ∧ memB ys = true) :
    Calls Try.prog 54 #[.slice (some ⟨b, 0, none⟩) n c, .slice (some ⟨b', 0, none⟩) n' c'] w fun e w' => TwoYes w (setL (xs ++ ys)) e w' := by
  have h1 := memB_len hs.1
  have h2 := memB_len hs.2
  have h3 := h.1
  have h4 := h'.1
  rw [setL_join xs ys (memB_pair hs.1)]
  have HX := Lib.hid hs.1
  have HY := Lib.hid hs.2
  have hr := h.more hB
  have hr' := h'.more hB'
  clear h h' hs
  go_enter Try.func54, Try.ntmps54
  go_wp2_with fail
  go_at_call 112; refine (l01Members_any _ _ _ _ _ true _ hr (by omega) HX.out).mono ?_; rintro e w1 ⟨rfl, hq⟩
  have hb1 := drew_below hq
  clear hq
  go_wp2_with fail
  go_at_call 112; refine (l01Members_any _ _ _ _ _ true _ (hr'.below hb1) (by omega) HY.out).mono ?_; rintro e w2 ⟨rfl, hq⟩
  have hb2 := hb1.trans ((drew_below hq).mono hb1.size)
  have hsz2 := hb2.size
  clear hq hb1
  go_wp2_with fail
  go_at_call 113; refine (l01Join_any _ _ _ _ _ _ xs ys _ ((hr.below hb2).more hsz2) ((hr'.below hb2).more hsz2) (by omega) (by omega)).mono ?_; rintro e w3 hone; obtain ⟨A4, m4, c4, rfl, ho4, hb4⟩ := hone.weak hsz2
  have hbel4 := hb2.trans (hb4.mono hsz2)
  clear hb4 hb2
  go_wp2
  go_ret2
  exact ⟨A4, m4, c4, rfl, ho4, hbel4⟩
theorem impl_JoinSets_no (A A' : Option Addr) (n c n' c' B B' : Nat) (xs ys : List Int) (w : World) (h : Row i64v w B A n xs) (h' : Row i64v w B' A' n' ys) (hB : B ≤ w.heap.size) (hB' : B' ≤ w.heap.size) (hn : n ≤ 1048576) (hn' : n' ≤ 1048576)
    (hs : ¬ (memB xs = true ∧ memB ys = true)) :
    Calls Try.prog 56 #[.slice A n c, .slice A' n' c'] w fun e w' => TwoNo w e w' := by
  cases hx : memB xs with
  | false =>
    have HX := Lib.hid hx
    clear hx hs
    go_enter Try.func56, Try.ntmps56
    go_wp2_with (go_at_call 114; refine (impl_IsMembers_b _ _ _ _ _ false _ h (by omega) HX.out).mono ?_; rintro e w1 ⟨rfl, rfl⟩)
    go_ret2
    exact ⟨rfl, Below.refl _ _⟩
  | true =>
    have hy : memB ys = false := by
      cases hy : memB ys with
      | false => rfl
      | true => exact absurd ⟨hx, hy⟩ hs
    have HX := Lib.hid hx
    have HY := Lib.hid hy
    clear hx hy hs
    go_enter Try.func56, Try.ntmps56
    go_wp2_with fail
    go_at_call 114; refine (impl_IsMembers_b _ _ _ _ _ true _ h (by omega) HX.out).mono ?_; rintro e w1 ⟨rfl, rfl⟩
    go_wp2_with fail
    go_at_call 114; refine (impl_IsMembers_b _ _ _ _ _ false _ h' (by omega) HY.out).mono ?_; rintro e w2 ⟨rfl, rfl⟩
    go_wp2
    go_ret2
    exact ⟨rfl, Below.refl _ _⟩
set_option maxHeartbeats 800000 in
set_option maxRecDepth 100000 in
theorem impl_JoinSets_yes (b b' n c n' c' B B' : Nat) (xs ys : List Int) (w : World) (h : Row i64v w B (some ⟨b, 0, none⟩) n xs) (h' : Row i64v w B' (some ⟨b', 0, none⟩) n' ys) (hB : B ≤ w.heap.size) (hB' : B' ≤ w.heap.size) (hn : n ≤ 1048576) (hn' : n' ≤ 1048576)
    (hs : memB xs = true ∧ memB ys = true) :
    Calls Try.prog 56 #[.slice (some ⟨b, 0, none⟩) n c, .slice (some ⟨b', 0, none⟩) n' c'] w fun e w' => TwoYes w (setL (xs ++ ys)) e w' := by
  have h3 := h.1
  have h4 := h'.1
  have HX := Lib.hid hs.1
  have HY := Lib.hid hs.2
  have hr := h.more hB
  have hr' := h'.more hB'
  clear h h' hs
  go_enter Try.func56, Try.ntmps56
  go_wp2_with fail
  go_at_call 114; refine (impl_IsMembers_b _ _ _ _ _ true _ hr (by omega) HX.out).mono ?_; rintro e w1 ⟨rfl, rfl⟩
  go_wp2_with fail
  go_at_call 114; refine (impl_IsMembers_b _ _ _ _ _ true _ hr' (by omega) HY.out).mono ?_; rintro e w2 ⟨rfl, rfl⟩
  go_wp2_with fail
  have hbA : Below w.heap.size w (w.alloc (.cells #[.slice (some ⟨b, 0, none⟩) n c, .slice (some ⟨b', 0, none⟩) n' c'] 35)) := (Below.refl _ _).alloc (Nat.le_refl _) _
  have hblk : Blk (w.alloc (.cells #[.slice (some ⟨b, 0, none⟩) n c, .slice (some ⟨b', 0, none⟩) n' c'] 35)) w.heap.size 35 #[.slice (some ⟨b, 0, none⟩) n c, .slice (some ⟨b', 0, none⟩) n' c'] := Blk.new _ _ _
  have hlt := hblk.lt
  have hrA := (hr.below hbA).more hbA.size
  have hrA' := (hr'.below hbA).more hbA.size
  have hp0 := hblk.cell 0
  have hp1 := hblk.cell 1
  clear hr hr' hblk
  generalize (w.alloc (.cells #[.slice (some ⟨b, 0, none⟩) n c, .slice (some ⟨b', 0, none⟩) n' c'] 35)) = wA at *
  go_at_call 116; refine (concat_any w.heap.size b 0 n c b' 0 n' c' xs ys _ hp0 hp1 hlt hrA hrA' hn hn').mono ?_; rintro e w1 ⟨A1, m1, c1, rfl, ho1, hb1⟩
  have ho1' := own_weaken ho1 hbA.size
  have hbel1 := hbA.trans (hb1.mono hbA.size)
  have hm1 : m1 ≤ 1073741824 := by
    have := ho1.1
    rw [List.length_map, List.length_append] at this
    omega
  clear hb1 hbA ho1 hrA hrA' hp0 hp1
  go_wp2_with fail
  go_at_call 115; refine (setOf_any _ _ _ _ _ _ ho1' hm1).mono ?_; rintro e w2 ⟨m2, rfl, ho2, hg2⟩
  have hbel2 : Below w.heap.size w w2 := hbel1.grown hg2 hbel1.size (fun g hg => (ho1'.lt g hg).1)
  clear hg2 hbel1 ho1'
  go_wp2
  go_ret2
  exact ⟨_, m2, _, rfl, ho2, hbel2⟩
end Go.Proofs.Yteeodjbionjlmaa
