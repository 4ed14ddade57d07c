import Derived.Test.YtblkonfphaalhaaChecked
import Derived.WalkKit
import Derived.ProofKit
import Derived.OpenShut
import Derived.ShutString
import Derived.ChangeOld
import Derived.Below
import Derived.Lib.Hide
import Derived.Test.YtblkonfphaalhaaIsMembersC
import Derived.Test.YtblkonfphaalhaaPlain9
namespace Go.Proofs.Ytblkonfphaalhaa
open Go.ChangeShapes Go.WideShapes Go.ChangeAt Go.RowKit
open Go.ChangeMaps (open_string shut_string)
set_option linter.unusedVariables false
theorem ret_found {a : Int} {b b' : Bool} (h : b = b') : Ending.returned (.tuple #[.int .i64 a, .bool b]) = .returned (.tuple #[.int .i64 a, .bool b']) := by rw [h]
theorem own_shape {w : World} {base e size m : Nat} {v : Value} {xs : List Value} (h : w.ownsRow base e size v m xs) : ∃ A k c, v = .slice A k c ∧ k = m := by
  rcases h.2 with ⟨rfl, hn⟩ | ⟨g, cap, cur, rfl, _⟩
  · exact ⟨none, 0, 0, rfl, hn.symm⟩
  · exact ⟨_, _, _, rfl, rfl⟩
theorem isNaN_cmp (x : Int) (w : World) :
    Calls Try.prog 89 #[.int .i64 x] w fun e w' => e = .returned (.bool false) ∧ w = w' := by
  go_enter Try.func89, Try.ntmps89
  go_wp2
  go_ret
  exact ⟨ret_bool (by simp), rfl⟩
theorem isNaN_sl (x : Int) (w : World) :
    Calls Try.prog 86 #[.int .i64 x] w fun e w' => e = .returned (.bool false) ∧ w = w' := by
  go_enter Try.func86, Try.ntmps86
  go_wp2
  go_ret
  exact ⟨ret_bool (by simp), rfl⟩
theorem cmpLess_yes (x y : Int) (w : World) (h : x < y) :
    Calls Try.prog 85 #[.int .i64 x, .int .i64 y] w fun e w' => e = .returned (.bool true) ∧ w = w' := by
  go_enter Try.func85, Try.ntmps85
  go_wp2_with (go_at_call 89; refine (isNaN_cmp _ _).mono ?_; rintro e w' ⟨rfl, rfl⟩)
  go_ret
  exact ⟨rfl, rfl⟩
theorem cmpLess_no (x y : Int) (w : World) (h : ¬ x < y) :
    Calls Try.prog 85 #[.int .i64 x, .int .i64 y] w fun e w' => e = .returned (.bool false) ∧ w = w' := by
  have h' : y ≤ x := by omega
  clear h
  go_enter Try.func85, Try.ntmps85
  go_wp2_with (go_at_call 89; refine (isNaN_cmp _ _).mono ?_; rintro e w' ⟨rfl, rfl⟩)
  go_ret
  exact ⟨ret_bool (by simp; omega), rfl⟩
set_option maxHeartbeats 800000 in
theorem search_any (A : Option Addr) (n c B : Nat) (xs : List Int) (t : Int) (w : World) (h : Row i64v w B A n xs) (hn : n ≤ 1073741824) (hs : RiseTo xs 1 1000 xs.length) :
    Calls Try.prog 75 #[.slice A n c, .int .i64 t] w fun e w' => (∃ p : Int, e = .returned (.tuple #[.int .i64 p, .bool (decide (t ∈ xs))])) ∧ w = w' := by
  have HS := Lib.hid hs
  have HL := Lib.hid h.1
  clear hs
  go_enter Try.func75, Try.ntmps75
  go_wp2
  go_loop [7, 8] (fun a b => ∃ i j : Nat, i ≤ j ∧ j ≤ n ∧ a = .int .i64 i ∧ b = .int .i64 j ∧ Cut xs t i j) (fun a b => (intOf b).toNat - (intOf a).toNat)
  case atStart => exact ⟨0, n, by omega, by omega, rfl, rfl, by have := Cut.start xs t; rw [HL.out] at this; exact this⟩
  case round =>
    obtain ⟨i, j, hij, hjn, rfl, rfl, hcut⟩ := hrel
    have HC := Lib.hid hcut
    clear hcut
    by_cases hlt : i < j
    · obtain ⟨b, off, x, rfl, _, hx, hc⟩ := h.ati (k := (i + j) / 2) (by omega)
      have HX := Lib.hid hx
      clear hx h
      have e1 : ((i : Int) + (j : Int)) / 2 = (((i + j) / 2 : Nat) : Int) := by omega
      have q1 : (0 : Int) ≤ ((i : Int) + (j : Int)) / 2 := by omega
      have q2 : ((i : Int) + (j : Int)) / 2 < (n : Int) := by omega
      clear e1
      by_cases hl : x < t
      · go_wp2_with (go_at_call 85; refine (cmpLess_yes _ _ _ hl).mono ?_; rintro e w' ⟨rfl, rfl⟩)
        go_round
        case rel => exact ⟨(i + j) / 2 + 1, j, by omega, by omega, by go_num, rfl, HC.out.up HS.out HX.out hl⟩
        case measure => simp [intOf]; omega
      · go_wp2_with (go_at_call 85; refine (cmpLess_no _ _ _ hl).mono ?_; rintro e w' ⟨rfl, rfl⟩)
        go_round
        case rel => exact ⟨i, (i + j) / 2, by omega, by omega, rfl, by go_num, HC.out.down HS.out HX.out (by omega)⟩
        case measure => simp [intOf]; omega
    · by_cases hin : i < n
      · obtain ⟨b, off, x, rfl, _, hx, hc⟩ := h.ati hin
        have HX := Lib.hid hx
        clear hx h
        have q1 : (0 : Int) ≤ (i : Int) := by omega
        have q2 : (i : Int) < (n : Int) := by omega
        by_cases he : x = t
        · subst he
          have HF := Lib.hid (Cut.found HX.out)
          have hee : (x == x) = true := by simp
          go_wp2_with (go_at_call 86; refine (isNaN_sl _ _).mono ?_; rintro e w' ⟨rfl, rfl⟩)
          go_ret2
          exact ⟨⟨_, ret_found HF.out.symm⟩, rfl⟩
        · have HF := Lib.hid (Cut.none_ (i := i) HS.out (by have := HC.out; rw [show j = i by omega] at this; exact this) (fun y hy => by rw [HX.out] at hy; injection hy with hy; omega))
          have hee : (x == t) = false := by simp [he]
          clear he
          go_wp2_with (go_at_call 86; refine (isNaN_sl _ _).mono ?_; rintro e w' ⟨rfl, rfl⟩)
          go_ret2
          exact ⟨⟨_, ret_found HF.out.symm⟩, rfl⟩
      · have HF := Lib.hid (Cut.none_ (i := i) HS.out (by have := HC.out; rw [show j = i by omega] at this; exact this) (fun y hy => by
          have := (List.getElem?_eq_some_iff.1 hy).1
          have := HL.out
          omega))
        go_wp2
        go_ret2
        exact ⟨⟨_, ret_found HF.out.symm⟩, rfl⟩
set_option maxHeartbeats 400000 in
theorem l00Has_any (A : Option Addr) (n c B : Nat) (xs : List Int) (t : Int) (w : World) (h : Row i64v w B A n xs) (hn : n ≤ 1073741824) :
    Calls Try.prog 74 #[.slice A n c, .int .i64 t] w fun e w' => e = .returned (.bool (decide (t ∈ xs))) ∧ w = w' := by
  have HL := Lib.hid h.1
  go_enter Try.func74, Try.ntmps74
  go_wp2
  go_loop [5] (fun i => ∃ k : Nat, k ≤ n ∧ i = .int .i64 k ∧ NotIn xs t k) (fun i => n - (intOf i).toNat)
  case atStart => exact ⟨0, by omega, rfl, NotIn.zero _ _⟩
  case round =>
    obtain ⟨k, hk, rfl, hni⟩ := hrel
    have HN := Lib.hid hni
    clear hni
    by_cases hlt : k < n
    · obtain ⟨b, off, x, rfl, _, hx, hc⟩ := h.ati hlt
      have HX := Lib.hid hx
      clear hx h
      by_cases he : x = t
      · subst he
        have HF := Lib.hid (Cut.found HX.out)
        have hee : (x == x) = true := by simp
        go_wp2
        go_ret
        exact ⟨ret_bool HF.out.symm, rfl⟩
      · have hee : (x == t) = false := by simp [he]
        have HE := Lib.hid he
        clear he
        go_wp2
        go_round
        case rel => exact ⟨k + 1, by omega, by go_num, HN.out.succ HX.out HE.out⟩
        case measure => simp [intOf]; omega
    · have HF := Lib.hid (HN.out.all (by have := HL.out; omega))
      go_wp2
      go_ret
      exact ⟨ret_bool HF.out.symm, rfl⟩

def setsB (xs ys : List Int) : Prop := memB xs = true ∧ memB ys = true
theorem l01Members_any (A : Option Addr) (n c B : Nat) (xs : List Int) (b : Bool) (w : World) (h : Row i64v w B A n xs) (hn : n ≤ 1073741824) (hb : memB xs = b) :
    Calls Try.prog 58 #[.slice A n c] w fun e w' => e = .returned (.bool b) ∧ ∃ q, w' = w.drewN q := by
  subst hb
  go_enter Try.func58, Try.ntmps58
  go_wp2_with (go_at_call 76; refine (l00Rises_any _ _ _ _ _ _ _ _ h hn).mono ?_; rintro e w' ⟨rfl, q, rfl⟩)
  go_ret
  exact ⟨rfl, q, rfl⟩
theorem impl_IsMembers_b (A : Option Addr) (n c B : Nat) (xs : List Int) (b : Bool) (w : World) (h : Row i64v w B A n xs) (hn : n ≤ 1073741824) (hb : memB xs = b) :
    Calls Try.prog 25 #[.slice A n c] w fun e w' => e = .returned (.bool b) ∧ w = w' := by
  subst hb
  exact impl_IsMembers_any A n c B xs w h hn
/-- what a function of two sets hands back that are sets: a row of the call's own -/
def TwoYes (w : World) (zs : List Int) (e : Ending) (w' : World) : Prop :=
  ∃ A m c, e = .returned (.tuple #[.slice A m c, .bool true]) ∧ w'.ownsRow w.heap.size 2 1 (.slice A m c) m (zs.map i64v) ∧ Below w.heap.size w w'
def TwoNo (w : World) (e : Ending) (w' : World) : Prop := e = .returned (.tuple #[.slice none 0 0, .bool false]) ∧ Below w.heap.size w w'
theorem spec_LessSet_no (A A' : Option Addr) (n c n' c' B B' : Nat) (xs ys : List Int) (w : World) (h : Row i64v w B A n xs) (h' : Row i64v w B' A' n' ys) (hB : B ≤ w.heap.size) (hB' : B' ≤ w.heap.size) (hn : n ≤ 1048576) (hn' : n' ≤ 1048576)
    (hs : ¬ (memB xs = true ∧ memB ys = true)) :
    Calls Try.prog 52 #[.slice A n c, .slice A' n' c'] w fun e w' => TwoNo w e w' := by
  cases hx : memB xs with
  | false =>
    have HX := Lib.hid hx
    clear hx hs
    go_enter Try.func52, Try.ntmps52
    go_wp2_with (go_at_call 58; refine (l01Members_any _ _ _ _ _ false _ h (by omega) HX.out).mono ?_; rintro e w1 ⟨rfl, hq⟩)
    go_ret2
    exact ⟨rfl, drew_below hq⟩
  | true =>
    have hy : memB ys = false := by
      cases hy : memB ys with
      | false => rfl
      | true => exact absurd ⟨hx, hy⟩ hs
    have HX := Lib.hid hx
    have HY := Lib.hid hy
    clear hx hy hs
    go_enter Try.func52, Try.ntmps52
    go_wp2_with fail
    go_at_call 58; refine (l01Members_any _ _ _ _ _ true _ h (by omega) HX.out).mono ?_; rintro e w1 ⟨rfl, hq⟩
    have hb1 := drew_below hq
    have h1 := (h'.more hB').below hb1
    clear hq
    go_wp2_with fail
    go_at_call 58; refine (l01Members_any _ _ _ _ _ false _ h1 (by omega) HY.out).mono ?_; rintro e w2 ⟨rfl, hq⟩
    have hb2 := hb1.trans ((drew_below hq).mono hb1.size)
    clear hq
    go_wp2
    go_ret2
    exact ⟨rfl, hb2⟩
theorem impl_LessSet_no (A A' : Option Addr) (n c n' c' B B' : Nat) (xs ys : List Int) (w : World) (h : Row i64v w B A n xs) (h' : Row i64v w B' A' n' ys) (hB : B ≤ w.heap.size) (hB' : B' ≤ w.heap.size) (hn : n ≤ 1048576) (hn' : n' ≤ 1048576)
    (hs : ¬ (memB xs = true ∧ memB ys = true)) :
    Calls Try.prog 53 #[.slice A n c, .slice A' n' c'] w fun e w' => TwoNo w e w' := by
  cases hx : memB xs with
  | false =>
    have HX := Lib.hid hx
    clear hx hs
    go_enter Try.func53, Try.ntmps53
    go_wp2_with (go_at_call 25; refine (impl_IsMembers_b _ _ _ _ _ false _ h (by omega) HX.out).mono ?_; rintro e w1 ⟨rfl, rfl⟩)
    go_ret2
    exact ⟨rfl, Below.refl _ _⟩
  | true =>
    have hy : memB ys = false := by
      cases hy : memB ys with
      | false => rfl
      | true => exact absurd ⟨hx, hy⟩ hs
    have HX := Lib.hid hx
    have HY := Lib.hid hy
    clear hx hy hs
    go_enter Try.func53, Try.ntmps53
    go_wp2_with fail
    go_at_call 25; refine (impl_IsMembers_b _ _ _ _ _ true _ h (by omega) HX.out).mono ?_; rintro e w1 ⟨rfl, rfl⟩
    go_wp2_with fail
    go_at_call 25; refine (impl_IsMembers_b _ _ _ _ _ false _ h' (by omega) HY.out).mono ?_; rintro e w2 ⟨rfl, rfl⟩
    go_wp2
    go_ret2
    exact ⟨rfl, Below.refl _ _⟩
set_option maxHeartbeats 800000 in
theorem spec_LessSet_yes (A A' : Option Addr) (n c n' c' B B' : Nat) (xs ys : List Int) (w : World) (h : Row i64v w B A n xs) (h' : Row i64v w B' A' n' ys) (hB : B ≤ w.heap.size) (hB' : B' ≤ w.heap.size) (hn : n ≤ 1048576) (hn' : n' ≤ 1048576)
    (hs : memB xs = true ∧ memB ys = true) :
    Calls Try.prog 52 #[.slice A n c, .slice A' n' c'] w fun e w' => TwoYes w (lessL xs ys) e w' := by
  have HX := Lib.hid hs.1
  have HY := Lib.hid hs.2
  have HL := Lib.hid h.1
  clear hs
  obtain ⟨i0, hi, hz0, hz1, hz2⟩ := info_parts Try.info_i64
  have hr := h.more hB
  have hr' := h'.more hB'
  clear h h'
  go_enter Try.func52, Try.ntmps52
  go_wp2_with fail
  go_at_call 58; refine (l01Members_any _ _ _ _ _ true _ hr (by omega) HX.out).mono ?_; rintro e w1 ⟨rfl, hq⟩
  have hb1 := drew_below hq
  clear hq
  go_wp2_with fail
  go_at_call 58; refine (l01Members_any _ _ _ _ _ true _ (hr'.below hb1) (by omega) HY.out).mono ?_; rintro e w2 ⟨rfl, hq⟩
  have hb2 := hb1.trans ((drew_below hq).mono hb1.size)
  have hsz2 := hb2.size
  clear hq hb1
  go_wp2
  go_loopw [6, 19] (fun v i wr => ∃ k m : Nat, k ≤ n ∧ m ≤ k ∧ i = .int .i64 k ∧ wr.ownsRow w.heap.size 2 1 v m ((lessTo xs ys k).map i64v) ∧ Below w.heap.size w wr) (fun _ i _ => n - (intOf i).toNat)
  case atStart => exact ⟨0, 0, by omega, by omega, rfl, World.ownsRow_made w2 #[] 0 hsz2 (by decide) rfl, hb2.alloc hsz2 _⟩
  case round =>
    obtain ⟨k, m, hk, hm, rfl, hown, hbel⟩ := hrel
    clear hb2 hsz2
    have hbs := hbel.size
    by_cases hlt : k < n
    · obtain ⟨b, off, x, rfl, _, hx, hc⟩ := (hr.below hbel).ati hlt
      have HX' := Lib.hid hx
      clear hx
      have hrw := hr'.below hbel
      cases hin : decide (x ∈ ys) with
      | true =>
        have HT := Lib.hid (lessTo_in HX'.out hin)
        have HI := Lib.hid hin
        clear hin
        go_wp2_with (go_at_call 74; refine (l00Has_any _ _ _ _ _ _ _ hrw (by omega)).mono ?_; rintro e w' ⟨he, rfl⟩; rw [HI.out] at he; subst he)
        go_roundw
        case rel => exact ⟨k + 1, m, by omega, by omega, by go_num, by rw [HT.out]; exact hown, hbel⟩
        case measure => simp [intOf]; omega
      | false =>
        have HT := Lib.hid (lessTo_out HX'.out hin)
        have HI := Lib.hid hin
        clear hin
        go_wp2_with (first | (go_at_call 74; refine (l00Has_any _ _ _ _ _ _ _ hrw (by omega)).mono ?_; rintro e w' ⟨he, rfl⟩; rw [HI.out] at he; subst he) | (at_builtin; refine wpList_append_own _ rfl _ _ 26 rfl w.heap.size 2 i0 (.int .i64 0) 1 8 Try.underlying26 hi hz0 hz1 hz2 rfl (by decide) _ _ _ rfl (hown.alloc _) ⟨wr.heap.size, 0, none⟩ 1 1 [.int .i64 x] rfl rfl ?c1 ?c2 ?c3 ?c4 ?c5 ?_))
        case c1 => exact cell_one_new _ _ _
        case c2 => intro u hu; simp at hu; subst hu; rfl
        case c3 => unfold maxLen; omega
        case c4 => omega
        case c5 => simp; omega
        intro v' w5 hown' hgrow _
        have hbel' : Below w.heap.size w w5 := (hbel.alloc hbs _).grown hgrow (by simp; omega) (fun g hg => (hown.lt g hg).1)
        clear hgrow hown hbel hrw
        go_wp2
        go_roundw
        case rel => exact ⟨k + 1, m + 1, by omega, by omega, by go_num, by rw [HT.out, List.map_append]; exact hown', hbel'⟩
        case measure => simp [intOf]; omega
    · have HE := Lib.hid (lessTo_end xs ys k (by have := HL.out; omega))
      rw [HE.out] at hown
      go_wp2
      obtain ⟨A2, m2, c2, rfl, hmm⟩ := own_shape hown
      subst hmm
      go_ret2
      exact ⟨A2, _, c2, rfl, hown, hbel⟩
end Go.Proofs.Ytblkonfphaalhaa
