import Derived.Test.YteeodjbionjlmaaChecked
import Derived.WalkKit
import Derived.ProofKit
import Derived.OpenShut
import Derived.ShutString
import Derived.ChangeOld
import Derived.Below
import Derived.Lib.Hide
import Derived.Test.YteeodjbionjlmaaZJoinC
import Derived.Test.YteeodjbionjlmaaJr
namespace Go.Proofs.Yteeodjbionjlmaa
open Go.ChangeShapes Go.WideShapes Go.ChangeAt Go.RowKit
open Go.ChangeMaps (open_string shut_string)
set_option linter.unusedVariables false
set_option maxHeartbeats 1600000 in
theorem joinSets_yes (A A' : Option Addr) (n c n' c' : Nat) (xs ys : List Int) (w : World) (h : Row i64v w w.heap.size A n xs) (h' : Row i64v w w.heap.size A' n' ys) (hn : n ≤ 1048576) (hn' : n' ≤ 1048576) (hs : memB xs = true ∧ memB ys = true) (hR : (setL (xs ++ ys)).length ≤ 2097152) :
    Calls Try.prog 14 #[.slice A n c, .slice A' n' c'] w fun e w' => e = .returned (.bool true) ∧ Below w.heap.size w w' := by
  have HS := Lib.hid hs
  clear hs
  have HR := Lib.hid hR
  clear hR
  generalize hz : setL (xs ++ ys) = zs at *
  have HZ := Lib.hid hz
  clear hz
  go_enter Try.func14, Try.ntmps14
  go_wp2_with fail
  go_at_call 55; refine (toInt64S_any _ _ _ _ _ h hn).mono ?_; rintro e w1 ⟨g1, rfl, ho1, hb1⟩
  go_wp2_with fail
  go_at_call 55; refine (toInt64S_any _ _ _ _ _ (h'.to hb1) hn').mono ?_; rintro e w2 ⟨g2, rfl, ho2, hb2⟩
  have hr1 := Row.of_own (own_below ho1 hb2 (Nat.le_refl _))
  have hr2 := Row.of_own ho2
  have hb2' := hb1.trans (hb2.mono hb1.size)
  clear ho1 ho2 hb1 hb2
  go_wp2_with fail
  go_at_call 54; refine (spec_JoinSets_yes _ _ _ _ _ _ _ _ xs ys _ hr1 hr2 (Nat.le_refl _) (Nat.le_refl _) hn hn' HS.out).mono ?_; rintro e w3 ⟨Aw, mw, cw, rfl, how, hb3⟩
  rw [HZ.out] at how
  have hb3' := hb2'.trans (hb3.mono hb2'.size)
  clear hr1 hr2 hb3 hb2'
  have hmw : mw = zs.length := by simpa using how.1.symm
  subst hmw
  have hb := hb3'
  clear hb3'
  go_wp2_with fail
  go_at_call 55; refine (toInt64S_any _ _ _ _ _ (h.to hb) hn).mono ?_; rintro e w4 ⟨g4, rfl, hx0, hbn⟩
  have b4 := hb.size
  have nwx := own_ne how hx0
  have how := own_below how hbn (Nat.le_refl _)
  have hb := hb.trans (hbn.mono hb.size)
  clear hbn
  go_wp2_with fail
  go_at_call 55; refine (toInt64S_any _ _ _ _ _ (h'.to hb) hn').mono ?_; rintro e w5 ⟨g5, rfl, hx1, hbn⟩
  have b5 := hb.size
  have nwy := own_ne how hx1
  have nxy := own_ne2 hx0 hx1
  have nyx := own_ne hx0 hx1
  have how := own_below how hbn (Nat.le_refl _)
  have hx0 := own_below hx0 hbn (Nat.le_refl _)
  have hb := hb.trans (hbn.mono hb.size)
  clear hbn
  go_wp2_with fail
  go_at_call 56; refine (impl_JoinSets_yes _ _ _ _ _ _ _ _ xs ys _ (Row.of_own hx0) (Row.of_own hx1) (Nat.le_refl _) (Nat.le_refl _) hn hn' HS.out).mono ?_; rintro e w6 ⟨Ag, mg, cg, rfl, hg, hbn⟩
  rw [HZ.out] at hg
  have hmg : mg = zs.length := by simpa using hg.1.symm
  subst hmg
  have b6 := hb.size
  have nwg := own_ne how hg
  have nxg := own_ne hx0 hg
  have nyg := own_ne hx1 hg
  have ngx := own_ne2 hx0 hg
  have ngy := own_ne2 hx1 hg
  have nxg' := nxg
  have how := own_below how hbn (Nat.le_refl _)
  have hx0 := own_below hx0 hbn (Nat.le_refl _)
  have hx1 := own_below hx1 hbn (Nat.le_refl _)
  have hb := hb.trans (hbn.mono hb.size)
  clear hbn
  go_wp2_with fail
  go_at_call 57; refine (eqInt64S_same _ _ _ _ _ _ _ _ _ (Row.of_own_any hg) (Row.of_own_any how) (by have := HR.out; omega)).mono ?_; rintro e wq ⟨rfl, hq⟩
  have how := own_drew how hq
  have hx0 := own_drew hx0 hq
  have hx1 := own_drew hx1 hq
  have hg := own_drew hg hq
  have hb := hb.trans ((drew_below hq).mono hb.size)
  clear hq
  go_wp2_with fail
  go_at_call 55; refine (toInt64S_any _ _ _ _ _ (h.to hb) hn).mono ?_; rintro e w8 ⟨g8, rfl, ht, hbn⟩
  have how := own_below how hbn (Nat.le_refl _)
  have hx0 := own_below hx0 hbn (Nat.le_refl _)
  have hx1 := own_below hx1 hbn (Nat.le_refl _)
  have hg := own_below hg hbn (Nat.le_refl _)
  have hb := hb.trans (hbn.mono hb.size)
  clear hbn
  go_wp2_with fail
  go_at_call 57; refine (eqInt64S_same _ _ _ _ _ _ _ _ _ (Row.of_own hx0) (Row.of_own ht) (by omega)).mono ?_; rintro e wq ⟨rfl, hq⟩
  clear ht
  have how := own_drew how hq
  have hx0 := own_drew hx0 hq
  have hx1 := own_drew hx1 hq
  have hg := own_drew hg hq
  have hb := hb.trans ((drew_below hq).mono hb.size)
  clear hq
  go_wp2_with fail
  go_at_call 55; refine (toInt64S_any _ _ _ _ _ (h'.to hb) hn').mono ?_; rintro e w9 ⟨g9, rfl, ht, hbn⟩
  have how := own_below how hbn (Nat.le_refl _)
  have hx0 := own_below hx0 hbn (Nat.le_refl _)
  have hx1 := own_below hx1 hbn (Nat.le_refl _)
  have hg := own_below hg hbn (Nat.le_refl _)
  have hb := hb.trans (hbn.mono hb.size)
  clear hbn
  go_wp2_with fail
  go_at_call 57; refine (eqInt64S_same _ _ _ _ _ _ _ _ _ (Row.of_own hx1) (Row.of_own ht) (by omega)).mono ?_; rintro e wq ⟨rfl, hq⟩
  clear ht
  have how := own_drew how hq
  have hx0 := own_drew hx0 hq
  have hx1 := own_drew hx1 hq
  have hg := own_drew hg hq
  have hb := hb.trans ((drew_below hq).mono hb.size)
  clear hq
  go_wp2_with fail
  go_at_call 58; refine (mark_any _ _ _ 1 _ _ _ hx0 (by omega) (by omega)).mono ?_; rintro e wm ⟨rfl, hm, hk, hbk, hsz⟩
  have how := hk _ _ _ _ _ _ how nwx
  have hx1 := hk _ _ _ _ _ _ hx1 nxy
  have hg := hk _ _ _ _ _ _ hg ngx
  have hb := hbk _ _ hb (by omega) hb.size
  have hx0 := hm
  clear hm hk hbk hsz
  go_wp2_with fail
  go_at_call 58; refine (mark_any _ _ _ (1 + n) _ _ _ hx1 (by omega) (by omega)).mono ?_; rintro e wm ⟨rfl, hm, hk, hbk, hsz⟩
  have how := hk _ _ _ _ _ _ how nwy
  have hx0 := hk _ _ _ _ _ _ hx0 nyx
  have hg := hk _ _ _ _ _ _ hg ngy
  have hb := hbk _ _ hb (by omega) hb.size
  have hx1 := hm
  clear hm hk hbk hsz
  go_wp2_with fail
  go_at_call 57; refine (eqInt64S_same _ _ _ _ _ _ _ _ _ (Row.of_own_any hg) (Row.of_own_any how) (by have := HR.out; omega)).mono ?_; rintro e wq ⟨rfl, hq⟩
  have how := own_drew how hq
  have hx0 := own_drew hx0 hq
  have hx1 := own_drew hx1 hq
  have hg := own_drew hg hq
  have hb := hb.trans ((drew_below hq).mono hb.size)
  clear hq
  go_wp2_with fail
  go_at_call 58; refine (mark_any _ _ _ 1 _ _ _ hg (by have := HR.out; omega) (by omega)).mono ?_; rintro e wm ⟨rfl, hm, hk, hbk, hsz⟩
  have how := hk _ _ _ _ _ _ how nwg
  have hb := hbk _ _ hb (by omega) hb.size
  have hg := hm
  clear hm hk hbk hsz
  clear hx0 hx1
  go_wp2_with fail
  go_at_call 59; refine (heldInt64S_any _ _ _ 1 _ _ (Row.of_own_any hg) (by have := HR.out; omega) (by omega)).mono ?_; rintro e wh ⟨rfl, rfl⟩
  go_wp2_with fail
  go_at_call 55; refine (toInt64S_any _ _ _ _ _ (h.to hb) hn).mono ?_; rintro e w16 ⟨g16, rfl, hu0, hbn⟩
  have how := own_below how hbn (Nat.le_refl _)
  have hg := own_below hg hbn (Nat.le_refl _)
  have hb := hb.trans (hbn.mono hb.size)
  clear hbn
  go_wp2_with fail
  go_at_call 55; refine (toInt64S_any _ _ _ _ _ (h'.to hb) hn').mono ?_; rintro e w17 ⟨g17, rfl, hu1, hbn⟩
  have hu0 := own_below hu0 hbn (Nat.le_refl _)
  have how := own_below how hbn (Nat.le_refl _)
  have hg := own_below hg hbn (Nat.le_refl _)
  have hb := hb.trans (hbn.mono hb.size)
  clear hbn
  go_wp2_with fail
  go_at_call 56; refine (impl_JoinSets_yes _ _ _ _ _ _ _ _ xs ys _ (Row.of_own hu0) (Row.of_own hu1) (Nat.le_refl _) (Nat.le_refl _) hn hn' HS.out).mono ?_; rintro e w18 ⟨Ah, mh, ch, rfl, hh, hbn⟩
  rw [HZ.out] at hh
  have hmh : mh = zs.length := by simpa using hh.1.symm
  subst hmh
  clear hu0 hu1
  have how := own_below how hbn (Nat.le_refl _)
  have hg := own_below hg hbn (Nat.le_refl _)
  have hb := hb.trans (hbn.mono hb.size)
  clear hbn
  go_wp2_with fail
  go_at_call 57; refine (eqInt64S_same _ _ _ _ _ _ _ _ _ (Row.of_own_any hh) (Row.of_own_any how) (by have := HR.out; omega)).mono ?_; rintro e wq ⟨rfl, hq⟩
  clear hh
  have how := own_drew how hq
  have hg := own_drew hg hq
  have hb := hb.trans ((drew_below hq).mono hb.size)
  clear hq
  go_wp2_with fail
  go_at_call 59; refine (heldInt64S_any _ _ _ 1 _ _ (Row.of_own_any hg) (by have := HR.out; omega) (by omega)).mono ?_; rintro e wh ⟨rfl, rfl⟩
  go_wp2
  go_ret
  exact ⟨rfl, hb⟩
set_option maxHeartbeats 1600000 in
theorem joinSets_no (A A' : Option Addr) (n c n' c' : Nat) (xs ys : List Int) (w : World) (h : Row i64v w w.heap.size A n xs) (h' : Row i64v w w.heap.size A' n' ys) (hn : n ≤ 1048576) (hn' : n' ≤ 1048576) (hs : ¬ (memB xs = true ∧ memB ys = true)) :
    Calls Try.prog 14 #[.slice A n c, .slice A' n' c'] w fun e w' => e = .returned (.bool true) ∧ Below w.heap.size w w' := by
  have HS := Lib.hid hs
  clear hs
  have hb := Below.refl w.heap.size w
  go_enter Try.func14, Try.ntmps14
  go_wp2_with fail
  go_at_call 55; refine (toInt64S_any _ _ _ _ _ (h.to hb) hn).mono ?_; rintro e w1 ⟨g1, rfl, ho1, hbn⟩
  have hb := hb.trans (hbn.mono hb.size)
  clear hbn
  go_wp2_with fail
  go_at_call 55; refine (toInt64S_any _ _ _ _ _ (h'.to hb) hn').mono ?_; rintro e w2 ⟨g2, rfl, ho2, hbn⟩
  have ho1 := own_below ho1 hbn (Nat.le_refl _)
  have hb := hb.trans (hbn.mono hb.size)
  clear hbn
  go_wp2_with fail
  go_at_call 54; refine (spec_JoinSets_no _ _ _ _ _ _ _ _ xs ys _ (Row.of_own ho1) (Row.of_own ho2) (Nat.le_refl _) (Nat.le_refl _) hn hn' HS.out).mono ?_; rintro e w3 ⟨rfl, hbn⟩
  clear ho1 ho2
  have hb := hb.trans (hbn.mono hb.size)
  clear hbn
  go_wp2_with fail
  go_at_call 55; refine (toInt64S_any _ _ _ _ _ (h.to hb) hn).mono ?_; rintro e w4 ⟨g4, rfl, hx0, hbn⟩
  have b4 := hb.size
  have hb := hb.trans (hbn.mono hb.size)
  clear hbn
  go_wp2_with fail
  go_at_call 55; refine (toInt64S_any _ _ _ _ _ (h'.to hb) hn').mono ?_; rintro e w5 ⟨g5, rfl, hx1, hbn⟩
  have b5 := hb.size
  have nxy := own_ne2 hx0 hx1
  have nyx := own_ne hx0 hx1
  have hx0 := own_below hx0 hbn (Nat.le_refl _)
  have hb := hb.trans (hbn.mono hb.size)
  clear hbn
  go_wp2_with fail
  go_at_call 56; refine (impl_JoinSets_no _ _ _ _ _ _ _ _ xs ys _ (Row.of_own hx0) (Row.of_own hx1) (Nat.le_refl _) (Nat.le_refl _) hn hn' HS.out).mono ?_; rintro e w6 ⟨rfl, hbn⟩
  have hx0 := own_below hx0 hbn (Nat.le_refl _)
  have hx1 := own_below hx1 hbn (Nat.le_refl _)
  have hb := hb.trans (hbn.mono hb.size)
  clear hbn
  go_wp2_with fail
  go_at_call 57; refine (eqInt64S_same none none 0 0 0 0 0 [] _ Row.none_ Row.none_ (by omega)).mono ?_; rintro e wq ⟨rfl, hq⟩
  have hx0 := own_drew hx0 hq
  have hx1 := own_drew hx1 hq
  have hb := hb.trans ((drew_below hq).mono hb.size)
  clear hq
  go_wp2_with fail
  go_at_call 55; refine (toInt64S_any _ _ _ _ _ (h.to hb) hn).mono ?_; rintro e w8 ⟨g8, rfl, ht, hbn⟩
  have hx0 := own_below hx0 hbn (Nat.le_refl _)
  have hx1 := own_below hx1 hbn (Nat.le_refl _)
  have hb := hb.trans (hbn.mono hb.size)
  clear hbn
  go_wp2_with fail
  go_at_call 57; refine (eqInt64S_same _ _ _ _ _ _ _ _ _ (Row.of_own hx0) (Row.of_own ht) (by omega)).mono ?_; rintro e wq ⟨rfl, hq⟩
  clear ht
  have hx0 := own_drew hx0 hq
  have hx1 := own_drew hx1 hq
  have hb := hb.trans ((drew_below hq).mono hb.size)
  clear hq
  go_wp2_with fail
  go_at_call 55; refine (toInt64S_any _ _ _ _ _ (h'.to hb) hn').mono ?_; rintro e w9 ⟨g9, rfl, ht, hbn⟩
  have hx0 := own_below hx0 hbn (Nat.le_refl _)
  have hx1 := own_below hx1 hbn (Nat.le_refl _)
  have hb := hb.trans (hbn.mono hb.size)
  clear hbn
  go_wp2_with fail
  go_at_call 57; refine (eqInt64S_same _ _ _ _ _ _ _ _ _ (Row.of_own hx1) (Row.of_own ht) (by omega)).mono ?_; rintro e wq ⟨rfl, hq⟩
  clear ht
  have hx0 := own_drew hx0 hq
  have hx1 := own_drew hx1 hq
  have hb := hb.trans ((drew_below hq).mono hb.size)
  clear hq
  go_wp2_with fail
  go_at_call 58; refine (mark_any _ _ _ 1 _ _ _ hx0 (by omega) (by omega)).mono ?_; rintro e wm ⟨rfl, hm, hk, hbk, hsz⟩
  have hx1 := hk _ _ _ _ _ _ hx1 nxy
  have hb := hbk _ _ hb (by omega) hb.size
  have hx0 := hm
  clear hm hk hbk hsz
  go_wp2_with fail
  go_at_call 58; refine (mark_any _ _ _ (1 + n) _ _ _ hx1 (by omega) (by omega)).mono ?_; rintro e wm ⟨rfl, hm, hk, hbk, hsz⟩
  have hx0 := hk _ _ _ _ _ _ hx0 nyx
  have hb := hbk _ _ hb (by omega) hb.size
  have hx1 := hm
  clear hm hk hbk hsz
  clear hx0 hx1
  go_wp2_with fail
  go_at_call 57; refine (eqInt64S_same none none 0 0 0 0 0 [] _ Row.none_ Row.none_ (by omega)).mono ?_; rintro e wq ⟨rfl, hq⟩
  have hb := hb.trans ((drew_below hq).mono hb.size)
  clear hq
  go_wp2_with fail
  go_at_call 58; refine (markInt64S_nil 1 _).mono ?_; rintro e wm ⟨rfl, rfl⟩
  go_wp2_with fail
  go_at_call 59; refine (heldInt64S_any none 0 0 1 0 _ Row.none_ (by omega) (by omega)).mono ?_; rintro e wh ⟨rfl, rfl⟩
  go_wp2_with fail
  go_at_call 55; refine (toInt64S_any _ _ _ _ _ (h.to hb) hn).mono ?_; rintro e w16 ⟨g16, rfl, hu0, hbn⟩
  have hb := hb.trans (hbn.mono hb.size)
  clear hbn
  go_wp2_with fail
  go_at_call 55; refine (toInt64S_any _ _ _ _ _ (h'.to hb) hn').mono ?_; rintro e w17 ⟨g17, rfl, hu1, hbn⟩
  have hu0 := own_below hu0 hbn (Nat.le_refl _)
  have hb := hb.trans (hbn.mono hb.size)
  clear hbn
  go_wp2_with fail
  go_at_call 56; refine (impl_JoinSets_no _ _ _ _ _ _ _ _ xs ys _ (Row.of_own hu0) (Row.of_own hu1) (Nat.le_refl _) (Nat.le_refl _) hn hn' HS.out).mono ?_; rintro e w18 ⟨rfl, hbn⟩
  clear hu0 hu1
  have hb := hb.trans (hbn.mono hb.size)
  clear hbn
  go_wp2_with fail
  go_at_call 57; refine (eqInt64S_same none none 0 0 0 0 0 [] _ Row.none_ Row.none_ (by omega)).mono ?_; rintro e wq ⟨rfl, hq⟩
  have hb := hb.trans ((drew_below hq).mono hb.size)
  clear hq
  go_wp2_with fail
  go_at_call 59; refine (heldInt64S_any none 0 0 1 0 _ Row.none_ (by omega) (by omega)).mono ?_; rintro e wh ⟨rfl, rfl⟩
  go_wp2
  go_ret
  exact ⟨rfl, hb⟩
theorem joinSets_long (A A' : Option Addr) (n c n' c' : Nat) (w : World) (hn : 1048576 < n ∨ 1048576 < n') :
    Calls Try.prog 14 #[.slice A n c, .slice A' n' c'] w fun e w' => e = .returned (.bool true) ∧ Below w.heap.size w w' := by
  by_cases h1 : 1048576 < n
  · clear hn
    go_enter Try.func14, Try.ntmps14
    go_wp2
    go_ret
    exact ⟨rfl, Below.refl _ _⟩
  · have h2 : 1048576 < n' := by omega
    clear hn
    go_enter Try.func14, Try.ntmps14
    go_wp2
    go_ret
    exact ⟨rfl, Below.refl _ _⟩
theorem joinSets_all (A : Option Addr) (n c : Nat) (z : List Int) (A' : Option Addr) (n' c' : Nat) (z' : List Int) (w : World) (w0 : IsRow .i64 w A n c z) (w1 : IsRow .i64 w A' n' c' z') :
    Calls Try.prog 14 #[.slice A n c, .slice A' n' c'] w fun e w' => e = .returned (.bool true) ∧ Below w.heap.size w w' := by
  by_cases hn : n ≤ 1048576
  · by_cases hn' : n' ≤ 1048576
    · have h := row_of_isRow w0
      have h' := row_of_isRow w1
      by_cases hs : memB (z.take n) = true ∧ memB (z'.take n') = true
      · exact joinSets_yes A A' n c n' c' _ _ w h h' hn hn' hs (by have a := (setL_facts (z.take n ++ z'.take n')).2.2; rw [List.length_append] at a; have b := List.length_take_le n z; have d := List.length_take_le n' z'; omega)
      · exact joinSets_no A A' n c n' c' _ _ w h h' hn hn' hs
    · exact joinSets_long A A' n c n' c' w (by omega)
  · exact joinSets_long A A' n c n' c' w (by omega)
end Go.Proofs.Yteeodjbionjlmaa
