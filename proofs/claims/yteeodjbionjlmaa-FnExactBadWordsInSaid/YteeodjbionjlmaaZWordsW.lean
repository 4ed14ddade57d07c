import Derived.Test.YteeodjbionjlmaaChecked
import Derived.WalkKit
import Derived.ProofKit
import Derived.OpenShut
import Derived.ShutString
import Derived.ChangeOld
import Derived.Below
import Derived.Lib.Hide
import Derived.Test.YteeodjbionjlmaaZWordsI
import Derived.Test.YteeodjbionjlmaaJr
import Derived.Test.YteeodjbionjlmaaZStrs2
namespace Go.Proofs.Yteeodjbionjlmaa
open Go.ChangeShapes Go.WideShapes Go.ChangeAt Go.RowKit
open Go.ChangeMaps (open_string shut_string)
set_option linter.unusedVariables false
theorem wordsL_len (s : ByteArray) : (wordsL s).length ≤ s.size + 1 := by
  unfold wordsL
  rw [List.length_map]
  exact (wTo_bd s (s.size + 1)).1
set_option maxHeartbeats 1600000 in
theorem words_yes (s : ByteArray) (w : World) (hs : s.size ≤ maxLen) (ht : textB s = true) :
    Calls Try.prog 3 #[.string s] w fun e w' => e = .returned (.bool true) ∧ Below w.heap.size w w' := by
  have HT := Lib.hid ht
  have hsz := textB_size ht
  have hL := wordsL_len s
  have hR : (wordsL s).length ≤ 81 := by omega
  have HR := Lib.hid hR
  clear ht hL hR
  generalize hz : wordsL s = zs at *
  have HZ := Lib.hid hz
  clear hz
  go_enter Try.func3, Try.ntmps3
  go_wp2_with fail
  go_at_call 15; refine (spec_WordsOf_yes _ _ hs HT.out).mono ?_; rintro e w3 ⟨Aw, mw, cw, rfl, how, hb⟩
  rw [HZ.out] at how
  have hmw : mw = zs.length := by simpa using how.1.symm
  subst hmw
  have b3 := hb.size
  go_wp2_with fail
  go_at_call 16; refine (impl_WordsOf_yes _ _ hs HT.out).mono ?_; rintro e w6 ⟨Ag, mg, cg, rfl, hg, hbn⟩
  rw [HZ.out] at hg
  have hmg : mg = zs.length := by simpa using hg.1.symm
  subst hmg
  have nwg := own_ne how hg
  have how := own_below how hbn (Nat.le_refl _)
  have hb := hb.trans (hbn.mono hb.size)
  clear hbn
  go_wp2_with fail
  go_at_call 17; refine (eqStringS_same _ _ _ _ _ _ _ _ _ (Row.of_own_any hg) (Row.of_own_any how) (by have := HR.out; omega)).mono ?_; rintro e wq ⟨rfl, hq⟩
  have how := own_drew how hq
  have hg := own_drew hg hq
  have hb := hb.trans ((drew_below hq).mono hb.size)
  clear hq
  have b5 := hb.size
  go_wp2_with fail
  go_at_call 18; refine (markS_any _ _ _ 1 _ _ _ hg (by have := HR.out; omega) (by omega) (by omega)).mono ?_; rintro e wm ⟨rfl, hm, hk, hbk, hms⟩
  have how := hk _ _ _ _ _ _ how nwg
  have hb := hbk _ _ hb (by omega) b5
  have hg := hm
  clear hm hk hbk hms
  go_wp2_with fail
  go_at_call 19; refine (heldStringS_any _ _ _ 1 _ (Row.of_own_any hg) (by have := HR.out; omega) (by omega) (by omega)).mono ?_; rintro e wh ⟨rfl, hbn⟩
  have how := own_below how hbn (Nat.le_refl _)
  have hg := own_below hg hbn (Nat.le_refl _)
  have hb := hb.trans (hbn.mono hb.size)
  clear hbn
  go_wp2_with fail
  go_at_call 16; refine (impl_WordsOf_yes _ _ hs HT.out).mono ?_; rintro e w7 ⟨Ah, mh, ch, rfl, hh, hbn⟩
  rw [HZ.out] at hh
  have hmh : mh = zs.length := by simpa using hh.1.symm
  subst hmh
  have how := own_below how hbn (Nat.le_refl _)
  have hg := own_below hg hbn (Nat.le_refl _)
  have hb := hb.trans (hbn.mono hb.size)
  clear hbn
  go_wp2_with fail
  go_at_call 17; refine (eqStringS_same _ _ _ _ _ _ _ _ _ (Row.of_own_any hh) (Row.of_own_any how) (by have := HR.out; omega)).mono ?_; rintro e wq ⟨rfl, hq⟩
  have hg := own_drew hg hq
  have hb := hb.trans ((drew_below hq).mono hb.size)
  clear hq
  go_wp2_with fail
  go_at_call 19; refine (heldStringS_any _ _ _ 1 _ (Row.of_own_any hg) (by have := HR.out; omega) (by omega) (by omega)).mono ?_; rintro e wh ⟨rfl, hbn⟩
  have hb := hb.trans (hbn.mono hb.size)
  clear hbn
  go_wp2
  go_ret
  exact ⟨rfl, hb⟩
theorem words_no (s : ByteArray) (w : World) (hs : s.size ≤ maxLen) (h1 : s.size ≤ 1048576) (ht : textB s = false) :
    Calls Try.prog 3 #[.string s] w fun e w' => e = .returned (.bool true) ∧ Below w.heap.size w w' := by
  have HT := Lib.hid ht
  clear ht
  go_enter Try.func3, Try.ntmps3
  go_wp2_with fail
  go_at_call 15; refine (spec_WordsOf_no _ _ hs HT.out).mono ?_; rintro e w3 ⟨rfl, rfl⟩
  go_wp2_with fail
  go_at_call 16; refine (impl_WordsOf_no _ _ hs HT.out).mono ?_; rintro e w4 ⟨rfl, rfl⟩
  go_wp2_with fail
  go_at_call 17; refine (eqStringS_same none none 0 0 0 0 0 [] _ Row.none_ Row.none_ (by omega)).mono ?_; rintro e wq ⟨rfl, hq⟩
  have hb := drew_below hq
  clear hq
  go_wp2_with fail
  go_at_call 18; refine (markStringS_nil 1 _).mono ?_; rintro e wm ⟨rfl, rfl⟩
  go_wp2_with fail
  go_at_call 19; refine (heldStringS_any none 0 0 1 _ Row.none_ (by omega) (by omega) (by omega)).mono ?_; rintro e wh ⟨rfl, hbn⟩
  have hb := hb.trans (hbn.mono hb.size)
  clear hbn
  go_wp2_with fail
  go_at_call 16; refine (impl_WordsOf_no _ _ hs HT.out).mono ?_; rintro e w4 ⟨rfl, rfl⟩
  go_wp2_with fail
  go_at_call 17; refine (eqStringS_same none none 0 0 0 0 0 [] _ Row.none_ Row.none_ (by omega)).mono ?_; rintro e wq ⟨rfl, hq⟩
  have hb := hb.trans ((drew_below hq).mono hb.size)
  clear hq
  go_wp2_with fail
  go_at_call 19; refine (heldStringS_any none 0 0 1 _ Row.none_ (by omega) (by omega) (by omega)).mono ?_; rintro e wh ⟨rfl, hbn⟩
  have hb := hb.trans (hbn.mono hb.size)
  clear hbn
  go_wp2
  go_ret
  exact ⟨rfl, hb⟩
theorem words_all (s : ByteArray) (w : World) (hs : s.size ≤ maxLen) :
    Calls Try.prog 3 #[.string s] w fun e w' => e = .returned (.bool true) ∧ Below w.heap.size w w' := by
  by_cases h1 : s.size ≤ 1048576
  · by_cases ht : textB s = true
    · exact words_yes s w hs ht
    · exact words_no s w hs h1 (by simpa using ht)
  · have h2 : 1048576 < s.size := by omega
    clear h1
    go_enter Try.func3, Try.ntmps3
    go_wp2
    go_ret
    exact ⟨rfl, Below.refl _ _⟩
end Go.Proofs.Yteeodjbionjlmaa
