/-
  BadWordsIn answers as its model for every text and all words, every field, leaves its words as they were, and its answer owns its memory: the law returns true for every text and list of words. No condition.
-/
import Derived.Test.YteeodjbionjlmaaRows
import Derived.WalkKit
import Derived.ProofKit
import Derived.OpenShut
import Derived.ShutString
import Derived.ChangeOld
import Derived.Below
import Derived.Lib.Hide
import Derived.SliceStrings
import Derived.Test.YteeodjbionjlmaaZBadL
import Derived.Test.YteeodjbionjlmaaZChainW
import Derived.Test.YteeodjbionjlmaaZWordsW
namespace Go.Proofs.Yteeodjbionjlmaa.fnExactBadWordsIn
open Go.ChangeShapes Go.WideShapes Go.ChangeAt Go.RowKit
open Go.ChangeMaps (open_string shut_string)
set_option linter.unusedVariables false
set_option maxRecDepth 100000
set_option maxHeartbeats 6400000 in
theorem txt_yes (s : ByteArray) (A : Option Addr) (n c : Nat) (xs : List ByteArray) (w : World) (hS : s.size ≤ maxLen) (h0 : Row strv w w.heap.size A n xs) (hs : ∀ s ∈ xs, s.size ≤ maxLen) (hm : n ≤ maxLen) (hc : (textB s = true ∧ wordsB xs = true)) (hbig : ¬ 1048576 < s.size) :
    Calls Try.prog 5 #[.string s, .slice A n c] w fun e w' => e = .returned (.bool true) ∧ Below w.heap.size w w' := by
  have HC := Lib.hid hc
  clear hc
  have hR : (badL s xs).length ≤ n := by have := (badL_all s xs); rwa [h0.1] at this
  have HR0 := Lib.hid hR
  clear hR
  generalize hz : badL s xs = zs at *
  have HZ := Lib.hid hz
  clear hz
  have hsz := (szStringS_any A n c xs w h0 hs hm)
  have HS := Lib.hid hs
  clear hs hm
  go_enter Try.func5, Try.ntmps5
  go_wp2_with fail
  go_at_call 20; refine (hsz).mono ?_; rintro e w' ⟨r, rfl, rfl, hr1, hr2, hr0⟩
  clear hsz
  by_cases hr : r < 0
  · go_wp2
    go_ret
    exact ⟨rfl, Below.refl _ _⟩
  have hn : n ≤ 1048576 := by omega
  clear hr2 hbig
  have HR := Lib.hid (show zs.length ≤ 1048576 by have := HR0.out; omega)
  have hb := Below.refl w.heap.size w
  go_wp2_with fail
  go_at_call 22; refine (toStringS_any _ _ _ _ _ h0 hn).mono ?_; rintro e w1 ⟨g1, rfl, ho1, hbn⟩
  have hb := hb.trans (hbn.mono hb.size)
  clear hbn
  have b1 := hb.size
  go_wp2_with fail
  go_at_call 24; refine (spec_BadWordsIn_yes _ _ _ xs s _ (Row.of_own ho1) hn HS.out hS HC.out).mono ?_; rintro e w2 ⟨Aw, mw, cw, rfl, how, hbn⟩
  rw [HZ.out] at how
  have hmw : mw = zs.length := by simpa using how.1.symm
  subst hmw
  clear ho1
  have hb := hb.trans (hbn.mono hb.size)
  clear hbn
  have b3 := hb.size
  go_wp2_with fail
  go_at_call 22; refine (toStringS_any _ _ _ _ _ (h0.to hb) hn).mono ?_; rintro e w3 ⟨g3, rfl, hx, hbn⟩
  have nwx := own_ne how hx
  have how := own_below how hbn (Nat.le_refl _)
  have hb := hb.trans (hbn.mono hb.size)
  clear hbn
  have b4 := hb.size
  go_wp2_with fail
  go_at_call 25; refine (impl_BadWordsIn_yes' _ _ _ xs s _ (Row.of_own hx) hn HS.out hS HC.out).mono ?_; rintro e w4 ⟨Ag, mg, cg, rfl, hg, hbn⟩
  rw [HZ.out] at hg
  have hmg : mg = zs.length := by simpa using hg.1.symm
  subst hmg
  have nwg := own_ne how hg
  have ngx := own_ne2 hx hg
  have nxg := own_ne hx hg
  have how := own_below how hbn (Nat.le_refl _)
  have hx := own_below hx hbn (Nat.le_refl _)
  have hb := hb.trans (hbn.mono hb.size)
  clear hbn
  go_wp2_with fail
  go_at_call 17; refine (eqStringS_same _ _ _ _ _ _ _ _ _ (Row.of_own_any hg) (Row.of_own_any how) (by have := HR.out; omega)).mono ?_; rintro e wq ⟨rfl, hq⟩
  have how := own_drew how hq
  have hx := own_drew hx hq
  have hg := own_drew hg hq
  have hb := hb.trans ((drew_below hq).mono hb.size)
  clear hq
  go_wp2_with fail
  go_at_call 22; refine (toStringS_any _ _ _ _ _ (h0.to hb) hn).mono ?_; rintro e w5 ⟨g5, rfl, ht, hbn⟩
  have how := own_below how hbn (Nat.le_refl _)
  have hx := own_below hx hbn (Nat.le_refl _)
  have hg := own_below hg hbn (Nat.le_refl _)
  have hb := hb.trans (hbn.mono hb.size)
  clear hbn
  go_wp2_with fail
  go_at_call 17; refine (eqStringS_same _ _ _ _ _ _ _ _ _ (Row.of_own_any hx) (Row.of_own_any ht) (by omega)).mono ?_; rintro e wq ⟨rfl, hq⟩
  have how := own_drew how hq
  have hx := own_drew hx hq
  have hg := own_drew hg hq
  have hb := hb.trans ((drew_below hq).mono hb.size)
  clear hq ht
  have b5 := hb.size
  go_wp2_with fail
  go_at_call 18; refine (markS_any _ _ _ 1 _ _ _ hx (by omega) (by omega) (by omega)).mono ?_; rintro e wm ⟨rfl, -, hk, hbk, hms⟩
  have how := hk _ _ _ _ _ _ how nwx
  have hg := hk _ _ _ _ _ _ hg ngx
  have hb := hbk _ _ hb (by omega) b5
  clear hk hbk hms hx
  have b5 := hb.size
  go_wp2_with fail
  go_at_call 17; refine (eqStringS_same _ _ _ _ _ _ _ _ _ (Row.of_own_any hg) (Row.of_own_any how) (by have := HR.out; omega)).mono ?_; rintro e wq ⟨rfl, hq⟩
  have how := own_drew how hq
  have hg := own_drew hg hq
  have hb := hb.trans ((drew_below hq).mono hb.size)
  clear hq
  have b6 := hb.size
  go_wp2_with fail
  go_at_call 18; refine (markS_any _ _ _ 1 _ _ _ hg (by have := HR.out; omega) (by omega) (by omega)).mono ?_; rintro e wm ⟨rfl, hm, hk, hbk, hms⟩
  have how := hk _ _ _ _ _ _ how nwg
  have hb := hbk _ _ hb (by omega) b6
  have hg := hm
  clear hm hk hbk hms
  go_wp2_with fail
  go_at_call 19; refine (heldStringS_any _ _ _ 1 _ (Row.of_own_any hg) (by have := HR.out; omega) (by omega) (by omega)).mono ?_; rintro e wh ⟨rfl, hbn⟩
  have how := own_below how hbn (Nat.le_refl _)
  have hg := own_below hg hbn (Nat.le_refl _)
  have hb := hb.trans (hbn.mono hb.size)
  clear hbn
  go_wp2_with fail
  go_at_call 22; refine (toStringS_any _ _ _ _ _ (h0.to hb) hn).mono ?_; rintro e w7 ⟨g7, rfl, hx, hbn⟩
  have how := own_below how hbn (Nat.le_refl _)
  have hg := own_below hg hbn (Nat.le_refl _)
  have hb := hb.trans (hbn.mono hb.size)
  clear hbn
  go_wp2_with fail
  go_at_call 25; refine (impl_BadWordsIn_yes' _ _ _ xs s _ (Row.of_own hx) hn HS.out hS HC.out).mono ?_; rintro e w8 ⟨Ah, mh, ch, rfl, hh, hbn⟩
  rw [HZ.out] at hh
  have hmh : mh = zs.length := by simpa using hh.1.symm
  subst hmh
  clear hx
  have how := own_below how hbn (Nat.le_refl _)
  have hg := own_below hg hbn (Nat.le_refl _)
  have hb := hb.trans (hbn.mono hb.size)
  clear hbn
  go_wp2_with fail
  go_at_call 17; refine (eqStringS_same _ _ _ _ _ _ _ _ _ (Row.of_own_any hh) (Row.of_own_any how) (by have := HR.out; omega)).mono ?_; rintro e wq ⟨rfl, hq⟩
  have hg := own_drew hg hq
  have hb := hb.trans ((drew_below hq).mono hb.size)
  clear hq
  go_wp2_with fail
  go_at_call 19; refine (heldStringS_any _ _ _ 1 _ (Row.of_own_any hg) (by have := HR.out; omega) (by omega) (by omega)).mono ?_; rintro e wh ⟨rfl, hbn⟩
  have hb := hb.trans (hbn.mono hb.size)
  clear hbn
  go_wp2
  go_ret
  exact ⟨rfl, hb⟩
set_option maxHeartbeats 6400000 in
theorem txt_no (s : ByteArray) (A : Option Addr) (n c : Nat) (xs : List ByteArray) (w : World) (hS : s.size ≤ maxLen) (h0 : Row strv w w.heap.size A n xs) (hs : ∀ s ∈ xs, s.size ≤ maxLen) (hm : n ≤ maxLen) (hc : ¬ (textB s = true ∧ wordsB xs = true)) (hbig : ¬ 1048576 < s.size) :
    Calls Try.prog 5 #[.string s, .slice A n c] w fun e w' => e = .returned (.bool true) ∧ Below w.heap.size w w' := by
  have HC := Lib.hid hc
  clear hc
  have hsz := (szStringS_any A n c xs w h0 hs hm)
  have HS := Lib.hid hs
  clear hs hm
  go_enter Try.func5, Try.ntmps5
  go_wp2_with fail
  go_at_call 20; refine (hsz).mono ?_; rintro e w' ⟨r, rfl, rfl, hr1, hr2, hr0⟩
  clear hsz
  by_cases hr : r < 0
  · go_wp2
    go_ret
    exact ⟨rfl, Below.refl _ _⟩
  have hn : n ≤ 1048576 := by omega
  clear hr2 hbig
  have HR := Lib.hid (show n ≤ 1048576 from hn)
  have hb := Below.refl w.heap.size w
  go_wp2_with fail
  go_at_call 22; refine (toStringS_any _ _ _ _ _ h0 hn).mono ?_; rintro e w1 ⟨g1, rfl, ho1, hbn⟩
  have hb := hb.trans (hbn.mono hb.size)
  clear hbn
  go_wp2_with fail
  go_at_call 24; refine (spec_BadWordsIn_no _ _ _ xs s _ (Row.of_own ho1) hn HS.out hS HC.out).mono ?_; rintro e w2 ⟨rfl, hbn⟩
  clear ho1
  have hb := hb.trans (hbn.mono hb.size)
  clear hbn
  have b3 := hb.size
  go_wp2_with fail
  go_at_call 22; refine (toStringS_any _ _ _ _ _ (h0.to hb) hn).mono ?_; rintro e w3 ⟨g3, rfl, hx, hbn⟩
  have hb := hb.trans (hbn.mono hb.size)
  clear hbn
  have b4 := hb.size
  go_wp2_with fail
  go_at_call 25; refine (impl_BadWordsIn_no _ _ _ xs s _ (Row.of_own hx) hn HS.out hS HC.out).mono ?_; rintro e w4 ⟨rfl, hbn⟩
  have hx := own_below hx hbn (Nat.le_refl _)
  have hb := hb.trans (hbn.mono hb.size)
  clear hbn
  go_wp2_with fail
  go_at_call 17; refine (eqStringS_same none none 0 0 0 0 0 [] _ Row.none_ Row.none_ (by omega)).mono ?_; rintro e wq ⟨rfl, hq⟩
  have hx := own_drew hx hq
  have hb := hb.trans ((drew_below hq).mono hb.size)
  clear hq
  go_wp2_with fail
  go_at_call 22; refine (toStringS_any _ _ _ _ _ (h0.to hb) hn).mono ?_; rintro e w5 ⟨g5, rfl, ht, hbn⟩
  have hx := own_below hx hbn (Nat.le_refl _)
  have hb := hb.trans (hbn.mono hb.size)
  clear hbn
  go_wp2_with fail
  go_at_call 17; refine (eqStringS_same _ _ _ _ _ _ _ _ _ (Row.of_own_any hx) (Row.of_own_any ht) (by omega)).mono ?_; rintro e wq ⟨rfl, hq⟩
  have hx := own_drew hx hq
  have hb := hb.trans ((drew_below hq).mono hb.size)
  clear hq ht
  have b5 := hb.size
  go_wp2_with fail
  go_at_call 18; refine (markS_any _ _ _ 1 _ _ _ hx (by omega) (by omega) (by omega)).mono ?_; rintro e wm ⟨rfl, -, hk, hbk, hms⟩
  have hb := hbk _ _ hb (by omega) b5
  clear hk hbk hms hx
  have b5 := hb.size
  go_wp2_with fail
  go_at_call 17; refine (eqStringS_same none none 0 0 0 0 0 [] _ Row.none_ Row.none_ (by omega)).mono ?_; rintro e wq ⟨rfl, hq⟩
  have hb := hb.trans ((drew_below hq).mono hb.size)
  clear hq
  go_wp2_with fail
  go_at_call 18; refine (markStringS_nil 1 _).mono ?_; rintro e wm ⟨rfl, rfl⟩
  go_wp2_with fail
  go_at_call 19; refine (heldStringS_any none 0 0 1 _ Row.none_ (by omega) (by omega) (by omega)).mono ?_; rintro e wh ⟨rfl, hbn⟩
  have hb := hb.trans (hbn.mono hb.size)
  clear hbn
  go_wp2_with fail
  go_at_call 22; refine (toStringS_any _ _ _ _ _ (h0.to hb) hn).mono ?_; rintro e w7 ⟨g7, rfl, hx, hbn⟩
  have hb := hb.trans (hbn.mono hb.size)
  clear hbn
  go_wp2_with fail
  go_at_call 25; refine (impl_BadWordsIn_no _ _ _ xs s _ (Row.of_own hx) hn HS.out hS HC.out).mono ?_; rintro e w8 ⟨rfl, hbn⟩
  clear hx
  have hb := hb.trans (hbn.mono hb.size)
  clear hbn
  go_wp2_with fail
  go_at_call 17; refine (eqStringS_same none none 0 0 0 0 0 [] _ Row.none_ Row.none_ (by omega)).mono ?_; rintro e wq ⟨rfl, hq⟩
  have hb := hb.trans ((drew_below hq).mono hb.size)
  clear hq
  go_wp2_with fail
  go_at_call 19; refine (heldStringS_any none 0 0 1 _ Row.none_ (by omega) (by omega) (by omega)).mono ?_; rintro e wh ⟨rfl, hbn⟩
  have hb := hb.trans (hbn.mono hb.size)
  clear hbn
  go_wp2
  go_ret
  exact ⟨rfl, hb⟩
theorem walk (s : ByteArray) (A : Option Addr) (n c : Nat) (z : List ByteArray) (w : World) (w0 : s.size ≤ maxLen) (w1 : IsRowS w A n c z) :
    Calls Try.prog 5 #[.string s, .slice A n c] w fun e w' => e = .returned (.bool true) ∧ Below w.heap.size w w' := by
  by_cases hbig : 1048576 < s.size
  · go_enter Try.func5, Try.ntmps5
    go_wp2
    go_ret
    exact ⟨rfl, Below.refl _ _⟩
  generalize hxx : z.take n = xs
  by_cases hc : (textB s = true ∧ wordsB xs = true)
  · exact txt_yes s A n c xs w w0 (by rw [← hxx]; exact row_of_isRowS w1) (by rw [← hxx]; exact sizes_of_isRowS w1) (len_of_isRowS w1) hc hbig
  · exact txt_no s A n c xs w w0 (by rw [← hxx]; exact row_of_isRowS w1) (by rw [← hxx]; exact sizes_of_isRowS w1) (len_of_isRowS w1) hc hbig

theorem own : ownKnob Try.prog.godebug = none := by kernel_rfl
theorem laidOut : laidOutB Try.prog = true := by kernel_rfl
set_option maxRecDepth 100000 in
theorem lifted (os : Os) (started : os.Started) (H : Type) (enc : TypeId × Value → H) :
    ReturnsInHanded {} Try.checked os 5 .any (Rows.fnExactBadWordsInSpec.pre6 enc Try.prog Try.f5 Rows.fnExactBadWordsInRow.domain false) (Rows.fnExactBadWordsInSpec.post enc Try.prog Try.f5 false true false false) := by
  refine returnsInHanded_of_change (C := Try.checked) own started (by kernel_rfl) Try.func5
    (ChangeSpec.witness6 (enc := enc) (C := Try.checked) false ⟨#[], #[.string ByteArray.empty, .slice none 0 0], []⟩ 8 (by kernel_rfl) (by kernel_rfl) (by kernel_rfl) (by kernel_rfl)) ?_
  intro W base args ds gs before hval0 hW hcnd _
  have hval : ∀ (j : Nat) t v, Try.f5.params[j]? = some t → args[j]? = some v → Value.okWide Try.prog W .any base t v := hval0
  have hW' := hW
  obtain ⟨p, q, hA0, hV, rfl, hfz, hnd⟩ := hW
  have hA : DataW.TrodAll enc Try.prog W 0 (fun _ => true) true Try.f5.params.toList args.toList ds p := hA0
  rw [Try.params5] at hA hval
  obtain ⟨v0, vs0, d0, ds0, p0, q0, hargs, rfl, rfl, h0, r0⟩ := trodAll_cons hA
  obtain ⟨v1, vs1, d1, ds1, p1, q1, rfl, rfl, rfl, h1, r1⟩ := trodAll_cons r0
  obtain ⟨rfl, rfl, rfl⟩ := trodAll_nil r1
  obtain rfl : args = #[v0, v1] := by cases args; simp_all
  obtain ⟨rfl, rfl⟩ := trodVars_none hV
  obtain ⟨a0, rfl, rfl, rfl, w0⟩ := open_string Try.underlying9 (hval 0 9 v0 rfl rfl) h0
  obtain ⟨a1, len1, cap1, rfl⟩ := okWide_slice Try.underlying22 (hval 1 22 v1 rfl rfl)
  have k1 := h1
  have lt1 : ∀ x ∈ p1, x.block < W.heap.size := by obtain ⟨m, hm⟩ := k1; exact DataW.trod_lt m _ _ _ hm
  obtain ⟨z1, w1⟩ : ∃ zs, IsRowS W a1 len1 cap1 zs := by
    obtain ⟨fuel, hf⟩ := h1
    rcases open_strings Try.underlying22 Try.underlying9 (by kernel_rfl) hf with ⟨hcs, _⟩ | ⟨x, l, c, zs, hcs, _, hl, hm, hz, _, hcell, hwz⟩
    · simp [Value.cells] at hcs
      obtain ⟨rfl, rfl, rfl⟩ := hcs
      exact ⟨[], .inl ⟨rfl, rfl, rfl, rfl⟩⟩
    · simp [Value.cells] at hcs
      obtain ⟨rfl, rfl, rfl⟩ := hcs
      exact ⟨zs, .inr ⟨_, rfl, hl, hm, by simpa using hz, hcell, hwz⟩⟩
  clear hA0 hval0
  refine (walk a0 a1 len1 cap1 z1 W w0 w1).mono fun e W' ⟨he, bel⟩ => ?_
  subst he
  exact ⟨_, rfl, _, _, _, [], _, [], hW', trodAll_mk1 (shut_bool Try.underlying4 _), (trodAll_cons_mk (shut_string Try.underlying9 w0) (trodAll_cons_mk (Below.trod laidOut (by kernel_rfl) (of_decide_eq_true (by kernel_rfl)) k1 bel lt1) trodAll_mk0)), rfl, bel.frame _, fun h => by cases h⟩

theorem over : Rows.fnExactBadWordsInRow.holds Try.pinned (OpenSpec.ofChange Rows.fnExactBadWordsInSpec) :=
  OpenClaim.holds_of_wide 5 Try.f5 rfl rfl rfl rfl rfl rfl rfl ⟨rfl, rfl, rfl, rfl, rfl⟩ rfl rfl rfl rfl rfl (by kernel_rfl) Try.func5 (by kernel_rfl)
    (of_decide_eq_true (by kernel_rfl)) (by unfold Func.isWrapper; first | (rw [if_pos (by decide +kernel)]; kernel_rfl) | (rw [if_neg (by decide +kernel)]; exact ⟨rfl, rfl⟩))
    (fun os started H enc _ => lifted os started H enc)

theorem proved : Rows.FnExactBadWordsInSaid := over
#print axioms proved
end Go.Proofs.Yteeodjbionjlmaa.fnExactBadWordsIn
