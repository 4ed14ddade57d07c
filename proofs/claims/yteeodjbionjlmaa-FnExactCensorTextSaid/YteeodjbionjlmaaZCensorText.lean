/-
  CensorText answers as its model for every text and all words, and leaves its words as they were: the law returns true for every text and list of words. No condition.
-/
import Derived.Test.YteeodjbionjlmaaRows
import Derived.WalkKit
import Derived.ProofKit
import Derived.OpenShut
import Derived.ShutString
import Derived.ChangeOld
import Derived.Below
import Derived.Lib.Hide
import Derived.SliceStrings
import Derived.Test.YteeodjbionjlmaaZCenI
import Derived.Test.YteeodjbionjlmaaZChainW
namespace Go.Proofs.Yteeodjbionjlmaa.fnExactCensorText
open Go.ChangeShapes Go.WideShapes Go.ChangeAt Go.RowKit
open Go.ChangeMaps (open_string shut_string)
set_option linter.unusedVariables false
set_option maxRecDepth 100000
set_option maxHeartbeats 3200000 in
theorem txt_all (s : ByteArray) (A : Option Addr) (n c : Nat) (xs : List ByteArray) (w : World) (hS : s.size ≤ maxLen) (h0 : Row strv w w.heap.size A n xs) (hs : ∀ s ∈ xs, s.size ≤ maxLen) (hm : n ≤ maxLen) :
    Calls Try.prog 6 #[.string s, .slice A n c] w fun e w' => e = .returned (.bool true) ∧ Below w.heap.size w w' := by
  by_cases hbig : 1048576 < s.size
  · go_enter Try.func6, Try.ntmps6
    go_wp2
    go_ret
    exact ⟨rfl, Below.refl _ _⟩
  obtain ⟨r0, hr0⟩ : ∃ z, cenM xs s = z := ⟨_, rfl⟩
  have HR0 := Lib.hid hr0
  clear hr0
  have hsz := (szStringS_any A n c xs w h0 hs hm)
  have HS := Lib.hid hs
  clear hs hm
  go_enter Try.func6, Try.ntmps6
  go_wp2_with fail
  go_at_call 20; refine hsz.mono ?_; rintro e w' ⟨r, rfl, rfl, hr1, hr2, hr0⟩
  clear hsz
  by_cases hr : r < 0
  · go_wp2
    go_ret
    exact ⟨rfl, Below.refl _ _⟩
  have hn : n ≤ 1048576 := by omega
  clear hr2 hbig
  have hb := Below.refl w.heap.size w
  go_wp2_with fail
  go_at_call 22; refine (toStringS_any _ _ _ _ _ h0 hn).mono ?_; rintro e w1 ⟨g1, rfl, ho1, hbn⟩
  have hb := hb.trans (hbn.mono hb.size)
  clear hbn
  go_wp2_with fail
  go_at_call 26; refine (spec_CensorText_any _ _ _ xs s _ (Row.of_own ho1) hn HS.out hS).mono ?_; rw [HR0.out]; rintro e w2 ⟨rfl, hbn⟩
  clear ho1
  have hb := hb.trans (hbn.mono hb.size)
  clear hbn
  go_wp2_with fail
  go_at_call 22; refine (toStringS_any _ _ _ _ _ (h0.to hb) hn).mono ?_; rintro e w3 ⟨g3, rfl, hx, hbn⟩
  have hb := hb.trans (hbn.mono hb.size)
  clear hbn
  go_wp2_with fail
  go_at_call 27; refine (impl_CensorText_any _ _ _ xs s _ (Row.of_own hx) hn HS.out hS).mono ?_; rw [HR0.out]; rintro e w4 ⟨rfl, hbn⟩
  have hx := own_below hx hbn (Nat.le_refl _)
  have hb := hb.trans (hbn.mono hb.size)
  clear hbn
  go_wp2_with fail
  go_at_call 22; refine (toStringS_any _ _ _ _ _ (h0.to hb) hn).mono ?_; rintro e w5 ⟨g5, rfl, ht, hbn⟩
  have hx := own_below hx hbn (Nat.le_refl _)
  have hb := hb.trans (hbn.mono hb.size)
  clear hbn
  go_wp2_with fail
  go_at_call 17; refine (eqStringS_same _ _ _ _ _ _ _ _ _ (Row.of_own hx) (Row.of_own ht) (by omega)).mono ?_; rintro e wq ⟨rfl, hq⟩
  have hb := hb.trans ((drew_below hq).mono hb.size)
  clear hq hx ht
  go_wp2
  go_ret
  exact ⟨rfl, hb⟩
theorem walk (s : ByteArray) (A : Option Addr) (n c : Nat) (z : List ByteArray) (w : World) (w0 : s.size ≤ maxLen) (w1 : IsRowS w A n c z) :
    Calls Try.prog 6 #[.string s, .slice A n c] w fun e w' => e = .returned (.bool true) ∧ Below w.heap.size w w' :=
  txt_all s A n c (z.take n) w w0 (row_of_isRowS w1) (sizes_of_isRowS w1) (len_of_isRowS w1)

theorem own : ownKnob Try.prog.godebug = none := by kernel_rfl
theorem laidOut : laidOutB Try.prog = true := by kernel_rfl
set_option maxRecDepth 100000 in
theorem lifted (os : Os) (started : os.Started) (H : Type) (enc : TypeId × Value → H) :
    ReturnsInHanded {} Try.checked os 6 .any (Rows.fnExactCensorTextSpec.pre6 enc Try.prog Try.f6 Rows.fnExactCensorTextRow.domain false) (Rows.fnExactCensorTextSpec.post enc Try.prog Try.f6 false true false false) := by
  refine returnsInHanded_of_change (C := Try.checked) own started (by kernel_rfl) Try.func6
    (ChangeSpec.witness6 (enc := enc) (C := Try.checked) false ⟨#[], #[.string ByteArray.empty, .slice none 0 0], []⟩ 8 (by kernel_rfl) (by kernel_rfl) (by kernel_rfl) (by kernel_rfl)) ?_
  intro W base args ds gs before hval0 hW hcnd _
  have hval : ∀ (j : Nat) t v, Try.f6.params[j]? = some t → args[j]? = some v → Value.okWide Try.prog W .any base t v := hval0
  have hW' := hW
  obtain ⟨p, q, hA0, hV, rfl, hfz, hnd⟩ := hW
  have hA : DataW.TrodAll enc Try.prog W 0 (fun _ => true) true Try.f6.params.toList args.toList ds p := hA0
  rw [Try.params6] at hA hval
  obtain ⟨v0, vs0, d0, ds0, p0, q0, hargs, rfl, rfl, h0, r0⟩ := trodAll_cons hA
  obtain ⟨v1, vs1, d1, ds1, p1, q1, rfl, rfl, rfl, h1, r1⟩ := trodAll_cons r0
  obtain ⟨rfl, rfl, rfl⟩ := trodAll_nil r1
  obtain rfl : args = #[v0, v1] := by cases args; simp_all
  obtain ⟨rfl, rfl⟩ := trodVars_none hV
  obtain ⟨a0, rfl, rfl, rfl, w0⟩ := open_string Try.underlying9 (hval 0 9 v0 rfl rfl) h0
  obtain ⟨a1, len1, cap1, rfl⟩ := okWide_slice Try.underlying22 (hval 1 22 v1 rfl rfl)
  have k1 := h1
  have lt1 : ∀ x ∈ p1, x.block < W.heap.size := by obtain ⟨m, hm⟩ := k1; exact DataW.trod_lt m _ _ _ hm
  obtain ⟨z1, w1⟩ : ∃ zs, IsRowS W a1 len1 cap1 zs := by
    obtain ⟨fuel, hf⟩ := h1
    rcases open_strings Try.underlying22 Try.underlying9 (by kernel_rfl) hf with ⟨hcs, _⟩ | ⟨x, l, c, zs, hcs, _, hl, hm, hz, _, hcell, hwz⟩
    · simp [Value.cells] at hcs
      obtain ⟨rfl, rfl, rfl⟩ := hcs
      exact ⟨[], .inl ⟨rfl, rfl, rfl, rfl⟩⟩
    · simp [Value.cells] at hcs
      obtain ⟨rfl, rfl, rfl⟩ := hcs
      exact ⟨zs, .inr ⟨_, rfl, hl, hm, by simpa using hz, hcell, hwz⟩⟩
  clear hA0 hval0
  refine (walk a0 a1 len1 cap1 z1 W w0 w1).mono fun e W' ⟨he, bel⟩ => ?_
  subst he
  exact ⟨_, rfl, _, _, _, [], _, [], hW', trodAll_mk1 (shut_bool Try.underlying4 _), (trodAll_cons_mk (shut_string Try.underlying9 w0) (trodAll_cons_mk (Below.trod laidOut (by kernel_rfl) (of_decide_eq_true (by kernel_rfl)) k1 bel lt1) trodAll_mk0)), rfl, bel.frame _, fun h => by cases h⟩

theorem over : Rows.fnExactCensorTextRow.holds Try.pinned (OpenSpec.ofChange Rows.fnExactCensorTextSpec) :=
  OpenClaim.holds_of_wide 6 Try.f6 rfl rfl rfl rfl rfl rfl rfl ⟨rfl, rfl, rfl, rfl, rfl⟩ rfl rfl rfl rfl rfl (by kernel_rfl) Try.func6 (by kernel_rfl)
    (of_decide_eq_true (by kernel_rfl)) (by unfold Func.isWrapper; first | (rw [if_pos (by decide +kernel)]; kernel_rfl) | (rw [if_neg (by decide +kernel)]; exact ⟨rfl, rfl⟩))
    (fun os started H enc _ => lifted os started H enc)

theorem proved : Rows.FnExactCensorTextSaid := over
#print axioms proved
end Go.Proofs.Yteeodjbionjlmaa.fnExactCensorText
