import Derived.Test.YteeodjbionjlmaaChecked
import Derived.WalkKit
import Derived.ProofKit
import Derived.OpenShut
import Derived.ShutString
import Derived.ChangeOld
import Derived.Below
import Derived.Lib.Hide
import Derived.WalkSpells
import Derived.WalkLawsBesides
import Derived.Test.YteeodjbionjlmaaZStrs2
import Derived.Test.YteeodjbionjlmaaJya
import Derived.Test.YteeodjbionjlmaaZIsTextC
import Derived.Test.YteeodjbionjlmaaZShapeS
namespace Go.Proofs.Yteeodjbionjlmaa
open Go.ChangeShapes Go.WideShapes Go.ChangeAt Go.RowKit
open Go.ChangeMaps (open_string shut_string)
set_option linter.unusedVariables false
theorem l01Letter_any (b : Int) (w : World) (h0 : 0 ≤ b) (h1 : b < 256) :
    Calls Try.prog 117 #[.int .u8 b] w fun e w' => e = .returned (.int .u8 (lowC b)) ∧ w = w' := by
  by_cases a : 97 ≤ b
  · by_cases a2 : b ≤ 122
    · have E := Lib.hid (lowC_small b a a2)
      go_enter Try.func117, Try.ntmps117
      go_wp2
      go_ret
      exact ⟨ret_int E.out.symm, rfl⟩
    · have E := Lib.hid (lowC_oth b (by omega) (by omega) (by omega))
      go_enter Try.func117, Try.ntmps117
      go_wp2
      go_ret
      exact ⟨ret_int E.out.symm, rfl⟩
  · by_cases c1 : 65 ≤ b
    · by_cases c2 : b ≤ 90
      · have E := Lib.hid (lowC_cap b c1 c2)
        go_enter Try.func117, Try.ntmps117
        go_wp2
        go_ret
        exact ⟨ret_int E.out.symm, rfl⟩
      · have E := Lib.hid (lowC_oth b (by omega) (by omega) (by omega))
        go_enter Try.func117, Try.ntmps117
        go_wp2
        go_ret
        exact ⟨ret_int E.out.symm, rfl⟩
    · by_cases d1 : 48 ≤ b
      · by_cases d2 : b ≤ 57
        · have E := Lib.hid (lowC_dig b d1 d2)
          go_enter Try.func117, Try.ntmps117
          go_wp2
          go_ret
          exact ⟨ret_int E.out.symm, rfl⟩
        · have E := Lib.hid (lowC_oth b (by omega) (by omega) (by omega))
          go_enter Try.func117, Try.ntmps117
          go_wp2
          go_ret
          exact ⟨ret_int E.out.symm, rfl⟩
      · have E := Lib.hid (lowC_oth b (by omega) (by omega) (by omega))
        go_enter Try.func117, Try.ntmps117
        go_wp2
        go_ret
        exact ⟨ret_int E.out.symm, rfl⟩
theorem strOfNums_snoc (l : List Int) (c : Int) : strOfNums l ++ strOfNums [c] = strOfNums (l ++ [c]) := by
  have : ∀ a b : ByteArray, a.data = b.data → a = b := fun a b h => by cases a; cases b; simp_all
  apply this
  simp [strOfNums]
def wordsL (s : ByteArray) : List ByteArray := (wTo s (s.size + 1)).1.map strOfNums
def wRow (st : WSt) : List Value := (st.1.map strOfNums).map strv
theorem wRow_put (done : List (List Int)) (cur c : List Int) : wRow (done ++ [c], []) = wRow (done, cur) ++ [.string (strOfNums c)] := by simp [wRow, strv]
set_option maxHeartbeats 800000 in
set_option maxRecDepth 100000 in
theorem l01Words_any (s : ByteArray) (w : World) (hs : s.size ≤ 80) :
    Calls Try.prog 61 #[.string s] w fun e w' => ∃ A m c, e = .returned (.slice A m c) ∧ w'.ownsRow w.heap.size 9 1 (.slice A m c) m ((wordsL s).map strv) ∧ Below w.heap.size w w' := by
  obtain ⟨i0, hi, hz0, hz1, hz2⟩ := info_parts Try.info_str
  go_enter Try.func61, Try.ntmps61
  go_wp2
  go_loopw [3, 4, 5] (fun v o i wr => ∃ k : Nat, k ≤ s.size + 1 ∧ i = .int .i64 k ∧ o = .string (strOfNums (wTo s k).2) ∧ wr.ownsRow w.heap.size 9 1 v (wTo s k).1.length (wRow (wTo s k)) ∧ Below w.heap.size w wr) (fun _ _ i _ => s.size + 1 - (intOf i).toNat)
  case atStart => exact ⟨0, by omega, rfl, rfl, World.ownsRow_made w #[] 0 (Nat.le_refl _) (by decide) rfl, (Below.refl _ _).alloc (Nat.le_refl _) _⟩
  case round =>
    obtain ⟨k, hk, rfl, rfl, hown, hbel⟩ := hrel
    have hbs := hbel.size
    have hbd := wTo_bd s k
    have HB := Lib.hid (wTo_byte s k)
    have hst : wTo s (k + 1) = wstep (wTo s k) (byteAt s k) := rfl
    have HT := Lib.hid hst
    clear hst
    generalize hws : wTo s k = st at *
    have HW := Lib.hid hws
    clear hws
    obtain ⟨done, cur⟩ := st
    simp only at hbd hown HB
    by_cases hle : k ≤ s.size
    · have hbb := byteAt_bd s k
      by_cases hlt : k < s.size
      · have hby := byteAt_eq s k hlt
        have HBY := Lib.hid hby
        clear hby
        have hc : s[k].toNat < 256 := s[k].toNat_lt
        by_cases hlow : lowC (s[k].toNat : Int) = 0
        · have HL := Lib.hid hlow
          clear hlow
          by_cases hcur : cur = []
          · have hst := HT.out.trans (wstep_none (done, cur) (byteAt s k) (by rw [HBY.out]; exact HL.out) hcur)
            have HS := Lib.hid hst
            have e0 : (strOfNums cur).toList = [] := by rw [hcur]; simp [strOfNums, ByteArray.toList_eq]
            have e1 : (strOfNums cur).toList.isEmpty = true := by rw [e0]; rfl
            clear hst hcur
            go_wp2_with (go_at_call 117; refine (l01Letter_any _ _ (by omega) (by omega)).mono ?_; rintro e w' ⟨he, rfl⟩; rw [HL.out] at he; subst he)
            go_roundw
            case rel => exact ⟨k + 1, by omega, by go_num, by rw [HS.out], by rw [HS.out]; exact hown, hbel⟩
            case measure => simp [intOf]; omega
          · have hst := HT.out.trans (wstep_end (done, cur) (byteAt s k) (by rw [HBY.out]; exact HL.out) hcur)
            have HS := Lib.hid hst
            have e1 : (strOfNums cur).toList.isEmpty = false := by
              cases cur with
              | nil => exact absurd rfl hcur
              | cons x r => simp [strOfNums, ByteArray.toList_eq]
            have e0 : ¬ (strOfNums cur).toList = [] := by intro h; rw [h] at e1; cases e1
            clear hst hcur
            go_wp2_with (first | (go_at_call 117; refine (l01Letter_any _ _ (by omega) (by omega)).mono ?_; rintro e w' ⟨he, rfl⟩; rw [HL.out] at he; subst he) | (at_builtin; refine wpList_append_own _ rfl _ _ 22 rfl w.heap.size 9 i0 (.string ByteArray.empty) 1 16 Try.underlying22 hi hz0 hz1 hz2 rfl (by decide) _ _ _ rfl (hown.alloc _) ⟨wr.heap.size, 0, none⟩ 1 1 [.string (strOfNums cur)] rfl rfl ?p1 ?p2 ?p3 ?p4 ?p5 ?_))
            case p1 => exact cell_one_new _ _ _
            case p2 => intro u hu; simp at hu; subst hu; rfl
            case p3 => unfold maxLen; omega
            case p4 => omega
            case p5 => simp; omega
            intro v' w5 hown' hgrow _
            have hbel' : Below w.heap.size w w5 := (hbel.alloc hbs _).grown hgrow (by simp; omega) (fun g hg => (hown.lt g hg).1)
            clear hgrow hown hbel
            go_wp2
            go_roundw
            case rel => exact ⟨k + 1, by omega, by go_num, by rw [HS.out]; rfl, by rw [HS.out]; show World.ownsRow _ _ _ _ _ (done ++ [cur]).length (wRow (done ++ [cur], [])); rw [wRow_put done cur cur, List.length_append]; exact hown', hbel'⟩
            case measure => simp [intOf]; omega
        · have hlb := lowC_bd (s[k].toNat : Int) (by omega) (by omega)
          have hne : (lowC (s[k].toNat : Int) != 0) = true := by simp [hlow]
          have hst := HT.out.trans (wstep_put (done, cur) (byteAt s k) (lowC (s[k].toNat : Int)) (by rw [HBY.out]) hlow)
          have HS := Lib.hid hst
          clear hlow hst
          have hb : Blk (wr.alloc (.cells #[.int .u8 (lowC (s[k].toNat : Int))] 5)) wr.heap.size 5 #[.int .u8 (lowC (s[k].toNat : Int))] := Blk.new wr _ _
          have hcv := blk_string (P := Try.prog) (n := 1) (cap := 1) (xs := [lowC (s[k].toNat : Int)]) hb rfl rfl Try.underlying82 Try.underlying5 Try.underlying9
          have hsum : (strOfNums cur).size + (strOfNums [lowC (s[k].toNat : Int)]).size ≤ 9223372036854775807 := by rw [strOfNums_size, strOfNums_size]; simp; omega
          clear hb
          go_wp2_with (go_at_call 117; refine (l01Letter_any _ _ (by omega) (by omega)).mono ?_; rintro e w' ⟨rfl, rfl⟩)
          go_roundw
          case rel => exact ⟨k + 1, by omega, by go_num, by rw [HS.out]; exact congrArg Value.string (strOfNums_snoc _ _), by rw [HS.out]; exact hown.alloc _, hbel.alloc hbs _⟩
          case measure => simp [intOf]; omega
      · have hbo : byteAt s k = 0 := by rw [show k = s.size by omega]; exact byteAt_out s
        have HBY := Lib.hid hbo
        clear hbo
        by_cases hcur : cur = []
        · have hst := HT.out.trans (wstep_none (done, cur) (byteAt s k) (by rw [HBY.out]; rfl) hcur)
          have HS := Lib.hid hst
          have e0 : (strOfNums cur).toList = [] := by rw [hcur]; simp [strOfNums, ByteArray.toList_eq]
          have e1 : (strOfNums cur).toList.isEmpty = true := by rw [e0]; rfl
          clear hst hcur
          go_wp2
          go_roundw
          case rel => exact ⟨k + 1, by omega, by go_num, by rw [HS.out], by rw [HS.out]; exact hown, hbel⟩
          case measure => simp [intOf]; omega
        · have hst := HT.out.trans (wstep_end (done, cur) (byteAt s k) (by rw [HBY.out]; rfl) hcur)
          have HS := Lib.hid hst
          have e1 : (strOfNums cur).toList.isEmpty = false := by
            cases cur with
            | nil => exact absurd rfl hcur
            | cons x r => simp [strOfNums, ByteArray.toList_eq]
          have e0 : ¬ (strOfNums cur).toList = [] := by intro h; rw [h] at e1; cases e1
          clear hst hcur
          go_wp2_with (at_builtin; refine wpList_append_own _ rfl _ _ 22 rfl w.heap.size 9 i0 (.string ByteArray.empty) 1 16 Try.underlying22 hi hz0 hz1 hz2 rfl (by decide) _ _ _ rfl (hown.alloc _) ⟨wr.heap.size, 0, none⟩ 1 1 [.string (strOfNums cur)] rfl rfl ?q1 ?q2 ?q3 ?q4 ?q5 ?_)
          case q2 => first | rfl | (intro u hu; simp at hu; subst hu; rfl) | simp [Value.oneCell']
          case q3 => unfold maxLen; omega
          case q4 => omega
          case q5 => first | omega | (simp; omega) | trivial
          intro v' w5 hown' hgrow _
          have hbel' : Below w.heap.size w w5 := (hbel.alloc hbs _).grown hgrow (by simp; omega) (fun g hg => (hown.lt g hg).1)
          clear hgrow hown hbel
          go_wp2
          go_roundw
          case rel => exact ⟨k + 1, by omega, by go_num, by rw [HS.out]; rfl, by rw [HS.out]; show World.ownsRow _ _ _ _ _ (done ++ [cur]).length (wRow (done ++ [cur], [])); rw [wRow_put done cur cur, List.length_append]; exact hown', hbel'⟩
          case measure => simp [intOf]; omega
    · have hfull : wordsL s = (wTo s k).1.map strOfNums := by unfold wordsL; rw [show s.size + 1 = k by omega]
      rw [HW.out] at hfull
      have HF := Lib.hid hfull
      clear hfull
      go_wp2
      obtain ⟨A2, m2, c2, rfl, hmm⟩ := own_shapeS hown
      subst hmm
      go_ret
      exact ⟨A2, _, c2, rfl, by rw [HF.out]; exact hown, hbel⟩
def WYes (w : World) (zs : List ByteArray) (e : Ending) (w' : World) : Prop :=
  ∃ A m c, e = .returned (.tuple #[.slice A m c, .bool true]) ∧ w'.ownsRow w.heap.size 9 1 (.slice A m c) m (zs.map strv) ∧ Below w.heap.size w w'
theorem textB_size {s : ByteArray} (h : textB s = true) : s.size ≤ 80 := by
  unfold textB at h
  rw [Bool.and_eq_true, decide_eq_true_eq] at h
  exact h.1
theorem textB_at {s : ByteArray} (h : textB s = true) (k : Nat) (hk : k < s.size) : 32 ≤ (s[k].toNat : Int) ∧ (s[k].toNat : Int) ≤ 126 := by
  unfold textB at h
  rw [Bool.and_eq_true, List.all_eq_true] at h
  have := h.2 s[k] (by simp [ByteArray.getElem_eq_getElem_data])
  simp [textC, UInt8.le_iff_toNat_le] at this
  omega
theorem spec_WordsOf_yes (s : ByteArray) (w : World) (hs : s.size ≤ maxLen) (ht : textB s = true) :
    Calls Try.prog 15 #[.string s] w fun e w' => WYes w (wordsL s) e w' := by
  have HT := Lib.hid ht
  clear ht
  go_enter Try.func15, Try.ntmps15
  go_wp2_with (first | (go_at_call 60; refine (l01IsText_any _ _ hs).mono ?_; rintro e w' ⟨he, rfl⟩; rw [HT.out] at he; subst he) | (go_at_call 61; refine (l01Words_any _ _ (textB_size HT.out)).mono ?_; rintro e w1 ⟨A2, m2, c2, rfl, ho, hb⟩))
  go_ret2
  exact ⟨A2, m2, c2, rfl, ho, hb⟩
theorem spec_WordsOf_no (s : ByteArray) (w : World) (hs : s.size ≤ maxLen) (ht : textB s = false) :
    Calls Try.prog 15 #[.string s] w fun e w' => e = .returned (.tuple #[.slice none 0 0, .bool false]) ∧ w = w' := by
  have HT := Lib.hid ht
  clear ht
  go_enter Try.func15, Try.ntmps15
  go_wp2_with (go_at_call 60; refine (l01IsText_any _ _ hs).mono ?_; rintro e w' ⟨he, rfl⟩; rw [HT.out] at he; subst he)
  go_ret2
  exact ⟨rfl, rfl⟩
theorem impl_WordsOf_no (s : ByteArray) (w : World) (hs : s.size ≤ maxLen) (ht : textB s = false) :
    Calls Try.prog 16 #[.string s] w fun e w' => e = .returned (.tuple #[.slice none 0 0, .bool false]) ∧ w = w' := by
  have HT := Lib.hid ht
  clear ht
  go_enter Try.func16, Try.ntmps16
  go_wp2_with (go_at_call 62; refine (impl_IsText_any _ _ hs).mono ?_; rintro e w' ⟨he, rfl⟩; rw [HT.out] at he; subst he)
  go_ret2
  exact ⟨rfl, rfl⟩
end Go.Proofs.Yteeodjbionjlmaa
