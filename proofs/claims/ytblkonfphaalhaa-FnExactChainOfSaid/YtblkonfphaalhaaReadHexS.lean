import Derived.Test.YtblkonfphaalhaaChecked
import Derived.WalkKit
import Derived.ProofKit
import Derived.OpenShut
import Derived.ShutString
import Derived.ChangeOld
import Derived.Below
import Derived.Lib.Hide
import Derived.Test.YtblkonfphaalhaaRows1
import Derived.Test.YtblkonfphaalhaaPlain7
namespace Go.Proofs.Ytblkonfphaalhaa
open Go.ChangeShapes Go.WideShapes Go.ChangeAt Go.RowKit
open Go.ChangeMaps (open_string shut_string)
set_option linter.unusedVariables false
def rhYes (s : ByteArray) : Ending := .returned (.tuple #[.string (strOfNums (unhL s (s.size / 2))), .bool true])
def rhNo : Ending := .returned (.tuple #[.string ⟨#[]⟩, .bool false])
open Classical in
noncomputable def rhOut (s : ByteArray) : Ending := if s.size % 2 = 0 ∧ s.size ≤ 8000 ∧ HexTo s s.size then rhYes s else rhNo
theorem rhOut_yes {s : ByteArray} (h : s.size % 2 = 0) (h2 : s.size ≤ 8000) (h3 : HexTo s s.size) : rhOut s = rhYes s := by unfold rhOut; rw [if_pos ⟨h, h2, h3⟩]
theorem rhOut_no {s : ByteArray} (h : ¬ (s.size % 2 = 0 ∧ s.size ≤ 8000 ∧ HexTo s s.size)) : rhOut s = rhNo := by unfold rhOut; rw [if_neg h]
theorem l01Nibble_any (c : Int) (w : World) (h0 : 0 ≤ c) (h1 : c < 256) :
    Calls Try.prog 77 #[.int .u8 c] w fun e w' => e = .returned (.int .i64 (nib c)) ∧ w = w' := by
  by_cases a : c < 48
  · have e := Lib.hid (nib_lo c a)
    go_enter Try.func77, Try.ntmps77
    go_wp2
    go_ret
    exact ⟨ret_int e.out.symm, rfl⟩
  · by_cases b : c ≤ 57
    · have e := Lib.hid (nib_dig c (by omega) b)
      go_enter Try.func77, Try.ntmps77
      go_wp2
      go_ret
      exact ⟨ret_int e.out.symm, rfl⟩
    · by_cases d : c < 97
      · have e := Lib.hid (nib_mid c (by omega) d)
        go_enter Try.func77, Try.ntmps77
        go_wp2
        go_ret
        exact ⟨ret_int e.out.symm, rfl⟩
      · by_cases f : c ≤ 102
        · have e := Lib.hid (nib_let c (by omega) f)
          go_enter Try.func77, Try.ntmps77
          go_wp2
          go_ret
          exact ⟨ret_int e.out.symm, rfl⟩
        · have e := Lib.hid (nib_hi c (by omega))
          go_enter Try.func77, Try.ntmps77
          go_wp2
          go_ret
          exact ⟨ret_int e.out.symm, rfl⟩
set_option maxHeartbeats 800000 in
set_option maxRecDepth 100000 in
theorem l01ReadHex_any (s : ByteArray) (w : World) (h : s.size ≤ maxLen) :
    Calls Try.prog 62 #[.string s] w fun e w' => e = rhOut s ∧ Below w.heap.size w w' := by
  unfold maxLen at h
  by_cases he : s.size % 2 = 0
  · have he2 : ((s.size : Int) % 2 != 0) = false := by simp; omega
    have HE := Lib.hid he
    clear he
    by_cases hs : s.size ≤ 8000
    · obtain ⟨i0, hi, hz0, hz1, hz2⟩ := info_parts Try.info_u8
      go_enter Try.func62, Try.ntmps62
      go_wp2
      go_loopw [4, 5] (fun v i wr => ∃ k : Nat, 2 * k ≤ s.size ∧ i = .int .i64 ((2 * k : Nat) : Int) ∧ wr.ownsRow w.heap.size 5 1 v k ((unhL s k).map (Value.int .u8)) ∧ Below w.heap.size w wr ∧ HexTo s (2 * k)) (fun _ i _ => s.size - (intOf i).toNat)
      case atStart => exact ⟨0, by omega, rfl, World.ownsRow_made w #[] 0 (Nat.le_refl _) (by decide) rfl, (Below.refl _ _).alloc (Nat.le_refl _) _, HexTo.zero _⟩
      case round =>
        obtain ⟨k, hk, rfl, hown, hbel, hx⟩ := hrel
        have HX := Lib.hid hx
        clear hx
        by_cases hlt : 2 * k < s.size
        · have hlt1 : 2 * k + 1 < s.size := by have := HE.out; omega
          have hc0 : s[2 * k].toNat < 256 := s[2 * k].toNat_lt
          have hc1 : s[2 * k + 1].toNat < 256 := s[2 * k + 1].toNat_lt
          have hn0 := nib_bd (s[2 * k].toNat : Int)
          have hn1 := nib_bd (s[2 * k + 1].toNat : Int)
          by_cases g0 : nib (s[2 * k].toNat : Int) < 0
          · have HN := Lib.hid (HexTo.not0 hlt1 g0)
            go_wp2_with (go_at_call 77; refine (l01Nibble_any _ _ (by omega) (by omega)).mono ?_; rintro e w' ⟨rfl, rfl⟩)
            go_ret2
            exact ⟨(rhOut_no (fun H => HN.out H.2.2)).symm, hbel⟩
          · by_cases g1 : nib (s[2 * k + 1].toNat : Int) < 0
            · have HN := Lib.hid (HexTo.not1 hlt1 g1)
              go_wp2_with (go_at_call 77; refine (l01Nibble_any _ _ (by omega) (by omega)).mono ?_; rintro e w' ⟨rfl, rfl⟩)
              go_ret2
              exact ⟨(rhOut_no (fun H => HN.out H.2.2)).symm, hbel⟩
            · have HX2 := Lib.hid (HX.out.two hlt1 (by omega) (by omega))
              have HL := Lib.hid (unhL_succ s k hlt1)
              go_wp2_with (first | (go_at_call 77; refine (l01Nibble_any _ _ (by omega) (by omega)).mono ?_; rintro e w' ⟨rfl, rfl⟩) | (at_builtin; refine wpList_append_own _ rfl _ _ 50 rfl w.heap.size 5 i0 (.int .u8 0) 1 1 Try.underlying50 hi hz0 hz1 hz2 rfl (by decide) _ _ _ rfl (hown.alloc _) ⟨wr.heap.size, 0, none⟩ 1 1 [.int .u8 (16 * nib (s[2 * k].toNat : Int) + nib (s[2 * k + 1].toNat : Int))] rfl rfl ?c1 ?c2 ?c3 ?c4 ?c5 ?_))
              case c1 => exact cell_one_new _ _ _
              case c2 => intro u hu; simp at hu; subst hu; rfl
              case c3 => unfold maxLen; omega
              case c4 => omega
              case c5 => have := hbel.size; simp; omega
              intro v' w1 hown' hgrow _
              have hbs := hbel.size
              have hbel' : Below w.heap.size w w1 := (hbel.alloc hbs _).grown hgrow (by simp; omega) (fun g hg => (hown.lt g hg).1)
              clear hgrow hown hbel
              go_wp2
              go_roundw
              case rel => exact ⟨k + 1, by omega, by go_num, by rw [HL.out, List.map_append]; exact hown', hbel', HX2.out⟩
              case measure => simp [intOf]; omega
        · have hkn : 2 * k = s.size := by omega
          have hk2 : k = s.size / 2 := by omega
          have HO := Lib.hid (rhOut_yes HE.out hs (by have := HX.out; rw [hkn] at this; exact this))
          have hcv := own_string hown Try.underlying50 Try.underlying5 Try.underlying9
          have HK := Lib.hid hk2
          clear hkn hk2
          go_wp2
          go_ret2
          have hfin : rhOut s = .returned (.tuple #[.string (strOfNums (unhL s k)), .bool true]) := by rw [HO.out, rhYes, ← HK.out]
          exact ⟨hfin.symm, hbel⟩
    · have hs' : 8000 < s.size := by omega
      go_enter Try.func62, Try.ntmps62
      go_wp2
      go_ret2
      exact ⟨(rhOut_no (fun H => hs H.2.1)).symm, Below.refl _ _⟩
  · have he2 : ((s.size : Int) % 2 != 0) = true := by simp; omega
    have HE := Lib.hid he
    clear he
    go_enter Try.func62, Try.ntmps62
    go_wp2
    go_ret2
    exact ⟨(rhOut_no (fun H => HE.out H.1)).symm, Below.refl _ _⟩

theorem spec_ReadHex_yes (s : ByteArray) (w : World) (h : s.size ≤ maxLen) (hy : s.size % 2 = 0 ∧ s.size ≤ 8000 ∧ HexTo s s.size) :
    Calls Try.prog 29 #[.string s] w fun e w' => e = rhYes s ∧ Below w.heap.size w w' := by
  have HO := Lib.hid (rhOut_yes hy.1 hy.2.1 hy.2.2)
  clear hy
  go_enter Try.func29, Try.ntmps29
  go_wp2_with (go_at_call 62; refine (l01ReadHex_any _ _ h).mono ?_; rintro e w1 ⟨he, hb1⟩; rw [HO.out, rhYes] at he; subst he)
  go_ret2
  exact ⟨rfl, hb1⟩
theorem spec_ReadHex_no (s : ByteArray) (w : World) (h : s.size ≤ maxLen) (hy : ¬ (s.size % 2 = 0 ∧ s.size ≤ 8000 ∧ HexTo s s.size)) :
    Calls Try.prog 29 #[.string s] w fun e w' => e = rhNo ∧ Below w.heap.size w w' := by
  have HO := Lib.hid (rhOut_no hy)
  clear hy
  go_enter Try.func29, Try.ntmps29
  go_wp2_with (go_at_call 62; refine (l01ReadHex_any _ _ h).mono ?_; rintro e w1 ⟨he, hb1⟩; rw [HO.out, rhNo] at he; subst he)
  go_ret2
  exact ⟨rfl, hb1⟩
end Go.Proofs.Ytblkonfphaalhaa
