import Derived.Test.YtblkonfphaalhaaDoorChecked
import Derived.WalkKit
import Derived.ProofKit
import Derived.OpenShut
import Derived.ShutString
import Derived.ChangeOld
import Derived.Below
import Derived.Lib.Hide
import Derived.Test.YtblkonfphaalhaaDoorCutP
import Derived.Test.YtblkonfphaalhaaDoorListI
namespace Go.Proofs.YtblkonfphaalhaaDoor
open Go.ChangeShapes Go.WideShapes Go.ChangeAt Go.RowKit
open Go.ChangeMaps (open_string shut_string)
set_option linter.unusedVariables false
def CutInv (s : ByteArray) (i f : Nat) (out : List ByteArray) : Prop :=
  (i ≤ s.size ∧ f ≤ i ∧ out.map tl ++ pre (tl (s.extract f i)) (cutL ((tl s).drop i)) = cutL (tl s)) ∨ (i = s.size + 1 ∧ out.map tl = cutL (tl s))
theorem tl_len (s : ByteArray) : (tl s).length = s.size := by simp [tl]
theorem tl_ext (s : ByteArray) (f i : Nat) : tl (s.extract f i) = ((tl s).take i).drop f := by
  simp [tl, ByteArray.data_extract, List.extract_eq_take_drop, List.drop_take]
theorem tl_at (s : ByteArray) (i : Nat) (h : i < s.size) : (tl s).drop i = s[i] :: (tl s).drop (i + 1) := by
  rw [List.drop_eq_getElem_cons (by rw [tl_len]; exact h)]
  simp [tl, ByteArray.getElem_eq_getElem_data]
theorem CutInv.start (s : ByteArray) : CutInv s 0 0 [] := .inl ⟨Nat.zero_le _, Nat.le_refl _, by rw [tl_ext]; simp [pre_nil _ (cutL_ne _)]⟩
theorem CutInv.mark {s : ByteArray} {i f : Nat} {out : List ByteArray} (h : CutInv s i f out) (hi : i < s.size) (hb : s[i] = 44) : CutInv s (i + 1) (i + 1) (out ++ [s.extract f i]) := by
  rcases h with ⟨_, _, h3⟩ | ⟨h1, _⟩
  · refine .inl ⟨by omega, Nat.le_refl _, ?_⟩
    rw [tl_at s i hi, hb, pre_mark] at h3
    have e : tl (s.extract (i + 1) (i + 1)) = [] := by rw [tl_ext]; simp
    rw [e, pre_nil _ (cutL_ne _)]
    simpa using h3
  · omega
theorem CutInv.other {s : ByteArray} {i f : Nat} {out : List ByteArray} (h : CutInv s i f out) (hi : i < s.size) (hb : s[i] ≠ 44) : CutInv s (i + 1) f out := by
  rcases h with ⟨_, h2, h3⟩ | ⟨h1, _⟩
  · refine .inl ⟨by omega, by omega, ?_⟩
    rw [tl_at s i hi, pre_other _ _ _ hb] at h3
    have e : tl (s.extract f (i + 1)) = tl (s.extract f i) ++ [s[i]] := by
      have hl : i < (tl s).length := by rw [tl_len]; exact hi
      have hg : (tl s)[i] = s[i] := by simp [tl]; rfl
      rw [tl_ext, tl_ext, List.take_succ_eq_append_getElem hl, hg, List.drop_append_of_le_length (by simp; omega)]
      rfl
    rw [e]
    exact h3
  · omega
theorem CutInv.last {s : ByteArray} {i f : Nat} {out : List ByteArray} (h : CutInv s i f out) (hi : i = s.size) : CutInv s (i + 1) (i + 1) (out ++ [s.extract f i]) := by
  rcases h with ⟨_, _, h3⟩ | ⟨h1, _⟩
  · refine .inr ⟨by omega, ?_⟩
    rw [List.drop_eq_nil_of_le (by rw [tl_len]; omega)] at h3
    simpa [cutL, pre] using h3
  · omega
theorem CutInv.le {s : ByteArray} {i f : Nat} {out : List ByteArray} (h : CutInv s i f out) (hi : i ≤ s.size) : f ≤ i := by
  rcases h with ⟨_, h2, _⟩ | ⟨h1, _⟩
  · exact h2
  · omega
theorem CutInv.done {s : ByteArray} {i f : Nat} {out : List ByteArray} (h : CutInv s i f out) (hi : ¬ i ≤ s.size) : out = cutB s := by
  rcases h with ⟨h1, _⟩ | ⟨_, h2⟩
  · omega
  · exact cutB_of h2
set_option maxHeartbeats 1600000 in
set_option maxRecDepth 100000 in
theorem l01Cut_any (s : ByteArray) (w : World) (hs : s.size ≤ 1048576) :
    Calls Tryd.prog 46 #[.string s, .int .u8 44] w fun e w' => ∃ A m c, e = .returned (.slice A m c) ∧ w'.ownsRow w.heap.size 9 1 (.slice A m c) m ((cutB s).map strw) ∧ Below w.heap.size w w' := by
  obtain ⟨i0, hi, hz0, hz1, hz2⟩ := info_partsD Tryd.info_strD
  go_enter Tryd.func46, Tryd.ntmps46
  go_wp2
  go_loopw [5, 6, 7] (fun v fv iv wr => ∃ (i f : Nat) (out : List ByteArray), i ≤ s.size + 1 ∧ f ≤ s.size + 1 ∧ iv = .int .i64 i ∧ fv = .int .i64 f ∧ out.length ≤ i ∧ CutInv s i f out ∧ wr.ownsRow w.heap.size 9 1 v out.length (out.map strw) ∧ Below w.heap.size w wr) (fun _ _ iv _ => s.size + 1 - (intOf iv).toNat)
  case atStart => exact ⟨0, 0, [], by omega, by omega, rfl, rfl, Nat.le_refl _, CutInv.start s, World.ownsRow_made w #[] 0 (Nat.le_refl _) (by decide) rfl, (Below.refl _ _).alloc (Nat.le_refl _) _⟩
  case round =>
    obtain ⟨i, f, out, hin, hf, rfl, rfl, hol, hinv, hown, hbel⟩ := hrel
    have hbs := hbel.size
    by_cases hle : i ≤ s.size
    · have hfi := hinv.le hle
      by_cases hlt : i < s.size
      · have hne : ((i : Int) == (s.size : Int)) = false := by rw [beq_eq_false_iff_ne]; omega
        by_cases hb : s[i] = 44
        · have HI := Lib.hid (hinv.mark hlt hb)
          have hbb : s[i].toNat = 44 := by rw [hb]; rfl
          clear hinv hb
          go_wp2_with (at_builtin; refine wpList_append_own _ rfl (.tmp 26) (.tmp 31) 42 rfl w.heap.size 9 i0 (.string ByteArray.empty) 1 16 Tryd.underlying42 hi hz0 hz1 hz2 rfl (by decide) _ _ _ rfl (hown.alloc _) ⟨wr.heap.size, 0, none⟩ 1 1 [.string (s.extract f i)] rfl rfl ?_ ?_ ?_ ?_ ?_ ?_)
          all_goals try first | rfl | exact cell_one_new _ _ _ | (intro u hu; simp at hu; subst hu; rfl) | (unfold maxLen; omega) | omega | (simp; omega)
          intro v' w5 hown' hgrow _
          have hbel' : Below w.heap.size w w5 := (hbel.alloc hbs _).grown hgrow (by simp; omega) (fun g hg => (hown.lt g hg).1)
          clear hgrow hown hbel
          go_wp2
          go_roundw
          case rel => exact ⟨i + 1, i + 1, out ++ [s.extract f i], by omega, by omega, by go_num, by go_num, by rw [List.length_append, List.length_singleton]; omega, HI.out, by rw [List.length_append, List.map_append]; exact hown', hbel'⟩
          case measure => first | (simp [intOf]; done) | (simp [intOf]; omega)
        · have HI := Lib.hid (hinv.other hlt hb)
          have hbb : ((s[i].toNat : Int) == 44) = false := by
            simp
            intro e
            exact hb (UInt8.toNat_inj.1 (by have : s[i].toNat = 44 := by omega
                                            rw [this]; rfl))
          clear hinv hb
          go_wp2
          go_roundw
          case rel => exact ⟨i + 1, f, out, by omega, by omega, by go_num, by go_num, by omega, HI.out, hown, hbel⟩
          case measure => first | (simp [intOf]; done) | (simp [intOf]; omega)
      · have hie : i = s.size := by omega
        have HI := Lib.hid (hinv.last hie)
        clear hinv
        subst hie
        go_wp2_with (at_builtin; refine wpList_append_own _ rfl (.tmp 26) (.tmp 31) 42 rfl w.heap.size 9 i0 (.string ByteArray.empty) 1 16 Tryd.underlying42 hi hz0 hz1 hz2 rfl (by decide) _ _ _ rfl (hown.alloc _) ⟨wr.heap.size, 0, none⟩ 1 1 [.string (s.extract f s.size)] rfl rfl ?_ ?_ ?_ ?_ ?_ ?_)
        all_goals try first | rfl | exact cell_one_new _ _ _ | (intro u hu; simp at hu; subst hu; rfl) | (unfold maxLen; omega) | omega | (simp; omega)
        intro v' w5 hown' hgrow _
        have hbel' : Below w.heap.size w w5 := (hbel.alloc hbs _).grown hgrow (by simp; omega) (fun g hg => (hown.lt g hg).1)
        clear hgrow hown hbel
        go_wp2
        go_roundw
        case rel => exact ⟨s.size + 1, s.size + 1, out ++ [s.extract f s.size], by omega, by omega, by go_num, by go_num, by rw [List.length_append, List.length_singleton]; omega, HI.out, by rw [List.length_append, List.map_append]; exact hown', hbel'⟩
        case measure => first | (simp [intOf]; done) | (simp [intOf]; omega)
    · have HD := Lib.hid (hinv.done hle)
      clear hinv
      rcases hown.2 with ⟨rfl, h0⟩ | ⟨g, cap, cur, rfl, _⟩
      · go_wp2
        go_ret
        exact ⟨none, 0, 0, rfl, by rw [← HD.out]; rw [h0] at hown; exact hown, hbel⟩
      · go_wp2
        go_ret
        exact ⟨_, _, _, rfl, by rw [← HD.out]; exact hown, hbel⟩
end Go.Proofs.YtblkonfphaalhaaDoor
