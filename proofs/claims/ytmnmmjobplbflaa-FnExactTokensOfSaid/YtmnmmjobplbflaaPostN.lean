import Derived.Test.YtmnmmjobplbflaaChecked
import Derived.WalkKit
import Derived.ProofKit
import Derived.OpenShut
import Derived.ShutString
import Derived.ChangeOld
import Derived.Below
import Derived.Lib.Hide
import Derived.Deep.Onto
import Derived.Lib.SmallJoins
import Derived.Test.YtmnmmjobplbflaaPostL
namespace Go.Proofs.Ytmnmmjobplbflaa
open Go.ChangeShapes Go.WideShapes Go.ChangeAt Go.RowKit
open Go.ChangeMaps (open_string shut_string)
set_option linter.unusedVariables false
set_option maxRecDepth 100000
set_option maxHeartbeats 3200000 in
theorem impl_TokensOf_any (x : Int) (A : Option Addr) (n c : Nat) (rs : List Rb) (m : Int) (w : World) (h : PostAt w w.heap.size A n rs) (hf : fitP (bxs rs)) :
    Calls Try.prog 21 #[.agg #[.int .i64 x, .slice A n c], .int .i64 m] w fun e w' => StrsOut (postB x (bxs rs) && idB m) (toksL x m (bxs rs)) w e w' := by
  have hn := fitP_n h hf
  have HF := Lib.hid hf
  have HL := Lib.hid (show (bxs rs).length = n by rw [bxs_len, h.len])
  obtain ⟨i0, hi, hz0, hz1, hz2⟩ := info_parts Try.info_str
  go_enter Try.func21, Try.ntmps21
  go_wp2_with fail
  obtain ⟨k0, hb0⟩ := one_box w 29 #[.int .i64 x, .slice A n c]
  generalize w.alloc (.cells #[.int .i64 x, .slice A n c] 29) = W at *
  have h := h.to hb0
  cases tb : postB x (bxs rs) with
  | false =>
    go_at_call 12; refine (impl_ValidPost_any x A n c rs _ h hf).mono ?_; rw [tb]; rintro e w1 ⟨rfl, hb1⟩
    have hb0 := hb0.trans (hb1.mono hb0.size)
    go_wp2
    all_goals exact bodyPost_ret (v := .tuple #[.slice none 0 0, .bool false]) (by simp [results, Try.results21, go_sem]) rfl (by rw [tb]; exact ⟨none, 0, 0, [], rfl, (toks_no1 tb).symm, World.ownsRow_nil _ _ _ _, hb0⟩)
  | true =>
    go_at_call 12; refine (impl_ValidPost_any x A n c rs _ h hf).mono ?_; rw [tb]; rintro e w1 ⟨rfl, hb1⟩
    have hn32 : n ≤ 32 := by have := HL.out; have e := tb; simp only [postB, Bool.and_eq_true, decide_eq_true_eq] at e; omega
    have h := h.to hb1
    have k0 := k0.below hb1 k0.lt
    have hb0 := hb0.trans (hb1.mono hb0.size)
    have hWw := hb0.size
    clear hb1
    cases tm : idB m with
    | false =>
      go_wp2_with (go_at_call 49; refine (isMember_b _ _ _ tm).mono ?_; rintro e w' ⟨rfl, rfl⟩)
      all_goals exact bodyPost_ret (v := .tuple #[.slice none 0 0, .bool false]) (by simp [results, Try.results21, go_sem]) rfl (by rw [tb, tm]; exact ⟨none, 0, 0, [], rfl, (toks_no2 tm).symm, World.ownsRow_nil _ _ _ _, hb0⟩)
    | true =>
      have HM := Lib.hid tm
      have l1 := k0.cell 1
      have klt := k0.lt
      go_wp2_with (go_at_call 49; refine (isMember_b _ _ _ tm).mono ?_; rintro e w' ⟨rfl, rfl⟩)
      clear tm
      go_loopw [6, 20] (fun v i wr => ∃ (k : Nat) (u : Value), k ≤ n ∧ i = .int .i64 k ∧ v = u ∧ wr.ownsRow w1.heap.size 9 1 u (tokL m ((bxs rs).take k)).length ((tokL m ((bxs rs).take k)).map strv) ∧ Below w1.heap.size w1 wr) (fun _ i _ => n - (intOf i).toNat)
      case atStart => exact ⟨0, .slice none 0 0, by omega, rfl, rfl, by simpa [tokL] using World.ownsRow_nil _ _ _ _, Below.refl _ _⟩
      case round =>
        obtain ⟨k, u, hk, rfl, rfl, hown, hbel⟩ := hrel
        have l1 := (k0.below hbel klt).cell 1
        by_cases hlt : k < n
        · have hlt' : decide ((k : Int) < (n : Int)) = true := decide_eq_true (by omega)
          obtain ⟨b, off, r, rfl, hb, hz, hr, c0, c1, c2, c3⟩ := (h.below hbel).atr hlt
          have HZ := Lib.hid (bxs_at hz)
          have hbs := hbel.size
          have hkl := tokL_le m (bxs rs) k
          clear hz hr h
          have ha : Below wr.heap.size wr (wr.alloc (.cells #[.string r.b.tok, .int .i64 r.b.mem, .int .i64 r.b.mis, .slice r.la r.ln r.lc] 62)) := (Below.refl _ _).alloc (Nat.le_refl _) _
          have hsz : (wr.alloc (.cells #[.string r.b.tok, .int .i64 r.b.mem, .int .i64 r.b.mis, .slice r.la r.ln r.lc] 62)).heap.size = wr.heap.size + 1 := by simp
          have hownA := own_below hown ha (Nat.le_refl _)
          have hbelA := hbel.trans (ha.mono hbs)
          clear hown hbel ha
          by_cases he : r.b.mem = m
          · have HT := Lib.hid (tokL_yes HZ.out he)
            have HL2 := Lib.hid (tokL_len_yes HZ.out he)
            have he' : (r.b.mem == m) = true := by simp [he]
            have HEX := Lib.hid he
            clear he
            go_wp2_with (at_builtin; refine wpList_append_own _ rfl _ _ 38 rfl w1.heap.size 9 i0 (.string ByteArray.empty) 1 16 Try.underlying38 hi hz0 hz1 hz2 rfl (by decide) _ _ _ rfl (hownA.alloc _) ⟨wr.heap.size + 1, 0, none⟩ 1 1 [.string r.b.tok] rfl rfl (cell_newX _ _ _ _ (by simp)) (by intro u hu; simp at hu; subst hu; rfl) (by unfold maxLen; omega) (by omega) (by simp; omega) ?_; intro v' w5 hown' hgrow _)
            have hbel' : Below w1.heap.size w1 w5 := (hbelA.alloc hbelA.size _).grown hgrow (by simp; omega) (fun g hg => (hownA.lt g hg).1)
            clear hgrow hownA hbelA
            go_roundw
            case rel => exact ⟨k + 1, v', by omega, by go_num, rfl, by rw [HT.out, HL2.out]; exact hown', hbel'⟩
            case measure => simp [intOf]; omega
          · have HT := Lib.hid (tokL_no HZ.out he)
            have he' : (r.b.mem == m) = false := by simp [he]
            clear he
            go_wp2
            go_roundw
            case rel => exact ⟨k + 1, _, by omega, by go_num, rfl, by rw [HT.out]; exact hownA, hbelA⟩
            case measure => simp [intOf]; omega
        · have hlt' : decide ((k : Int) < (n : Int)) = false := decide_eq_false (by omega)
          have hkn : k = n := by omega
          subst hkn
          rw [List.take_of_length_le (by have := HL.out; omega)] at hown
          have HO := Lib.hid hown
          clear hown
          rcases HO.out.2 with ⟨hv, hv0⟩ | ⟨g', cap', cur', hv, _⟩
          · subst hv
            go_wp2
            refine bodyPost_ret (v := .tuple #[.slice none 0 0, .bool true]) (by simp [results, Try.results21, go_sem]) rfl ?_
            exact ⟨_, _, _, _, by rw [tb, HM.out]; rfl, (toks_yes tb HM.out).symm, by have := World.ownsRow.mono HO.out hWw; rwa [hv0] at this, hb0.trans (hbel.mono hWw)⟩
          · subst hv
            go_wp2
            refine bodyPost_ret (v := .tuple #[.slice (some ⟨g', 0, none⟩) (tokL m (bxs rs)).length cap', .bool true]) (by simp [results, Try.results21, go_sem]) rfl ?_
            exact ⟨_, _, _, _, by rw [tb, HM.out]; rfl, (toks_yes tb HM.out).symm, World.ownsRow.mono HO.out hWw, hb0.trans (hbel.mono hWw)⟩
set_option maxHeartbeats 3200000 in
theorem spec_TokensOf_any (x : Int) (A : Option Addr) (n c : Nat) (rs : List Rb) (m : Int) (w : World) (h : PostAt w w.heap.size A n rs) (hf : fitP (bxs rs)) :
    Calls Try.prog 20 #[.agg #[.int .i64 x, .slice A n c], .int .i64 m] w fun e w' => StrsOut (postB x (bxs rs) && idB m) (toksL x m (bxs rs)) w e w' := by
  have hn := fitP_n h hf
  have HF := Lib.hid hf
  have HL := Lib.hid (show (bxs rs).length = n by rw [bxs_len, h.len])
  obtain ⟨i0, hi, hz0, hz1, hz2⟩ := info_parts Try.info_str
  go_enter Try.func20, Try.ntmps20
  go_wp2_with fail
  obtain ⟨k0, hb0⟩ := one_box w 29 #[.int .i64 x, .slice A n c]
  generalize w.alloc (.cells #[.int .i64 x, .slice A n c] 29) = W at *
  have h := h.to hb0
  cases tb : postB x (bxs rs) with
  | false =>
    go_at_call 37; refine (l04Is_any w.heap.size x A n c rs _ (k0.cell 0) (k0.cell 1) h hf).mono ?_; rw [tb]; rintro e w1 ⟨rfl, hb1⟩
    have hb0 := hb0.trans (hb1.mono hb0.size)
    go_wp2
    all_goals exact bodyPost_ret (v := .tuple #[.slice none 0 0, .bool false]) (by simp [results, Try.results20, go_sem]) rfl (by rw [tb]; exact ⟨none, 0, 0, [], rfl, (toks_no1 tb).symm, World.ownsRow_nil _ _ _ _, hb0⟩)
  | true =>
    go_at_call 37; refine (l04Is_any w.heap.size x A n c rs _ (k0.cell 0) (k0.cell 1) h hf).mono ?_; rw [tb]; rintro e w1 ⟨rfl, hb1⟩
    have hn32 : n ≤ 32 := by have := HL.out; have e := tb; simp only [postB, Bool.and_eq_true, decide_eq_true_eq] at e; omega
    have h := h.to hb1
    have k0 := k0.below hb1 k0.lt
    have hb0 := hb0.trans (hb1.mono hb0.size)
    have hWw := hb0.size
    clear hb1
    cases tm : idB m with
    | false =>
      go_wp2_with (go_at_call 48; refine (l02Id_b _ _ _ tm).mono ?_; rintro e w' ⟨rfl, rfl⟩)
      all_goals exact bodyPost_ret (v := .tuple #[.slice none 0 0, .bool false]) (by simp [results, Try.results20, go_sem]) rfl (by rw [tb, tm]; exact ⟨none, 0, 0, [], rfl, (toks_no2 tm).symm, World.ownsRow_nil _ _ _ _, hb0⟩)
    | true =>
      have HM := Lib.hid tm
      have l1 := k0.cell 1
      have klt := k0.lt
      go_wp2_with (go_at_call 48; refine (l02Id_b _ _ _ tm).mono ?_; rintro e w' ⟨rfl, rfl⟩)
      clear tm
      go_loopw [6, 7] (fun v i wr => ∃ (k : Nat) (u : Value), k ≤ n ∧ i = .int .i64 k ∧ v = u ∧ wr.ownsRow w1.heap.size 9 1 u (tokL m ((bxs rs).take k)).length ((tokL m ((bxs rs).take k)).map strv) ∧ Below w1.heap.size w1 wr) (fun _ i _ => n - (intOf i).toNat)
      case atStart => exact ⟨0, _, by omega, rfl, rfl, by simpa [tokL] using World.ownsRow_made w1 #[] 0 (Nat.le_refl _) (by decide) rfl, (Below.refl _ _).alloc (Nat.le_refl _) _⟩
      case round =>
        obtain ⟨k, u, hk, rfl, rfl, hown, hbel⟩ := hrel
        have l1 := (k0.below hbel klt).cell 1
        by_cases hlt : k < n
        · have hlt' : decide ((k : Int) < (n : Int)) = true := decide_eq_true (by omega)
          obtain ⟨b, off, r, rfl, hb, hz, hr, c0, c1, c2, c3⟩ := (h.below hbel).atr hlt
          have HZ := Lib.hid (bxs_at hz)
          have hbs := hbel.size
          have hkl := tokL_le m (bxs rs) k
          clear hz hr h
          have hownA := hown
          have hbelA := hbel
          clear hown hbel
          by_cases he : r.b.mem = m
          · have HT := Lib.hid (tokL_yes HZ.out he)
            have HL2 := Lib.hid (tokL_len_yes HZ.out he)
            have he' : (r.b.mem == m) = true := by simp [he]
            have HEX := Lib.hid he
            clear he
            go_wp2_with (at_builtin; refine wpList_append_own _ rfl _ _ 38 rfl w1.heap.size 9 i0 (.string ByteArray.empty) 1 16 Try.underlying38 hi hz0 hz1 hz2 rfl (by decide) _ _ _ rfl (hownA.alloc _) ⟨wr.heap.size, 0, none⟩ 1 1 [.string r.b.tok] rfl rfl (cell_newX _ _ _ _ rfl) (by intro u hu; simp at hu; subst hu; rfl) (by unfold maxLen; omega) (by omega) (by simp; omega) ?_; intro v' w5 hown' hgrow _)
            have hbel' : Below w1.heap.size w1 w5 := (hbelA.alloc hbelA.size _).grown hgrow (by simp; omega) (fun g hg => (hownA.lt g hg).1)
            clear hgrow hownA hbelA
            go_roundw
            case rel => exact ⟨k + 1, v', by omega, by go_num, rfl, by rw [HT.out, HL2.out]; exact hown', hbel'⟩
            case measure => simp [intOf]; omega
          · have HT := Lib.hid (tokL_no HZ.out he)
            have he' : (r.b.mem == m) = false := by simp [he]
            clear he
            go_wp2
            go_roundw
            case rel => exact ⟨k + 1, _, by omega, by go_num, rfl, by rw [HT.out]; exact hownA, hbelA⟩
            case measure => simp [intOf]; omega
        · have hlt' : decide ((k : Int) < (n : Int)) = false := decide_eq_false (by omega)
          have hkn : k = n := by omega
          subst hkn
          rw [List.take_of_length_le (by have := HL.out; omega)] at hown
          have HO := Lib.hid hown
          clear hown
          rcases HO.out.2 with ⟨hv, hv0⟩ | ⟨g', cap', cur', hv, _⟩
          · subst hv
            go_wp2
            refine bodyPost_ret (v := .tuple #[.slice none 0 0, .bool true]) (by simp [results, Try.results20, go_sem]) rfl ?_
            exact ⟨_, _, _, _, by rw [tb, HM.out]; rfl, (toks_yes tb HM.out).symm, by have := World.ownsRow.mono HO.out hWw; rwa [hv0] at this, hb0.trans (hbel.mono hWw)⟩
          · subst hv
            go_wp2
            refine bodyPost_ret (v := .tuple #[.slice (some ⟨g', 0, none⟩) (tokL m (bxs rs)).length cap', .bool true]) (by simp [results, Try.results20, go_sem]) rfl ?_
            exact ⟨_, _, _, _, by rw [tb, HM.out]; rfl, (toks_yes tb HM.out).symm, World.ownsRow.mono HO.out hWw, hb0.trans (hbel.mono hWw)⟩
end Go.Proofs.Ytmnmmjobplbflaa
