import Derived.Test.YtgomffcdoglbfaaDoorChecked
import Derived.WalkKit
import Derived.ProofKit
import Derived.OpenShut
import Derived.ShutString
import Derived.ChangeOld
import Derived.Below
import Derived.Lib.Hide
import Derived.Test.YtgomffcdoglbfaaDoorZLogV
import Derived.Test.YtgomffcdoglbfaaDoorZSeenP
namespace Go.Proofs.YtgomffcdoglbfaaDoor
open Go.ChangeShapes Go.WideShapes Go.ChangeAt Go.RowKit
open Go.ChangeMaps (open_string shut_string)
set_option linter.unusedVariables false
set_option maxRecDepth 100000
theorem cell_newY (w : World) (t : TypeId) (v : Value) (a : Addr) (ha : a = ⟨w.heap.size, 0, none⟩) : ∀ (j : Nat) (u : Value), [v][j]? = some u → (w.alloc (.cells #[v] t)).cell? (a.add j) = some u := by
  subst ha
  intro j u hu
  have hj : j = 0 := by have := (List.getElem?_eq_some_iff.1 hu).1; simp at this; omega
  subst hj
  simp at hu; subst hu
  simp [Addr.add]
/-- numbers in memory of the answer's own, and whether they are told -/
def NumsOut (r : Bool) (l : List Int) (w : World) (e : Ending) (w' : World) : Prop :=
  ∃ A n c zs, e = .returned (.tuple #[.slice A n c, .bool r]) ∧ zs = (if r = true then l else []) ∧ w'.ownsRow w.heap.size 2 1 (.slice A n c) n (zs.map i64v) ∧ Below w.heap.size w w'
theorem numsOut_no {l : List Int} {w w' : World} (h : Below w.heap.size w w') : NumsOut false l w (.returned (.tuple #[.slice none 0 0, .bool false])) w' :=
  ⟨none, 0, 0, [], rfl, by simp, World.ownsRow_nil _ _ _ _, h⟩
set_option maxHeartbeats 3200000 in
theorem spec_SeenBy_any (x : Int) (A : Option Addr) (n c : Nat) (rs : List Rm) (t s : Int) (w : World) (h : LogAt w w.heap.size A n rs) (hf : fitL (mgs rs)) :
    Calls Tryd.prog 5 #[.agg #[.int .i64 x, .slice A n c], .int .i64 t, .int .i64 s] w fun e w' => NumsOut (logB x (mgs rs) && (idB t && amtB s)) (seenL t s (mgs rs)) w e w' := by
  have hn := fit_n h hf
  have HF := Lib.hid hf
  have HL := Lib.hid (show (mgs rs).length = n by rw [mgs_len, h.len])
  obtain ⟨i0, hi, hz0, hz1, hz2⟩ := info_parts Tryd.info_i64
  clear hf
  go_enter Tryd.func5, Tryd.ntmps5
  go_wp2_with fail
  obtain ⟨k0, hb0⟩ := one_box w 31 #[.int .i64 x, .slice A n c]
  generalize w.alloc (.cells #[.int .i64 x, .slice A n c] 31) = W at *
  have h := h.to hb0
  cases tb : logB x (mgs rs) with
  | false =>
    go_at_call 14; refine (l03Is_any w.heap.size x A n c _ rs _ (k0.cell 0) (k0.cell 1) h HF.out).mono ?_; rw [tb]; rintro e w1 ⟨rfl, hq⟩
    have hb0 := hb0.trans (Below.mono (drew_below hq) hb0.size)
    clear hq
    go_wp2
    all_goals exact bodyPost_ret (v := .tuple #[.slice none 0 0, .bool false]) (by simp [results, Tryd.results5, go_sem]) rfl (by rw [tb]; exact numsOut_no hb0)
  | true =>
    go_at_call 14; refine (l03Is_any w.heap.size x A n c _ rs _ (k0.cell 0) (k0.cell 1) h HF.out).mono ?_; rw [tb]; rintro e w1 ⟨rfl, hq⟩
    have hb1 := drew_below hq
    have h := h.to hb1
    have k0 := k0.below hb1 k0.lt
    have hb0 := hb0.trans (hb1.mono hb0.size)
    have hWw := hb0.size
    clear hb1 hq
    cases tm : idB t with
    | false =>
      go_wp2_with (go_at_call 15; refine (l01Mem_b _ _ _ tm).mono ?_; rintro e w' ⟨rfl, rfl⟩)
      all_goals exact bodyPost_ret (v := .tuple #[.slice none 0 0, .bool false]) (by simp [results, Tryd.results5, go_sem]) rfl (by rw [tb, tm]; exact numsOut_no hb0)
    | true =>
      cases ta : amtB s with
      | false =>
        have ta' : decide (0 ≤ s ∧ s ≤ 1000000000) = false := ta
        go_wp2_with (first | (go_at_call 15; refine (l01Mem_b _ _ _ tm).mono ?_; rintro e w' ⟨rfl, rfl⟩) | (go_at_call 16; refine (l00In_b _ _ _ _ _ ta').mono ?_; rintro e w' ⟨rfl, rfl⟩))
        all_goals exact bodyPost_ret (v := .tuple #[.slice none 0 0, .bool false]) (by simp [results, Tryd.results5, go_sem]) rfl (by rw [tb, tm, ta]; exact numsOut_no hb0)
      | true =>
        have ta' : decide (0 ≤ s ∧ s ≤ 1000000000) = true := ta
        have l1 := k0.cell 1
        have klt := k0.lt
        go_wp2_with (first | (go_at_call 15; refine (l01Mem_b _ _ _ tm).mono ?_; rintro e w' ⟨rfl, rfl⟩) | (go_at_call 16; refine (l00In_b _ _ _ _ _ ta').mono ?_; rintro e w' ⟨rfl, rfl⟩))
        have HBB := Lib.hid (show (logB x (mgs rs) && (idB t && amtB s)) = true by rw [tb, tm, ta]; rfl)
        clear ta' ta tm tb
        go_loopw [8, 27] (fun v i wr => ∃ (k : Nat) (u : Value), k ≤ n ∧ i = .int .i64 k ∧ v = u ∧ wr.ownsRow w1.heap.size 2 1 u (seenL t s ((mgs rs).take k)).length ((seenL t s ((mgs rs).take k)).map i64v) ∧ Below w1.heap.size w1 wr) (fun _ i _ => n - (intOf i).toNat)
        case atStart => exact ⟨0, _, by omega, rfl, rfl, by simp only [seenL, List.take_zero, List.filter_nil, List.map_nil, List.length_nil]; exact World.ownsRow_made w1 #[] 0 (Nat.le_refl _) (by decide) rfl, (Below.refl _ _).alloc (Nat.le_refl _) _⟩
        case round =>
          obtain ⟨k, u, hk, rfl, rfl, hown, hbel⟩ := hrel
          have l1 := (k0.below hbel klt).cell 1
          by_cases hlt : k < n
          · have hlt' : decide ((k : Int) < (n : Int)) = true := decide_eq_true (by omega)
            obtain ⟨b, off, r, rfl, hb, hz, hr, c0, c1, c2, c3, c4, c5, c6, c7⟩ := (h.below hbel).atr hlt
            have HZ := Lib.hid (mgs_at hz)
            have hbs := hbel.size
            have hkl := seen_le (t := t) (s := s) (ms := mgs rs) (k := k)
            clear hz hr h
            have hownA := hown
            have hbelA := hbel
            clear hown hbel
            obtain ⟨gg, hgg⟩ : ∃ z, r.m.gone = z := ⟨_, rfl⟩
            have HG := Lib.hid hgg
            rw [hgg] at c5
            clear hgg
            by_cases hs : s ≤ r.m.num
            · have hs' : decide (s ≤ r.m.num) = true := decide_eq_true hs
              have HS := Lib.hid hs
              cases gg with
              | false =>
                have HQ := Lib.hid (show seesB t s r.m = true by simp [seesB, HS.out, HG.out])
                have HT := Lib.hid (seen_yes HZ.out HQ.out)
                have HL2 := Lib.hid (seen_len HZ.out HQ.out)
                go_wp2_with (at_builtin; refine wpList_append_own _ rfl _ _ 26 rfl w1.heap.size 2 i0 (.int .i64 0) 1 8 Tryd.underlying26 hi hz0 hz1 hz2 rfl (by decide) _ _ _ rfl ((hownA.alloc _).alloc _) ⟨wr.heap.size + 1, 0, none⟩ 1 1 [.int .i64 r.m.num] rfl rfl (cell_newY _ _ _ _ (by simp)) (by intro u hu; simp at hu; subst hu; rfl) (by unfold maxLen; omega) (by omega) (by simp; omega) ?_; intro v' w5 hown' hgrow _)
                have hbel' : Below w1.heap.size w1 w5 := ((hbelA.alloc hbelA.size _).alloc (by simp; omega) _).grown hgrow (by simp; omega) (fun g hg => (hownA.lt g hg).1)
                clear hgrow hownA hbelA
                go_roundw
                case rel => exact ⟨k + 1, v', by omega, by go_num, rfl, by rw [HL2.out, HT.out, List.map_append]; exact hown', hbel'⟩
                case measure => simp [intOf]; omega
              | true =>
                by_cases he : r.m.sdr = t
                · have he' : (r.m.sdr == t) = true := by simp [he]
                  have HE := Lib.hid he
                  clear he
                  have HQ := Lib.hid (show seesB t s r.m = true by simp [seesB, HS.out, HG.out, HE.out])
                  have HT := Lib.hid (seen_yes HZ.out HQ.out)
                  have HL2 := Lib.hid (seen_len HZ.out HQ.out)
                  go_wp2_with (at_builtin; refine wpList_append_own _ rfl _ _ 26 rfl w1.heap.size 2 i0 (.int .i64 0) 1 8 Tryd.underlying26 hi hz0 hz1 hz2 rfl (by decide) _ _ _ rfl ((hownA.alloc _).alloc _) ⟨wr.heap.size + 1, 0, none⟩ 1 1 [.int .i64 r.m.num] rfl rfl (cell_newY _ _ _ _ (by simp)) (by intro u hu; simp at hu; subst hu; rfl) (by unfold maxLen; omega) (by omega) (by simp; omega) ?_; intro v' w5 hown' hgrow _)
                  have hbel' : Below w1.heap.size w1 w5 := ((hbelA.alloc hbelA.size _).alloc (by simp; omega) _).grown hgrow (by simp; omega) (fun g hg => (hownA.lt g hg).1)
                  clear hgrow hownA hbelA
                  go_roundw
                  case rel => exact ⟨k + 1, v', by omega, by go_num, rfl, by rw [HL2.out, HT.out, List.map_append]; exact hown', hbel'⟩
                  case measure => simp [intOf]; omega
                · have he' : (r.m.sdr == t) = false := by simp [he]
                  have HE := Lib.hid he
                  clear he
                  have HQ := Lib.hid (show seesB t s r.m = false by simp [seesB, HG.out, HE.out])
                  have HT := Lib.hid (seen_no HZ.out HQ.out)
                  go_wp2
                  go_roundw
                  case rel => exact ⟨k + 1, _, by omega, by go_num, rfl, by rw [HT.out]; exact hownA.alloc _, hbelA.alloc hbelA.size _⟩
                  case measure => simp [intOf]; omega
            · have hs' : decide (s ≤ r.m.num) = false := decide_eq_false hs
              have HS := Lib.hid hs
              have HQ := Lib.hid (show seesB t s r.m = false by simp [seesB, HS.out])
              have HT := Lib.hid (seen_no HZ.out HQ.out)
              go_wp2
              go_roundw
              case rel => exact ⟨k + 1, _, by omega, by go_num, rfl, by rw [HT.out]; exact hownA.alloc _, hbelA.alloc hbelA.size _⟩
              case measure => simp [intOf]; omega
          · have hlt' : decide ((k : Int) < (n : Int)) = false := decide_eq_false (by omega)
            have hkn : k = n := by omega
            subst hkn
            rw [List.take_of_length_le (by have := HL.out; omega)] at hown
            have HO := Lib.hid hown
            clear hown
            rcases HO.out.2 with ⟨hv, hv0⟩ | ⟨g', cap', cur', hv, _⟩
            · subst hv
              go_wp2
              refine bodyPost_ret (v := .tuple #[.slice none 0 0, .bool true]) (by simp [results, Tryd.results5, go_sem]) rfl ?_
              rw [HBB.out]
              exact ⟨_, _, _, seenL t s (mgs rs), rfl, by simp, by have := World.ownsRow.mono HO.out hWw; rwa [hv0] at this, hb0.trans (hbel.mono hWw)⟩
            · subst hv
              go_wp2
              refine bodyPost_ret (v := .tuple #[.slice (some ⟨g', 0, none⟩) (seenL t s (mgs rs)).length cap', .bool true]) (by simp [results, Tryd.results5, go_sem]) rfl ?_
              rw [HBB.out]
              exact ⟨_, _, _, seenL t s (mgs rs), rfl, by simp, World.ownsRow.mono HO.out hWw, hb0.trans (hbel.mono hWw)⟩
end Go.Proofs.YtgomffcdoglbfaaDoor
