import Derived.Test.YtmdoddikaaaamaaChecked
import Derived.WalkKit
import Derived.ProofKit
import Derived.OpenShut
import Derived.ShutString
import Derived.ChangeOld
import Derived.Below
import Derived.Lib.Hide
import Derived.Deep.QuietTactic
import Derived.BigQuiet
import Derived.Shelf.Abstract
import Derived.Test.YtmdoddikaaaamaaZWinJ
import Derived.Test.YtmdoddikaaaamaaZRunS
namespace Go.Proofs.Ytmdoddikaaaamaa
open Go.ChangeShapes Go.WideShapes Go.ChangeAt Go.RowKit
open Go.ChangeMaps (open_string shut_string)
set_option linter.unusedVariables false
set_option maxRecDepth 100000
theorem own_shapeW {w : World} {base e s m : Nat} {v : Value} {xs : List Value} (h : w.ownsRow base e s v m xs) : ∃ A c, v = .slice A m c := by
  rcases h.2 with ⟨hv, hn⟩ | ⟨g, cap, cur, hv, _⟩
  · subst hn; exact ⟨none, 0, hv⟩
  · exact ⟨_, _, hv⟩
theorem timesF_zero (xs : List Int) : timesF 0 xs = ticksB xs := by
  rw [timesF_eq xs 0 (Int.le_refl _)]
  cases xs with
  | nil => simp [startF]
  | cons x r =>
    cases ht : ticksB (x :: r) with
    | false => simp
    | true =>
      have h1 := ht
      unfold ticksB rowG at h1
      have h2 := chG_ticks _ none (and_both h1).2 x List.mem_cons_self
      have : 0 ≤ x := by simp [tickB] at h2; omega
      simp [startF, this]
theorem winB_eq (win most : Int) : winB win most = (decide (1 ≤ win ∧ win ≤ 1000000) && decide (1 ≤ most ∧ most ≤ 256)) := by
  unfold winB spanB
  simp only [Bool.decide_and]
set_option maxHeartbeats 12800000 in
theorem spec_RunWindow_any (A : Option Addr) (n c : Nat) (xs : List Int) (win most : Int) (w : World) (h : Row i64v w w.heap.size A n xs) (hn : n ≤ 1048576) :
    Calls Try.prog 37 #[.slice A n c, .int .i64 win, .int .i64 most] w (WinOut (okWin xs win most) (runG (stW win most.toNat) [] xs).1 w) := by
  obtain ⟨i0, hi, hz0, hz1, hz2⟩ := info_parts Try.info_bool
  have HL := Lib.hid h.1
  have HT0 := Lib.hid (timesF_zero xs)
  have HWB := Lib.hid (winB_eq win most)
  cases t0 : ticksB xs with
  | false =>
    have E := Lib.hid (show okWin xs win most = false by unfold okWin; rw [t0]; rfl)
    go_enter Try.func37, Try.ntmps37
    go_wp2_with fail
    go_at_call 64; refine (l06Times_any 0 A n c _ xs _ h hn).mono ?_; rw [HT0.out, t0]; rintro e w1 ⟨rfl, rfl⟩
    go_wp2
    refine bodyPost_ret (v := .tuple #[.slice none 0 0, .bool false]) (by simp [results, Try.results37, go_sem]) rfl ?_
    rw [E.out]
    exact winOut_no (Below.refl _ _)
  | true =>
    have HTB := Lib.hid t0
    cases t1 : decide (1 ≤ win ∧ win ≤ 1000000) with
    | false =>
      have E := Lib.hid (okWin_no (xs := xs) (show winB win most = false by rw [HWB.out, t1]; rfl))
      go_enter Try.func37, Try.ntmps37
      go_wp2_with fail
      go_at_call 64; refine (l06Times_any 0 A n c _ xs _ h hn).mono ?_; rw [HT0.out, HTB.out]; rintro e w1 ⟨rfl, rfl⟩
      go_wp2_with fail
      go_at_call 61; refine (l00In_b _ _ _ _ _ t1).mono ?_; rintro e w1 ⟨rfl, rfl⟩
      go_wp2
      refine bodyPost_ret (v := .tuple #[.slice none 0 0, .bool false]) (by simp [results, Try.results37, go_sem]) rfl ?_
      rw [E.out]
      exact winOut_no (Below.refl _ _)
    | true =>
      cases t2 : decide (1 ≤ most ∧ most ≤ 256) with
      | false =>
        have E := Lib.hid (okWin_no (xs := xs) (show winB win most = false by rw [HWB.out, t2, Bool.and_false]))
        go_enter Try.func37, Try.ntmps37
        go_wp2_with fail
        go_at_call 64; refine (l06Times_any 0 A n c _ xs _ h hn).mono ?_; rw [HT0.out, HTB.out]; rintro e w1 ⟨rfl, rfl⟩
        go_wp2_with fail
        go_at_call 61; refine (l00In_b _ _ _ _ _ t1).mono ?_; rintro e w1 ⟨rfl, rfl⟩
        go_wp2_with fail
        go_at_call 61; refine (l00In_b _ _ _ _ _ t2).mono ?_; rintro e w1 ⟨rfl, rfl⟩
        go_wp2
        refine bodyPost_ret (v := .tuple #[.slice none 0 0, .bool false]) (by simp [results, Try.results37, go_sem]) rfl ?_
        rw [E.out]
        exact winOut_no (Below.refl _ _)
      | true =>
        have hw : 1 ≤ win ∧ win ≤ 1000000 := by simpa using t1
        have hmo : 1 ≤ most ∧ most ≤ 256 := by simpa using t2
        obtain ⟨m, rfl⟩ : ∃ m : Nat, most = (m : Int) := ⟨most.toNat, by omega⟩
        have E := Lib.hid (show okWin xs win (m : Int) = true by unfold okWin; rw [HWB.out, t1, t2, HTB.out]; rfl)
        have hch : chG tickB tkF none xs = true := by have h1 := HTB.out; unfold ticksB rowG at h1; exact (and_both h1).2
        have HSO := Lib.hid (chG_sorted xs none hch)
        have HTK := Lib.hid (chG_ticks xs none hch)
        have HM := Lib.hid hmo
        have HWI := Lib.hid hw
        have HTN := Lib.hid (show (m : Int).toNat = m by omega)
        clear hch
        go_enter Try.func37, Try.ntmps37
        go_wp2_with fail
        go_at_call 64; refine (l06Times_any 0 A n c _ xs _ h hn).mono ?_; rw [HT0.out, HTB.out]; rintro e w1 ⟨rfl, rfl⟩
        go_wp2_with fail
        go_at_call 61; refine (l00In_b _ _ _ _ _ t1).mono ?_; rintro e w1 ⟨rfl, rfl⟩
        go_wp2_with fail
        go_at_call 61; refine (l00In_b _ _ _ _ _ t2).mono ?_; rintro e w1 ⟨rfl, rfl⟩
        clear t0 t1 t2 hw hmo
        go_wp2
        go_loopw [8, 9] (fun v i wr => ∃ (k : Nat) (u : Value), k ≤ n ∧ i = .int .i64 k ∧ v = u ∧ wr.ownsRow w.heap.size 4 1 u k ((runG (stW win m) [] (xs.take k)).1.map boolv) ∧ Below w.heap.size w wr) (fun _ i _ => n - (intOf i).toNat)
        case atStart => exact ⟨0, _, by omega, rfl, rfl, by simpa [runG] using World.ownsRow_mono0 w (Nat.le_refl _), (Below.refl _ _).alloc (Nat.le_refl _) _⟩
        case round =>
          obtain ⟨k, u, hk, rfl, rfl, hown, hb⟩ := hrel
          obtain ⟨A8, c8, rfl⟩ := own_shapeW hown
          by_cases hlt : k < n
          · have hlt' : decide ((k : Int) < (n : Int)) = true := decide_eq_true (by omega)
            obtain ⟨b, off, z, rfl, hxb, hz, c0⟩ := (h.below hb).at_ hlt
            have HTZ := Lib.hid (HTK.out z (List.mem_of_getElem? hz))
            have HST := Lib.hid (runW_step win m (by have := HM.out; omega) hz HSO.out)
            have w0 : IntKind.i64.wrap (z - win) = z - win := IntWalk.i64_in _ (by have h1 := HTZ.out; have := HWI.out; simp [tickB] at h1; omega)
            obtain ⟨os, hos⟩ : ∃ x, (runG (stW win m) [] (xs.take k)).1 = x := ⟨_, rfl⟩
            rw [hos] at hown
            have HOS := Lib.hid hos
            have HOL := Lib.hid (show os.length = k by rw [← hos, runG_len, List.length_take]; have := HL.out; omega)
            obtain ⟨cc, hcc⟩ : ∃ x, z - win = x := ⟨_, rfl⟩
            rw [hcc] at w0
            have w1 : wrap64 (z - win) = cc := by rw [hcc]; exact IntWalk.wrap64_in _ (by have h1 := HTZ.out; have := HWI.out; simp [tickB] at h1; omega)
            have HCC := Lib.hid hcc
            have HR := Lib.hid (h.below hb)
            have HO := Lib.hid hown
            have HB := Lib.hid hb
            have hi0 : (0 : Int) ≤ (k : Int) := by omega
            have hi1 : (k : Int) < (n : Int) := by omega
            clear hz hos hcc hown hb
            go_wp2
            go_loopw [10, 11] (fun q j wi => ∃ l q' : Nat, l ≤ k ∧ j = .int .i64 l ∧ q = .int .i64 ((inW cc (xs.take l) (os.take l) : Nat) : Int) ∧ wi = wr.drewN q') (fun _ j _ => k - (intOf j).toNat)
            case atStart => exact ⟨0, 0, by omega, rfl, by simp [inW], rfl⟩
            case round =>
              obtain ⟨l, q', hl, rfl, rfl, rfl⟩ := hrel
              by_cases hlk : l < k
              · have hlk' : decide ((l : Int) < (k : Int)) = true := decide_eq_true (by omega)
                obtain ⟨bo, oo, bl, rfl, _, hbl, d0⟩ := (Row.of_own_any HO.out).at_ hlk
                obtain ⟨b2, off2, xl, e2, hxb2, hxl, c1⟩ := HR.out.at_ (k := l) (by omega)
                simp only [Option.some.injEq, Addr.mk.injEq, and_true] at e2
                obtain ⟨rfl, rfl⟩ := e2
                have HIN := Lib.hid (inW_step cc xs os l xl bl hxl hbl)
                have HIL := Lib.hid (inW_le cc (xs.take l) (os.take l))
                obtain ⟨cn, hcn⟩ : ∃ x, inW cc (xs.take l) (os.take l) = x := ⟨_, rfl⟩
                rw [hcn] at HIN HIL
                simp only [hcn]
                have hcb : cn ≤ 1048576 := by have := HIL.out; simp at this; omega
                have hj0 : (0 : Int) ≤ (l : Int) := by omega
                have hj1 : (l : Int) < (k : Int) := by omega
                have hj2 : (l : Int) < (n : Int) := by omega
                have d1 : wr.cell? ⟨bo, oo + l, none⟩ = some (.bool bl) := d0
                have c2 : wr.cell? ⟨b, off + l, none⟩ = some (.int .i64 xl) := c1
                have c3 : wr.cell? ⟨b, off + k, none⟩ = some (.int .i64 z) := c0
                clear hxl hbl hcn d0 c1 c0
                cases bl with
                | false =>
                  have HN1 := Lib.hid (show inW cc (xs.take (l + 1)) (os.take (l + 1)) = cn + 0 by rw [HIN.out]; rfl)
                  go_wp2
                  go_quiet (fail)
                  go_wp2
                  all_goals first | (go_roundw; case rel => exact ⟨l + 1, _, by omega, by go_num, by rw [HN1.out]; go_num, rfl⟩; case measure => simp [intOf]; omega) | exact ⟨⟨l + 1, _, by omega, by go_num, by rw [HN1.out]; go_num, rfl⟩, by simp [intOf]; omega⟩
                | true =>
                  by_cases hin : cc < xl
                  · have hin' : decide (cc < xl) = true := decide_eq_true hin
                    have HN1 := Lib.hid (show inW cc (xs.take (l + 1)) (os.take (l + 1)) = cn + 1 by rw [HIN.out, hin']; rfl)
                    go_wp2
                    go_quiet (fail)
                    go_wp2
                    all_goals first | (go_roundw; case rel => exact ⟨l + 1, _, by omega, by go_num, by rw [HN1.out]; go_num, rfl⟩; case measure => simp [intOf]; omega) | exact ⟨⟨l + 1, _, by omega, by go_num, by rw [HN1.out]; go_num, rfl⟩, by simp [intOf]; omega⟩
                  · have hin' : decide (cc < xl) = false := decide_eq_false hin
                    have HN1 := Lib.hid (show inW cc (xs.take (l + 1)) (os.take (l + 1)) = cn + 0 by rw [HIN.out, hin']; rfl)
                    go_wp2
                    go_quiet (fail)
                    go_wp2
                    all_goals first | (go_roundw; case rel => exact ⟨l + 1, _, by omega, by go_num, by rw [HN1.out]; go_num, rfl⟩; case measure => simp [intOf]; omega) | exact ⟨⟨l + 1, _, by omega, by go_num, by rw [HN1.out]; go_num, rfl⟩, by simp [intOf]; omega⟩
              · have hlk' : decide ((l : Int) < (k : Int)) = false := decide_eq_false (by omega)
                have hll : l = k := by omega
                have HE := Lib.hid (show inW cc (xs.take l) (os.take l) = inW cc (xs.take k) os by rw [hll, List.take_of_length_le (l := os) (by have := HOL.out; omega)])
                obtain ⟨cn, hcn⟩ : ∃ x, inW cc (xs.take l) (os.take l) = x := ⟨_, rfl⟩
                have HCN := Lib.hid hcn
                simp only [hcn]
                clear hcn hll
                have hq : Below wr.heap.size wr (wr.drewN q') := drew_below ⟨q', rfl⟩
                have hown1 := own_below HO.out hq (Nat.le_refl _)
                have hb1 := HB.out.trans (hq.mono HB.out.size)
                have hs1 := hb1.size
                clear hq
                generalize wr.drewN q' = V at *
                by_cases hcm : cn < m
                · have hcm' : decide ((cn : Int) < (m : Int)) = true := decide_eq_true (by omega)
                  have HBQ := Lib.hid (show decide (inW (z - win) (xs.take k) (runG (stW win m) [] (xs.take k)).1 < m) = true by rw [HOS.out, HCC.out, ← HE.out, HCN.out]; simpa using hcm)
                  go_wp2_with (at_builtin; refine wpList_append_own _ rfl _ _ 42 rfl w.heap.size 4 i0 (.bool false) 1 1 Try.underlying42 hi hz0 hz1 hz2 rfl (by decide) _ _ _ rfl (hown1.alloc _) ⟨V.heap.size, 0, none⟩ 1 1 [.bool true] rfl rfl (cell_newB _ _ _ _ rfl) (by intro u hu; simp at hu; subst hu; rfl) (by unfold maxLen; omega) (by omega) (by first | (simp; done) | (simp; omega) | omega) ?_; intro v' w6 hown' hgrow _)
                  have hb6 : Below w.heap.size w w6 := (hb1.alloc hs1 _).grown hgrow (by first | (simp; done) | (simp; omega) | omega) (fun g hg => (hown1.lt g hg).1)
                  clear hgrow hown1 hb1
                  go_roundw
                  case rel => exact ⟨k + 1, v', by omega, by go_num, rfl, by rw [HST.out, List.map_append, HBQ.out, HOS.out]; exact hown', hb6⟩
                  case measure => simp [intOf]; omega
                · have hcm' : decide ((cn : Int) < (m : Int)) = false := decide_eq_false (by omega)
                  have HBQ := Lib.hid (show decide (inW (z - win) (xs.take k) (runG (stW win m) [] (xs.take k)).1 < m) = false by rw [HOS.out, HCC.out, ← HE.out, HCN.out]; simpa using hcm)
                  go_wp2_with (at_builtin; refine wpList_append_own _ rfl _ _ 42 rfl w.heap.size 4 i0 (.bool false) 1 1 Try.underlying42 hi hz0 hz1 hz2 rfl (by decide) _ _ _ rfl (hown1.alloc _) ⟨V.heap.size, 0, none⟩ 1 1 [.bool false] rfl rfl (cell_newB _ _ _ _ rfl) (by intro u hu; simp at hu; subst hu; rfl) (by unfold maxLen; omega) (by omega) (by first | (simp; done) | (simp; omega) | omega) ?_; intro v' w6 hown' hgrow _)
                  have hb6 : Below w.heap.size w w6 := (hb1.alloc hs1 _).grown hgrow (by first | (simp; done) | (simp; omega) | omega) (fun g hg => (hown1.lt g hg).1)
                  clear hgrow hown1 hb1
                  go_roundw
                  case rel => exact ⟨k + 1, v', by omega, by go_num, rfl, by rw [HST.out, List.map_append, HBQ.out, HOS.out]; exact hown', hb6⟩
                  case measure => simp [intOf]; omega
          · have hlt' : decide ((k : Int) < (n : Int)) = false := decide_eq_false (by omega)
            have hkn : k = n := by omega
            subst hkn
            rw [List.take_of_length_le (by have := HL.out; omega)] at hown
            have HO := Lib.hid hown
            clear hown
            go_wp2
            refine bodyPost_ret (v := .tuple #[.slice A8 k c8, .bool true]) (by simp [results, Try.results37, go_sem]) rfl ?_
            rw [E.out, HTN.out]
            exact ⟨_, _, _, (runG (stW win m) [] xs).1, rfl, rfl, HO.out, hb⟩
end Go.Proofs.Ytmdoddikaaaamaa
