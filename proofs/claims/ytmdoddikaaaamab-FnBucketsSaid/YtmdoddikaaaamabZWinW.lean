import Derived.Test.YtmdoddikaaaamabChecked
import Derived.WalkKit
import Derived.ProofKit
import Derived.OpenShut
import Derived.ShutString
import Derived.ChangeOld
import Derived.Below
import Derived.Lib.Hide
import Derived.Deep.QuietTactic
import Derived.BigQuiet
import Derived.Test.YtmdoddikaaaamabZWinJ
import Derived.Test.YtmdoddikaaaamabJxb
namespace Go.Proofs.Ytmdoddikaaaamab
open Go.ChangeShapes Go.WideShapes Go.ChangeAt Go.RowKit
open Go.ChangeMaps (open_string shut_string)
set_option linter.unusedVariables false
set_option maxRecDepth 100000
theorem inW_mono (c c' : Int) (h : c ≤ c') : ∀ (xs : List Int) (bs : List Bool), inW c' xs bs ≤ inW c xs bs := by
  intro xs
  induction xs with
  | nil => intro bs; cases bs <;> simp [inW]
  | cons x r ih =>
    intro bs
    cases bs with
    | nil => simp [inW]
    | cons b q =>
      have := ih q
      simp only [inW]
      cases b
      · simpa using this
      · by_cases h1 : c' < x
        · have h2 : c < x := by omega
          simp [h1, h2]; omega
        · by_cases h2 : c < x <;> simp [h1, h2] <;> omega
theorem runG_take {σ : Type} (st : σ → Int → Bool × σ) (s : σ) (xs : List Int) (k : Nat) (hk : k ≤ xs.length) : (runG st s xs).1.take k = (runG st s (xs.take k)).1 := by
  conv => lhs; rw [← List.take_append_drop k xs, runG_append]
  simp only []
  rw [List.take_left' (by rw [runG_len, List.length_take]; omega)]
/-- no more than told are in the window -/
theorem inW_most (win : Int) (m : Nat) (hm : 0 < m) (xs : List Int) (hs : xs.Pairwise (· ≤ ·)) : ∀ k, k ≤ xs.length → ∀ c, (∀ j z, j < k → xs[j]? = some z → z - win ≤ c) → inW c (xs.take k) (runG (stW win m) [] (xs.take k)).1 ≤ m := by
  intro k
  induction k with
  | zero => intro _ c _; simp [inW]
  | succ k ih =>
    intro hk c hc
    have hz : xs[k]? = some (xs[k]'(by omega)) := List.getElem?_eq_getElem _
    have hst := runW_step win m hm hz hs
    have hlen : (runG (stW win m) [] (xs.take k)).1.length = k := by rw [runG_len, List.length_take]; omega
    have hb : ((runG (stW win m) [] (xs.take (k + 1))).1)[k]? = some (decide (inW (xs[k]'(by omega) - win) (xs.take k) (runG (stW win m) [] (xs.take k)).1 < m)) := by
      rw [hst, List.getElem?_append_right (by omega), hlen]
      simp
    have hin := inW_step c xs (runG (stW win m) [] (xs.take (k + 1))).1 k _ _ hz hb
    have e1 : (runG (stW win m) [] (xs.take (k + 1))).1.take (k + 1) = (runG (stW win m) [] (xs.take (k + 1))).1 := List.take_of_length_le (by rw [runG_len, List.length_take]; omega)
    have e2 : (runG (stW win m) [] (xs.take (k + 1))).1.take k = (runG (stW win m) [] (xs.take k)).1 := by rw [hst, List.take_left' hlen]
    rw [e1, e2] at hin
    rw [hin]
    have h1 := ih (by omega) c (fun j z hj hz => hc j z (by omega) hz)
    have h2 := inW_mono (xs[k]'(by omega) - win) c (hc k _ (by omega) hz) (xs.take k) (runG (stW win m) [] (xs.take k)).1
    by_cases hlt : inW (xs[k]'(by omega) - win) (xs.take k) (runG (stW win m) [] (xs.take k)).1 < m
    · split <;> omega
    · rw [decide_eq_false hlt]
      simpa using h1
theorem sorted_le {xs : List Int} (hs : xs.Pairwise (· ≤ ·)) {j i : Nat} {x z : Int} (hj : xs[j]? = some x) (hi : xs[i]? = some z) (h : j < i) : x ≤ z := by
  rw [List.pairwise_iff_getElem] at hs
  have h1 := (List.getElem?_eq_some_iff.1 hj).1
  have h2 := (List.getElem?_eq_some_iff.1 hi).1
  have := hs j i h1 h2 h
  rw [List.getElem?_eq_getElem h1] at hj
  rw [List.getElem?_eq_getElem h2] at hi
  injection hj with hj; injection hi with hi
  rw [hj, hi] at this
  exact this
theorem ticks_of {xs : List Int} (h : TicksDrawn 0 xs) : ticksB xs = true ∧ xs.Pairwise (· ≤ ·) ∧ ∀ x ∈ xs, tickB x = true := by
  have h1 := tmG_none xs 0 (Int.le_refl _)
  rw [h.up] at h1
  obtain ⟨_, h3⟩ := and_both h1.symm
  exact ⟨by unfold ticksB rowG; rw [h3, decide_eq_true (by have := h.len; omega)]; rfl, chG_sorted _ _ h3, chG_ticks _ _ h3⟩
theorem decide_swap (a b : Nat) (q : Bool) (h : decide (a < b) = q) : decide ((a : Int) < (b : Int)) = q := by rw [← h]; simp
set_option maxHeartbeats 12800000 in
theorem windows_all {w : World} (A : Option Addr) (n c : Nat) (A' : Option Addr) (n' c' : Nat) (ys ys' : List Nat) (h : Row u8v w w.heap.size A n ys) (hz : ∀ z ∈ ys, z < 256) (h' : Row u8v w w.heap.size A' n' ys') (hz' : ∀ z ∈ ys', z < 256) :
    Calls Try.prog 12 #[.slice A n c, .slice A' n' c'] w fun e w' => e = .returned (.bool true) ∧ Below w.heap.size w w' := by
  by_cases hl : n ≤ 48 ∧ n' ≤ 48
  rotate_left
  · go_enter Try.func12, Try.ntmps12
    go_wp2_with fail
    go_at_call 45; refine (r8Long_yes _ _ _ _ _ _ _ hl).mono ?_; rintro e w1 ⟨rfl, rfl⟩
    go_wp2
    go_ret
    exact ⟨rfl, Below.refl _ _⟩
  obtain ⟨hl1, hl2⟩ := hl
  go_enter Try.func12, Try.ntmps12
  go_wp2_with fail
  go_at_call 45; refine (r8Long_no _ _ _ _ _ _ _ hl1 hl2).mono ?_; rintro e w1 ⟨rfl, rfl⟩
  go_wp2_with fail
  go_at_call 52; refine (R8Times_any A n c ys _ 0 _ h (Nat.le_refl _) hz (by decide)).mono ?_; rintro e W1 ⟨A5, c5, xs, rfl, hox, hD, hb⟩
  have h' := h'.to hb
  clear h hz
  have b0 := r8v_bd ys' 0 20 (by decide); have b1 := r8v_bd ys' 1 4 (by decide)
  obtain ⟨x0, hx0⟩ : ∃ x, r8v ys' 0 20 = x := ⟨_, rfl⟩
  obtain ⟨x1, hx1⟩ : ∃ x, r8v ys' 1 4 = x := ⟨_, rfl⟩
  rw [hx0] at b0; rw [hx1] at b1
  obtain ⟨m, hm⟩ : ∃ m : Nat, 1 + x1 = (m : Int) := ⟨(1 + x1).toNat, by omega⟩
  obtain ⟨win, hwin⟩ : ∃ z, 1 + x0 = z := ⟨_, rfl⟩
  have f1 : IntKind.i64.wrap (1 + x0) = win := by rw [← hwin]; exact IntWalk.i64_in _ (by omega)
  have f2 : IntKind.i64.wrap (1 + x1) = (m : Int) := by rw [← hm]; exact IntWalk.i64_in _ (by omega)
  have HM := Lib.hid (show 1 ≤ m ∧ m ≤ 4 by omega)
  have HWI := Lib.hid (show 1 ≤ win ∧ win ≤ 20 by omega)
  have HX0 := Lib.hid hx0; have HX1 := Lib.hid hx1
  clear hm hwin b0 b1 hx0 hx1
  go_wp2_with fail
  go_at_call 47; refine (r8At_w A' n' c' _ ys' 0 20 x0 _ h' hz' (by decide) (by decide) hl2 HX0.out).mono ?_; rintro e w4 ⟨rfl, rfl⟩
  go_wp2_with fail
  go_at_call 47; refine (r8At_w A' n' c' _ ys' 1 4 x1 _ h' hz' (by decide) (by decide) hl2 HX1.out).mono ?_; rintro e w4 ⟨rfl, rfl⟩
  have HT := Lib.hid (ticks_of hD)
  have HLN := Lib.hid hD.len
  have HTN := Lib.hid (show (m : Int).toNat = m by omega)
  have HOK := Lib.hid (show okWin xs win (m : Int) = true by unfold okWin winB spanB; rw [(ticks_of hD).1]; simp; have h1 := HM.out; have h2 := HWI.out; omega)
  have hbs := hb.size
  clear h' hz' hD
  have hr := Row.of_own_any hox
  have hxn : xs.length ≤ 1048576 := by have := HLN.out; omega
  go_wp2_with fail
  go_at_call 55; refine (impl_RunWindow_any _ _ _ xs win (m : Int) _ hr hxn).mono ?_; rw [HOK.out, HTN.out]; rintro e W2 ⟨A8, n8, c8, os, rfl, hos, how, hb2⟩
  rw [if_pos rfl] at hos
  obtain rfl : n8 = os.length := by simpa using how.1.symm
  have HOL := Lib.hid (show os.length = xs.length by rw [hos, runG_len])
  have HOS := Lib.hid hos
  have hr := hr.below hb2
  have hb := hb.trans (hb2.mono hb.size)
  have HR := Lib.hid hr
  have HO := Lib.hid (Row.of_own_any how)
  have HB := Lib.hid hb
  obtain ⟨n5, hn5⟩ : ∃ z, xs.length = z := ⟨_, rfl⟩
  obtain ⟨n8, hn8⟩ : ∃ z, os.length = z := ⟨_, rfl⟩
  have e58 : n8 = n5 := by rw [← hn5, ← hn8]; exact HOL.out
  subst e58
  rw [hn8] at HO
  rw [hn5] at HR
  have HN5 := Lib.hid hn5
  have HN8 := Lib.hid hn8
  rw [hn5] at hxn
  simp only [hn5, hn8]
  clear how hox hr hb hb2 hos hbs hn5 hn8
  go_wp2
  go_loopw [10] (fun i wr => ∃ k q : Nat, k ≤ n8 ∧ i = .int .i64 k ∧ wr = W2.drewN q) (fun i _ => n8 - (intOf i).toNat)
  case atStart => exact ⟨0, 0, by omega, rfl, rfl⟩
  case round =>
    obtain ⟨k, q, hk, rfl, rfl⟩ := hrel
    by_cases hlt : k < n8
    · have hlt' : decide ((k : Int) < (n8 : Int)) = true := decide_eq_true (by omega)
      obtain ⟨b, off, z, e5, hxb, hz, c0⟩ := HR.out.at_ hlt
      obtain ⟨bo, oo, bz, e8, hob, hbz, d0⟩ := HO.out.at_ hlt
      subst e5; subst e8
      have HTZ := Lib.hid (HT.out.2.2 z (List.mem_of_getElem? hz))
      have w1 : wrap64 (z - win) = z - win := IntWalk.wrap64_in _ (by have h1 := HTZ.out; have := HWI.out; simp [tickB] at h1; omega)
      have w0 : IntKind.i64.wrap (z - win) = z - win := IntWalk.i64_in _ (by have h1 := HTZ.out; have := HWI.out; simp [tickB] at h1; omega)
      have HST := Lib.hid (runW_step win m (by have := HM.out; omega) hz HT.out.2.1)
      have HMO := Lib.hid (inW_most win m (by have := HM.out; omega) xs HT.out.2.1 k (by have := HN5.out; omega) (z - win) (fun j x hj hx => by have := sorted_le HT.out.2.1 hx hz hj; omega))
      have HTA := Lib.hid (runG_take (stW win m) [] xs k (by have := HN5.out; omega))
      have HBZ := Lib.hid (show bz = decide (inW (z - win) (xs.take k) (os.take k) < m) by
        have h1 := runG_take (stW win m) [] xs (k + 1) (by have := HN5.out; omega)
        have h2 : (os.take (k + 1))[k]? = some bz := by rw [List.getElem?_take_of_lt (by omega)]; exact hbz
        rw [HOS.out, h1, HST.out, List.getElem?_append_right (by rw [runG_len, List.length_take]; have := HN5.out; omega)] at h2
        rw [HOS.out, HTA.out]
        have h3 : k - (runG (stW win m) [] (xs.take k)).1.length = 0 := by rw [runG_len, List.length_take]; have := HN5.out; omega
        rw [h3] at h2
        simpa using h2.symm)
      have HMO2 := Lib.hid (show inW (z - win) (xs.take k) (os.take k) ≤ m by rw [HOS.out, HTA.out]; exact HMO.out)
      obtain ⟨cc, hcc⟩ : ∃ x, z - win = x := ⟨_, rfl⟩
      rw [hcc] at w0 w1 HBZ HMO2
      have w0 : IntKind.i64.wrap (z - win) = cc := by rw [hcc]; exact w0
      have w1 : wrap64 (z - win) = cc := by rw [hcc]; exact w1
      have hi0 : (0 : Int) ≤ (k : Int) := by omega
      have hi1 : (k : Int) < (n8 : Int) := by omega
      clear hz hbz hcc HST HMO HTA
      go_wp2
      go_loopw [11, 12] (fun qv j wi => ∃ l q' : Nat, l ≤ k ∧ j = .int .i64 l ∧ qv = .int .i64 ((inW cc (xs.take l) (os.take l) : Nat) : Int) ∧ wi = W2.drewN q') (fun _ j _ => k - (intOf j).toNat)
      case atStart => exact ⟨0, q, by omega, rfl, by simp [inW], rfl⟩
      case round =>
        obtain ⟨l, q', hl, rfl, rfl, rfl⟩ := hrel
        by_cases hlk : l < k
        · have hlk' : decide ((l : Int) < (k : Int)) = true := decide_eq_true (by omega)
          obtain ⟨bo2, oo2, bl, e3, _, hbl, d1⟩ := HO.out.at_ (k := l) (by omega)
          obtain ⟨b2, off2, xl, e2, hxb2, hxl, c1⟩ := HR.out.at_ (k := l) (by omega)
          simp only [Option.some.injEq, Addr.mk.injEq, and_true] at e2 e3
          obtain ⟨rfl, rfl⟩ := e2
          obtain ⟨rfl, rfl⟩ := e3
          have HIN := Lib.hid (inW_step cc xs os l xl bl hxl hbl)
          have HIL := Lib.hid (inW_le cc (xs.take l) (os.take l))
          obtain ⟨cn, hcn⟩ : ∃ x, inW cc (xs.take l) (os.take l) = x := ⟨_, rfl⟩
          rw [hcn] at HIN HIL
          simp only [hcn]
          have hcb : cn ≤ 1048576 := by have := HIL.out; simp at this; omega
          have hj0 : (0 : Int) ≤ (l : Int) := by omega
          have hj1 : (l : Int) < (k : Int) := by omega
          have hj2 : (l : Int) < (n8 : Int) := by omega
          have d2 : W2.cell? ⟨bo, oo + l, none⟩ = some (.bool bl) := d1
          have c2 : W2.cell? ⟨b, off + l, none⟩ = some (.int .i64 xl) := c1
          have c3 : W2.cell? ⟨b, off + k, none⟩ = some (.int .i64 z) := c0
          clear hxl hbl hcn d0 c1 c0 d1
          cases bl with
          | false =>
            have HN1 := Lib.hid (show inW cc (xs.take (l + 1)) (os.take (l + 1)) = cn + 0 by rw [HIN.out]; rfl)
            go_wp2
            go_quiet (fail)
            go_wp2
            all_goals first | (go_roundw; case rel => exact ⟨l + 1, _, by omega, by go_num, by rw [HN1.out]; go_num, rfl⟩; case measure => simp [intOf]; omega) | exact ⟨⟨l + 1, _, by omega, by go_num, by rw [HN1.out]; go_num, rfl⟩, by simp [intOf]; omega⟩
          | true =>
            by_cases hin : cc < xl
            · have hin' : decide (cc < xl) = true := decide_eq_true hin
              have HN1 := Lib.hid (show inW cc (xs.take (l + 1)) (os.take (l + 1)) = cn + 1 by rw [HIN.out, hin']; rfl)
              go_wp2
              go_quiet (fail)
              go_wp2
              all_goals first | (go_roundw; case rel => exact ⟨l + 1, _, by omega, by go_num, by rw [HN1.out]; go_num, rfl⟩; case measure => simp [intOf]; omega) | exact ⟨⟨l + 1, _, by omega, by go_num, by rw [HN1.out]; go_num, rfl⟩, by simp [intOf]; omega⟩
            · have hin' : decide (cc < xl) = false := decide_eq_false hin
              have HN1 := Lib.hid (show inW cc (xs.take (l + 1)) (os.take (l + 1)) = cn + 0 by rw [HIN.out, hin']; rfl)
              go_wp2
              go_quiet (fail)
              go_wp2
              all_goals first | (go_roundw; case rel => exact ⟨l + 1, _, by omega, by go_num, by rw [HN1.out]; go_num, rfl⟩; case measure => simp [intOf]; omega) | exact ⟨⟨l + 1, _, by omega, by go_num, by rw [HN1.out]; go_num, rfl⟩, by simp [intOf]; omega⟩
        · have hlk' : decide ((l : Int) < (k : Int)) = false := decide_eq_false (by omega)
          have hll : l = k := by omega
          subst hll
          obtain ⟨cn, hcn⟩ : ∃ x, inW cc (xs.take l) (os.take l) = x := ⟨_, rfl⟩
          rw [hcn] at HBZ HMO2
          simp only [hcn]
          have d2 : W2.cell? ⟨bo, oo + l, none⟩ = some (.bool bz) := d0
          have hno : decide ((m : Int) < (cn : Int)) = false := decide_eq_false (by have := HMO2.out; omega)
          have hle : cn ≤ m := HMO2.out
          clear hcn d0 c0
          by_cases hcm : cn < m
          · have hcm' : decide ((cn : Int) < (m : Int)) = true := decide_eq_true (by omega)
            obtain rfl : bz = true := by rw [HBZ.out]; exact decide_eq_true hcm
            go_wp2
            all_goals first | (exfalso; omega) | exact ⟨⟨l + 1, q', by omega, by go_num, rfl⟩, by simp [intOf]; omega⟩ | (go_roundw; case rel => exact ⟨l + 1, q', by omega, by go_num, rfl⟩; case measure => simp [intOf]; omega)
          · have hcm' : decide ((cn : Int) < (m : Int)) = false := decide_eq_false (by omega)
            obtain rfl : bz = false := by rw [HBZ.out]; exact decide_eq_false hcm
            go_wp2
            all_goals first | (exfalso; omega) | exact ⟨⟨l + 1, q', by omega, by go_num, rfl⟩, by simp [intOf]; omega⟩ | (go_roundw; case rel => exact ⟨l + 1, q', by omega, by go_num, rfl⟩; case measure => simp [intOf]; omega)
    · have hlt' : decide ((k : Int) < (n8 : Int)) = false := decide_eq_false (by omega)
      go_wp2
      go_ret
      exact ⟨rfl, HB.out.trans ((drew_below ⟨q, rfl⟩).mono HB.out.size)⟩
end Go.Proofs.Ytmdoddikaaaamab
