import Derived.Test.YteeodjbionjlmaaChecked
import Derived.WalkKit
import Derived.ProofKit
import Derived.OpenShut
import Derived.ShutString
import Derived.ChangeOld
import Derived.Below
import Derived.Lib.Hide
import Derived.Laws.Cover1
import Derived.Laws.RangeAny
import Derived.Lib.OthersKept
import Derived.Test.YteeodjbionjlmaaZQryP
import Derived.Test.YteeodjbionjlmaaZChnS
import Derived.Test.YteeodjbionjlmaaZRnsC
import Derived.Test.YteeodjbionjlmaaZCalmQ
namespace Go.Proofs.Yteeodjbionjlmaa
open Go.ChangeShapes Go.WideShapes Go.ChangeAt Go.RowKit
open Go.ChangeMaps (open_string shut_string)
set_option linter.unusedVariables false
set_option maxRecDepth 100000
theorem runeW_not {s : ByteArray} {k : Nat} (hk : k < s.size) (h : wdC s[k] = false) : (((Utf8.decode s k).1 : Int) < 97 ∨ 122 < ((Utf8.decode s k).1 : Int)) ∧ (((Utf8.decode s k).1 : Int) < 48 ∨ 57 < ((Utf8.decode s k).1 : Int)) := by
  by_cases ha : s[k].toNat < 128
  · rw [decode_ascii s k hk ha]
    exact wdC_no h
  · have := (decode_high s k hk (by omega)).1
    omega
set_option maxHeartbeats 800000 in
theorem impl_isWord_any (s : ByteArray) (w : World) (hs : s.size ≤ maxLen) :
    Calls Try.prog 99 #[.string s] w fun e w' => e = .returned (.bool (qwB s)) ∧ Below w.heap.size w w' := by
  unfold maxLen at hs
  by_cases h1 : 1 ≤ s.size
  · by_cases h2 : s.size ≤ 80
    · go_enter Try.func99, Try.ntmps99
      go_wp2
      go_loopw [] (fun w' => ∃ k : Nat, k ≤ s.size ∧ w' = w.iter s k ∧ AllTo wdC s k) (fun w' => s.size - w'.iterPos w.heap.size)
      case atStart => exact ⟨0, Nat.zero_le _, rfl, AllTo.zero _ _⟩
      case round =>
        obtain ⟨k, hk, rfl, hall⟩ := hrel
        by_cases hlt : k < s.size
        · have hnx : ∀ ty, (Instr.next (.pointer (some ⟨w.heap.size, 0, none⟩)) true ty).run Try.prog (w.iter s k) = _ := fun ty => run_next_any w s k ty hlt
          by_cases hc : wdC s[k] = true
          · have hw := wdC_yes hc
            have HS := Lib.hid (hall.succ hlt hc)
            have hd : Utf8.decode s k = (s[k].toNat, 1) := decode_ascii s k hlt (by omega)
            rw [hd] at hnx
            clear hc hd
            by_cases ha : 97 ≤ (s[k].toNat : Int) ∧ (s[k].toNat : Int) ≤ 122
            · obtain ⟨c1, c2⟩ := ha
              clear hw
              go_wp2_with (go_at_call 119; refine (isSmall_yes _ _ c1 c2).mono ?_; rintro e w' ⟨rfl, rfl⟩)
              go_roundw
              case rel => exact ⟨k + 1, by omega, rfl, HS.out⟩
              case measure => simp; omega
            · have c1 : 48 ≤ (s[k].toNat : Int) := by omega
              have c2 : (s[k].toNat : Int) ≤ 57 := by omega
              clear hw ha
              go_wp2_with (first | (go_at_call 119; refine (isSmall_no _ _ (by omega)).mono ?_; rintro e w' ⟨rfl, rfl⟩) | (go_at_call 120; refine (isDigit_yes _ _ c1 c2).mono ?_; rintro e w' ⟨rfl, rfl⟩))
              go_roundw
              case rel => exact ⟨k + 1, by omega, rfl, HS.out⟩
              case measure => simp; omega
          · have hc' : wdC s[k] = false := by simpa using hc
            obtain ⟨hr, hr2⟩ := runeW_not hlt hc'
            have HB := Lib.hid (qwB_bad hlt hc')
            clear hc hc'
            go_wp2_with (first | (go_at_call 119; refine (isSmall_no _ _ hr).mono ?_; rintro e w' ⟨rfl, rfl⟩) | (go_at_call 120; refine (isDigit_no _ _ hr2).mono ?_; rintro e w' ⟨rfl, rfl⟩))
            go_ret
            exact ⟨ret_bool HB.out.symm, (Below.refl _ _).alloc (Nat.le_refl _) _⟩
        · have hnx : ∀ ty, (Instr.next (.pointer (some ⟨w.heap.size, 0, none⟩)) true ty).run Try.prog (w.iter s k) = _ := fun ty => run_next_end w s k ty hlt
          have HE := Lib.hid (qwB_in hall (by omega) ⟨h1, h2⟩)
          go_wp2
          go_ret
          exact ⟨ret_bool HE.out.symm, (Below.refl _ _).alloc (Nat.le_refl _) _⟩
    · have HB := Lib.hid (qwB_out (s := s) (by omega))
      go_enter Try.func99, Try.ntmps99
      go_wp2
      go_ret
      exact ⟨ret_bool HB.out.symm, Below.refl _ _⟩
  · have HB := Lib.hid (qwB_out (s := s) (by omega))
    go_enter Try.func99, Try.ntmps99
    go_wp2
    go_ret
    exact ⟨ret_bool HB.out.symm, Below.refl _ _⟩
theorem impl_isWord_b (s : ByteArray) (r : Bool) (w : World) (hs : s.size ≤ maxLen) (h : qwB s = r) : Calls Try.prog 99 #[.string s] w fun e w' => e = .returned (.bool r) ∧ Below w.heap.size w w' := by
  subst h; exact impl_isWord_any s w hs
theorem followQ_b (y z : ByteArray) (r : Bool) (w : World) (h : anF y z = r) : Calls Try.prog 131 #[.string y, .string z] w fun e w' => e = .returned (.bool r) ∧ Below w.heap.size w w' := by
  subst h
  go_enter Try.func131, Try.ntmps131
  go_wp2
  go_ret
  exact ⟨rfl, by repeat (first | exact Below.refl _ _ | refine Below.setCell ?_ (by simp) _ | refine Below.alloc ?_ (by first | (simp; omega) | simp) _)⟩
set_option maxHeartbeats 6400000 in
theorem isRowQ_any (A : Option Addr) (n c m : Nat) (xs : List ByteArray) (w : World) (h : Row strv w w.heap.size A n xs) (hn : n ≤ 1048576) (hm : m ≤ 1000) (hsz : ∀ s ∈ xs, s.size ≤ maxLen) :
    Calls Try.prog 122 #[.slice A n c, .int .i64 m, .func (.func 99) #[] #[], .func (.func 131) #[] #[]] w fun e w' => e = .returned (.bool (rowG m qwB anF xs)) ∧ Below w.heap.size w w' := by
  have HL := Lib.hid h.1
  by_cases hl : m < n
  · have HF := Lib.hid (rowG_long (m := m) (ok := qwB) (fol := anF) (xs := xs) (by rw [HL.out]; exact hl))
    have x1 : decide ((m : Int) < (n : Int)) = true := decide_eq_true (by omega)
    go_enter Try.func122, Try.ntmps122
    go_wp2
    go_ret
    exact ⟨ret_bool HF.out.symm, Below.refl _ _⟩
  have x1 : decide ((m : Int) < (n : Int)) = false := decide_eq_false (by omega)
  have HM := Lib.hid (show n ≤ m by omega)
  go_enter Try.func122, Try.ntmps122
  go_wp2
  clear hl x1
  go_loopw [17] (fun i wr => ∃ k : Nat, k ≤ n ∧ i = .int .i64 k ∧ Hid (chG qwB anF none (xs.take k) = true) ∧ Below w.heap.size w wr) (fun i _ => n - (intOf i).toNat)
  case atStart => exact ⟨0, by omega, rfl, Lib.hid rfl, Below.refl _ _⟩
  case round =>
    obtain ⟨k, hk, rfl, HCH, hbel⟩ := hrel
    have hbs := hbel.size
    by_cases hlt : k < n
    · obtain ⟨b, off, z, rfl, hb, hz, c0⟩ := h.at_ hlt
      have HZ := Lib.hid hz; clear hz
      have hlt' : decide ((k : Int) < (n : Int)) = true := decide_eq_true (by omega)
      have hs := hsz z (List.mem_of_getElem? HZ.out)
      have d0 := (hbel.cell (p := ⟨b, off + k, none⟩) hb).trans c0
      clear c0
      have HH := Lib.hid h; clear h
      cases t0 : qwB z with
      | false =>
        have HF := Lib.hid (rowG_chain (m := m) (chG_no (fol := anF) HZ.out (lnkG_no t0)))
        go_wp2_with fail
        go_at_call 99; refine (impl_isWord_b _ _ _ hs t0).mono ?_; rintro e w2 ⟨rfl, hb2⟩
        have hb2 := hbel.trans (hb2.mono hbs)
        clear hbel
        go_wp2
        go_ret
        exact ⟨ret_bool HF.out.symm, hb2⟩
      | true =>
        go_wp2_with fail
        go_at_call 99; refine (impl_isWord_b _ _ _ hs t0).mono ?_; rintro e w2 ⟨rfl, hb2⟩
        have hb2 := hbel.trans (hb2.mono hbs)
        clear hbel
        have hbs2 := hb2.size
        clear d0
        by_cases hk0 : 0 < k
        · obtain ⟨j, rfl⟩ : ∃ j, k = j + 1 := ⟨k - 1, by omega⟩
          obtain ⟨b2, off2, y, e2, hb3, hy, c0⟩ := HH.out.at_ (k := j) (by omega)
          simp only [Option.some.injEq, Addr.mk.injEq, and_true] at e2
          obtain ⟨rfl, rfl⟩ := e2
          have d0 := (hb2.cell (p := ⟨b, off + j, none⟩) hb3).trans c0
          have HY := Lib.hid (lastG_step hy); clear hy c0
          have hd1 : decide ((0 : Int) < ((j + 1 : Nat) : Int)) = true := decide_eq_true (by omega)
          have hj0 : (0 : Int) ≤ (j : Int) := by omega
          have hj1 : (j : Int) < (n : Int) := by omega
          have hj2 : IntKind.i64.wrap (j : Int) = (j : Int) := IntWalk.i64_in _ (by omega)
          cases t1 : anF y z with
          | false =>
            have HF := Lib.hid (rowG_chain (m := m) (chG_no (fol := anF) HZ.out (by rw [HY.out, lnkG_some t0]; exact t1)))
            go_wp2_with fail
            go_at_call 131; refine (followQ_b _ _ _ _ t1).mono ?_; rintro e w3 ⟨rfl, hb4⟩
            have hb4 := hb2.trans (hb4.mono hbs2)
            clear hb2
            go_wp2
            go_ret
            exact ⟨ret_bool HF.out.symm, hb4⟩
          | true =>
            have HST := Lib.hid (show chG qwB anF none (xs.take (j + 1 + 1)) = true by rw [chG_step HZ.out, HCH.out, HY.out, lnkG_some t0, t1]; rfl)
            go_wp2_with fail
            go_at_call 131; refine (followQ_b _ _ _ _ t1).mono ?_; rintro e w3 ⟨rfl, hb4⟩
            have hb4 := hb2.trans (hb4.mono hbs2)
            clear hb2
            go_wp2
            go_roundw
            case rel => exact ⟨j + 1 + 1, by omega, by go_num, HST, hb4⟩
            case measure => simp [intOf]; omega
        · have hd0 : decide ((0 : Int) < (k : Int)) = false := decide_eq_false (by omega)
          have HST := Lib.hid (show chG qwB anF none (xs.take (k + 1)) = true by rw [chG_step HZ.out, HCH.out, show k = 0 by omega, Bool.true_and]; exact lnkG_none t0)
          have hd0' : decide (0 < k) = false := decide_eq_false (by omega)
          clear hk0
          go_wp2
          go_roundw
          case rel => exact ⟨k + 1, by omega, by go_num, HST, hb2⟩
          case measure => simp [intOf]; omega
    · have hlt' : decide ((k : Int) < (n : Int)) = false := decide_eq_false (by omega)
      have HE := Lib.hid (show rowG m qwB anF xs = true from rowG_yes (by have := HL.out; have := HM.out; omega) (chG_full HCH.out (by have := HL.out; omega)))
      go_wp2
      go_ret
      exact ⟨ret_bool HE.out.symm, hbel⟩
theorem impl_isQuery_any (A : Option Addr) (n c : Nat) (xs : List ByteArray) (w : World) (h : Row strv w w.heap.size A n xs) (hn : n ≤ 1048576) (hsz : ∀ s ∈ xs, s.size ≤ maxLen) :
    Calls Try.prog 76 #[.slice A n c] w fun e w' => e = .returned (.bool (queryB xs)) ∧ Below w.heap.size w w' := by
  have HL := Lib.hid h.1
  by_cases h1 : 1 ≤ n
  · have HQ := Lib.hid (show rowG 8 qwB anF xs = queryB xs by unfold queryB; rw [HL.out, decide_eq_true h1, Bool.true_and])
    have hd : decide ((1 : Int) ≤ (n : Int)) = true := decide_eq_true (by omega)
    go_enter Try.func76, Try.ntmps76
    go_wp2_with (go_at_call 122; refine (isRowQ_any A n c 8 xs _ h hn (by omega) hsz).mono ?_; rw [HQ.out]; rintro e w' ⟨rfl, hb⟩)
    go_ret
    exact ⟨rfl, hb⟩
  · have HQ := Lib.hid (show false = queryB xs by unfold queryB; rw [HL.out, decide_eq_false h1, Bool.false_and])
    have hd : decide ((1 : Int) ≤ (n : Int)) = false := decide_eq_false (by omega)
    go_enter Try.func76, Try.ntmps76
    go_wp2
    go_ret
    exact ⟨ret_bool HQ.out, Below.refl _ _⟩
theorem impl_Query_r (A : Option Addr) (n c : Nat) (xs : List ByteArray) (r : Bool) (w : World) (h : Row strv w w.heap.size A n xs) (hn : n ≤ 1048576) (hsz : ∀ s ∈ xs, s.size ≤ maxLen) (hr : queryB xs = r) :
    Calls Try.prog 76 #[.slice A n c] w fun e w' => e = .returned (.bool r) ∧ Below w.heap.size w w' := by
  subst hr; exact impl_isQuery_any A n c xs w h hn hsz
end Go.Proofs.Yteeodjbionjlmaa
