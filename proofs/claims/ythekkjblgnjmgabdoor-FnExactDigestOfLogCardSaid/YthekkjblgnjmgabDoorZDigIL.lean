import Derived.Test.YthekkjblgnjmgabDoorChecked
import Derived.WalkKit
import Derived.ProofKit
import Derived.OpenShut
import Derived.ShutString
import Derived.ChangeOld
import Derived.Below
import Derived.Lib.Hide
import Derived.Test.YthekkjblgnjmgabDoorZDigT
import Derived.Test.YthekkjblgnjmgabDoorZDigestI
namespace Go.Proofs.YthekkjblgnjmgabDoor
open Go.ChangeShapes Go.WideShapes Go.ChangeAt Go.RowKit
open Go.ChangeMaps (open_string shut_string)
set_option linter.unusedVariables false
set_option maxRecDepth 100000
theorem impl_ValidLog_b (x : Int) (A : Option Addr) (n c : Nat) (rs : List Rm) (v : Bool) (w : World) (h : LogAt w w.heap.size A n rs) (hf : fitL (mgs rs)) (hv : logB x (mgs rs) = v) :
    Calls Tryd.prog 14 #[.agg #[.int .i64 x, .slice A n c]] w fun e w' => e = .returned (.bool v) ∧ Below w.heap.size w w' := by
  subst hv
  exact impl_ValidLog_any x A n c rs w h hf
theorem builder_lt {B b : Nat} {t : ByteArray} {w : World} (h : IsB B b t w) : b < w.heap.size := by
  rcases h with h | h
  · obtain ⟨_, v, hbk, _⟩ := h; exact BuilderAt_lt hbk
  · obtain ⟨_, v, hbk, _⟩ := h; exact BuilderAt_lt hbk
theorem impl_Dig_any (x : Int) (ms : List Mg) (t : ByteArray) (z0 : ByteArray) (z1 : Bool) (w : World) (hv : logB x ms = true) (ht : digT x ms = t) (hz : digS x ms = z0 ∧ digB x ms = z1) :
    Calls Tryd.prog 18 #[.string t] w fun e w' => e = .returned (.tuple #[.string z0, .bool z1]) ∧ Below w.heap.size w w' := by
  subst ht
  obtain ⟨rfl, rfl⟩ := hz
  by_cases hs : (digT x ms).size ≤ 4000
  · rw [(dig_yes hv hs).1, (dig_yes hv hs).2]
    exact impl_DigestOf_yes _ w hs
  · rw [(dig_long hs).1, (dig_long hs).2]
    exact (impl_DigestOf_no _ w (by omega)).mono fun e w' ⟨he, hw⟩ => ⟨he, by rw [← hw]; exact Below.refl _ _⟩
set_option maxHeartbeats 3200000 in
theorem impl_DigestOfLog_any (x : Int) (A : Option Addr) (n c : Nat) (rs : List Rm) (w : World) (h : LogAt w w.heap.size A n rs) (hf : fitL (mgs rs)) (hL : Pow10 w) :
    Calls Tryd.prog 7 #[.agg #[.int .i64 x, .slice A n c]] w fun e w' => e = .returned (.tuple #[.string (digS x (mgs rs)), .bool (digB x (mgs rs))]) ∧ Below w.heap.size w w' := by
  have HF := Lib.hid hf
  clear hf
  cases hv : logB x (mgs rs) with
  | false =>
    have HD := Lib.hid (dig_bad hv)
    go_enter Tryd.func7, Tryd.ntmps7
    go_wp2_with fail
    obtain ⟨k0, hb0⟩ := one_box w 30 #[.int .i64 x, .slice A n c]
    generalize w.alloc (.cells #[.int .i64 x, .slice A n c] 30) = W at *
    go_at_call 14; refine (impl_ValidLog_b _ _ _ _ _ _ _ (h.to hb0) HF.out hv).mono ?_; rintro e w1 ⟨rfl, hb1⟩
    have k0 := k0.below hb1 k0.lt
    have hb0 := hb0.trans (hb1.mono hb0.size)
    clear hb1
    go_wp2
    go_ret2
    exact ⟨by rw [HD.out.1, HD.out.2]; rfl, hb0⟩
  | true =>
    have hlen : (mgs rs).length = n := by rw [mgs_len, h.len]
    have HL := Lib.hid hlen
    have HT := Lib.hid (show digT x (mgs rs) = logTo x (mgs rs) n by rw [digT, hlen])
    have HSZ := Lib.hid (logTo_size hv)
    have HALL := Lib.hid (log_parts hv).2.2
    have HZ0 := Lib.hid (logTo_zero x (mgs rs))
    have HV := Lib.hid hv
    obtain ⟨hl40, hx, -⟩ := log_parts hv
    have hn : n ≤ 40 := by omega
    have d10 : (⟨#[10]⟩ : ByteArray).size = 1 := rfl
    have hx11 : (strOfNums (decL x)).size ≤ 11 := ds_size x (by omega) (by omega)
    have z0 : (strOfNums (decL x)).size + (⟨#[10]⟩ : ByteArray).size ≤ 9223372036854775807 := by omega
    have HX := Lib.hid (show (⟨#[]⟩ : ByteArray).size + (strOfNums (decL x) ++ ⟨#[10]⟩).size ≤ 1000000 by rw [ByteArray.size_append, d10, show (⟨#[]⟩ : ByteArray).size = 0 from rfl]; omega)
    have HE := Lib.hid (show (⟨#[]⟩ : ByteArray) ++ (strOfNums (decL x) ++ ⟨#[10]⟩) = logTo x (mgs rs) 0 by rw [HZ0.out]; simp [ds, ByteArray.empty_append, show (⟨#[]⟩ : ByteArray) = ByteArray.empty from rfl])
    clear hlen hl40 d10 hx11
    go_enter Tryd.func7, Tryd.ntmps7
    go_wp2_with fail
    obtain ⟨k0, hb0⟩ := one_box w 30 #[.int .i64 x, .slice A n c]
    generalize w.alloc (.cells #[.int .i64 x, .slice A n c] 30) = W at *
    go_at_call 14; refine (impl_ValidLog_b _ _ _ _ _ _ _ (h.to hb0) HF.out hv).mono ?_; rintro e w1 ⟨rfl, hb1⟩
    have k0 := k0.below hb1 k0.lt
    have hb0 := hb0.trans (hb1.mono hb0.size)
    clear hb1
    clear hv
    have m0 := k0.cell 0; have m1 := k0.cell 1; have mlt := k0.lt
    go_wp2_with fail
    have hB0 : IsB w1.heap.size w1.heap.size ⟨#[]⟩ (w1.alloc (.cells #[.pointer none, .slice none 0 0] 44)) := Lib.fresh_isBuilder _ _ _
    obtain ⟨kB, hb1⟩ := one_box w1 44 #[.pointer none, .slice none 0 0]
    generalize w1.alloc (.cells #[.pointer none, .slice none 0 0] 44) = W1 at *
    have hBl := kB.lt
    have hbs0 := hb0.size
    have k0 := k0.below hb1 k0.lt
    have hb0 := hb0.trans (hb1.mono hb0.size)
    have hG1 := mlt
    clear hb1 kB m0 m1 mlt
    go_at_call 16; refine (impl_Decimal_any _ (by omega) (by omega) _ (hL.to hb0)).mono ?_; rintro e w2 ⟨rfl, hb1⟩
    have k0 := k0.below hb1 k0.lt
    have hb0 := hb0.trans (hb1.mono hb0.size)
    have hB0 := builder_below hB0 hb1
    have hBl := Nat.lt_of_lt_of_le hBl hb1.size
    clear hb1
    go_wp2_with fail
    go_at_call 15; refine (write_any _ _ _ _ _ hB0 HX.out (Nat.le_of_lt hBl)).mono ?_; rintro e w3 ⟨rfl, hB1, hb1⟩
    have k0 := k0.below hb1 hG1
    have hb0 := hb0.trans (hb1.mono hbs0)
    rw [HE.out] at hB1
    clear hb1 hB0 hBl
    have m0 := k0.cell 0; have m1 := k0.cell 1; have mlt := k0.lt
    go_wp2_with fail
    clear m0 m1 mlt z0
    go_loopw [18] (fun i wr => ∃ k : Nat, k ≤ n ∧ i = .int .i64 k ∧ IsB w1.heap.size w1.heap.size (logTo x (mgs rs) k) wr ∧ Below w.heap.size w wr) (fun i _ => n - (intOf i).toNat)
    case atStart => exact ⟨0, by omega, rfl, hB1, hb0⟩
    case round =>
      obtain ⟨k, hk, rfl, hB, hbel⟩ := hrel
      clear hB1 hb0 k0
      have hBl := builder_lt hB
      have hbs := hbel.size
      by_cases hlt : k < n
      · have hlt' : decide ((k : Int) < (n : Int)) = true := decide_eq_true (by omega)
        obtain ⟨b, off, r, rfl, hb, hz, hr, c0, c1, c2, c3, c4, c5, c6, c7⟩ := (h.below hbel).atr hlt
        have HS := Lib.hid (logTo_succ (x := x) (mgs_at hz))
        have hm := HALL.out _ (List.mem_of_getElem? (mgs_at hz))
        have s1 := HSZ.out k (by have := HL.out; omega)
        have s2 := line_size hm
        have d10 : (⟨#[10]⟩ : ByteArray).size = 1 := rfl
        have HWS := Lib.hid (show (logTo x (mgs rs) k).size + (lineB r.m ++ ⟨#[10]⟩).size ≤ 1000000 by rw [ByteArray.size_append]; omega)
        have z1 : (lineB r.m).size + (⟨#[10]⟩ : ByteArray).size ≤ 9223372036854775807 := by omega
        have HR := Lib.hid (hr.more hbs)
        have HM := Lib.hid hm
        have hp : (0 : Int) ≤ (k : Int) := by omega
        have hp2 : (k : Int) < (n : Int) := by omega
        clear hz hr hm s1 s2 d10
        go_wp2_with fail
        obtain ⟨kM, hb1⟩ := one_box wr 52 #[.int .i64 r.m.num, .int .i64 r.m.sdr, .int .i64 r.m.tick, .string r.m.text, .int .i64 r.m.edits, .bool r.m.gone, .int .i64 r.m.reply, .slice r.la r.ln r.lc]
        generalize wr.alloc (.cells #[.int .i64 r.m.num, .int .i64 r.m.sdr, .int .i64 r.m.tick, .string r.m.text, .int .i64 r.m.edits, .bool r.m.gone, .int .i64 r.m.reply, .slice r.la r.ln r.lc] 52) = W2 at *
        have HR := Lib.hid (HR.out.to hb1)
        have hB := builder_below hB hb1
        have hbel := hbel.trans (hb1.mono hbs)
        clear hb1 kM c0 c1 c2 c3 c4 c5 c6 c7
        go_at_call 17; refine (lineOf_any r _ HR.out HM.out (hL.to hbel)).mono ?_; rintro e w4 ⟨rfl, hb1⟩
        have hB := builder_below hB hb1
        have hbel := hbel.trans (hb1.mono hbel.size)
        have hBl := builder_lt hB
        clear hb1 HR
        go_wp2_with fail
        go_at_call 15; refine (write_any _ _ _ _ _ hB HWS.out (Nat.le_of_lt hBl)).mono ?_; rintro e w5 ⟨rfl, hB5, hb1⟩
        have hbel := hbel.trans (hb1.mono hbs0)
        clear hb1
        go_wp2
        go_roundw
        case rel => exact ⟨k + 1, by omega, by go_num, by rw [HS.out]; exact hB5, hbel⟩
        case measure => simp [intOf]; omega
      · have hlt' : decide ((k : Int) < (n : Int)) = false := decide_eq_false (by omega)
        have hke : k = n := by omega
        subst hke
        go_wp2_with fail
        go_at_call 19; refine (string_any _ _ _ _ hB (Nat.le_of_lt hBl)).mono ?_; rintro e w6 ⟨rfl, hb1⟩
        have hbel := hbel.trans (hb1.mono hbs0)
        clear hb1
        go_wp2_with fail
        go_at_call 18; refine (impl_Dig_any x (mgs rs) _ _ _ _ HV.out HT.out ⟨rfl, rfl⟩).mono ?_; rintro e w7 ⟨rfl, hb1⟩
        have hbel := hbel.trans (hb1.mono hbel.size)
        clear hb1
        go_wp2
        go_ret2
        exact ⟨rfl, hbel⟩
end Go.Proofs.YthekkjblgnjmgabDoor
