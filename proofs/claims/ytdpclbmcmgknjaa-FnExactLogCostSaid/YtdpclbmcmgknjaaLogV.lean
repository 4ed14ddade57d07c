import Derived.Test.YtdpclbmcmgknjaaChecked
import Derived.WalkKit
import Derived.ProofKit
import Derived.OpenShut
import Derived.ShutString
import Derived.ChangeOld
import Derived.Below
import Derived.Lib.Hide
import Derived.Deep.QuietTactic
import Derived.BigQuiet
import Derived.Deep.MidRow
import Derived.Test.YtdpclbmcmgknjaaMsgV
namespace Go.Proofs.Ytdpclbmcmgknjaa
open Go.ChangeShapes Go.WideShapes Go.ChangeAt Go.RowKit
open Go.ChangeMaps (open_string shut_string)
set_option linter.unusedVariables false
set_option maxRecDepth 100000
theorem LogAt.range {w : World} {B n k : Nat} {A : Option Addr} {rs : List Rm} (h : LogAt w B A n rs) (hk : k < n) : ∃ b off r, A = some ⟨b, off, none⟩ ∧ b < B ∧ rs[k]? = some r ∧ Row i64v w B r.la r.ln r.m.likes ∧ w.rangeAt b (off + k * 8) (rmC r) := by
  obtain ⟨b, off, z, e, hb, hz, hc⟩ := h.1.at_ hk
  exact ⟨b, off, z, e, hb, hz, h.2 z (List.mem_of_getElem? hz), hc⟩
theorem range_drewN {w : World} {b o q : Nat} {vs : List Value} (h : w.rangeAt b o vs) : (w.drewN q).rangeAt b o vs := h
/-- the model's round over a log so far -/
def OkTo (next : Int) (ms : List Mg) (k : Nat) : Prop := chainB none (ms.take k) = true ∧ lowB next (ms.take k) = true
theorem OkTo.zero (next : Int) (ms : List Mg) : OkTo next ms 0 := by simp [OkTo, chainB, lowB]
theorem OkTo.succ {next : Int} {ms : List Mg} {k : Nat} {m : Mg} (h : OkTo next ms k) (hz : ms[k]? = some m) (hl : linkB (lastO none (ms.take k)) m = true) (hn : m.num < next) : OkTo next ms (k + 1) :=
  ⟨by rw [chain_step hz, h.1, hl]; rfl, low_step hz h.2 hn⟩
theorem OkTo.full {next : Int} {ms : List Mg} {k : Nat} (h : OkTo next ms k) (hk : ms.length ≤ k) : chainB none ms = true ∧ lowB next ms = true := by
  unfold OkTo at h; rwa [List.take_of_length_le hk] at h
theorem last_zero (ms : List Mg) : lastO none (ms.take 0) = none := rfl
theorem link_none {m : Mg} : linkB none m = msgB m := by simp [linkB]
theorem link_some {p m : Mg} : linkB (some p) m = (msgB m && (decide (p.num < m.num) && decide (p.tick ≤ m.tick))) := rfl
def DrewEx (w w' : World) : Prop := ∃ q, w' = w.drewN q
theorem drewN_ex {w wr : World} {q a : Nat} (h : wr = w.drewN q) : ∃ q', wr.drewN a = w.drewN q' := ⟨q + a, by rw [h, World.drewN_drewN]⟩
theorem drewN_ex2 {w wr : World} {q a b : Nat} (h : wr = w.drewN q) : ∃ q', (wr.drewN a).drewN b = w.drewN q' := ⟨q + (a + b), by rw [h, World.drewN_drewN, World.drewN_drewN]⟩
theorem l03Message_b (b o B : Nat) (r : Rm) (v : Bool) (w : World) (hc : w.rangeAt b o (rmC r)) (h : Row i64v w B r.la r.ln r.m.likes) (hn : r.ln ≤ 1048576) (ht : r.m.text.size ≤ 1048576) (hv : msgB r.m = v) :
    Calls Try.prog 125 #[.pointer (some ⟨b, o, none⟩)] w fun e w' => e = .returned (.bool v) ∧ ∃ q, w' = w.drewN q := by
  subst hv; exact l03Message_any b o B r w hc h hn ht
theorem impl_ValidMessage_b (r : Rm) (v : Bool) (w : World) (h : Row i64v w w.heap.size r.la r.ln r.m.likes) (hn : r.ln ≤ 1048576) (ht : r.m.text.size ≤ 1048576) (hv : msgB r.m = v) :
    Calls Try.prog 127 #[.agg #[.int .i64 r.m.num, .int .i64 r.m.sdr, .int .i64 r.m.tick, .string r.m.text, .int .i64 r.m.edits, .bool r.m.gone, .int .i64 r.m.reply, .slice r.la r.ln r.lc]] w fun e w' => e = .returned (.bool v) ∧ Below w.heap.size w w' := by
  subst hv; exact impl_ValidMessage_any r w h hn ht
set_option maxHeartbeats 6400000 in
theorem l03Is_any (G : Nat) (x : Int) (A : Option Addr) (n c B : Nat) (rs : List Rm) (w : World) (p0 : w.cell? ⟨G, 0, none⟩ = some (.int .i64 x)) (p1 : w.cell? ⟨G, 1, none⟩ = some (.slice A n c)) (h : LogAt w B A n rs) (hf : fitL (mgs rs)) :
    Calls Try.prog 65 #[.pointer (some ⟨G, 0, none⟩)] w fun e w' => e = .returned (.bool (logB x (mgs rs))) ∧ ∃ q, w' = w.drewN q := by
  have hn := fit_n h hf
  have HF0 := Lib.hid hf
  have HL := Lib.hid (show (mgs rs).length = n by rw [mgs_len, h.len])
  clear hf
  by_cases hl : 40 < n
  · have HF := Lib.hid (logB_long (next := x) (ms := mgs rs) (by have := HL.out; omega))
    have x1 : decide ((40 : Int) < (n : Int)) = true := decide_eq_true (by omega)
    go_enter Try.func65, Try.ntmps65
    go_wp2
    go_ret
    exact ⟨ret_bool HF.out.symm, 0, rfl⟩
  have x1 : decide ((40 : Int) < (n : Int)) = false := decide_eq_false (by omega)
  cases tn : numB x with
  | false =>
    have HF := Lib.hid (logB_next (ms := mgs rs) tn)
    go_enter Try.func65, Try.ntmps65
    go_wp2_with (go_at_call 80; refine (l00In_b _ _ _ _ _ (show decide (1 ≤ x ∧ x ≤ 1000000000) = _ from tn)).mono ?_; rintro e w' ⟨rfl, rfl⟩)
    go_ret
    exact ⟨ret_bool HF.out.symm, 0, rfl⟩
  | true =>
    have HN := Lib.hid tn
    have hl' : n ≤ 40 := by omega
    go_enter Try.func65, Try.ntmps65
    go_wp2_with (go_at_call 80; refine (l00In_b _ _ _ _ _ (show decide (1 ≤ x ∧ x ≤ 1000000000) = _ from tn)).mono ?_; rintro e w' ⟨rfl, rfl⟩)
    clear tn hl
    go_loopw [24] (fun i wr => ∃ k : Nat, k ≤ n ∧ i = .int .i64 k ∧ Hid (∃ q, wr = w.drewN q) ∧ Hid (OkTo x (mgs rs) k)) (fun i _ => n - (intOf i).toNat)
    case atStart => exact ⟨0, by omega, rfl, Lib.hid ⟨0, rfl⟩, Lib.hid (OkTo.zero _ _)⟩
    case round =>
      obtain ⟨k, hk, rfl, HW, HK⟩ := hrel
      have p0 : wr.cell? ⟨G, 0, none⟩ = some (.int .i64 x) := by obtain ⟨q, hq⟩ := HW.out; rw [hq]; exact p0
      have p1 : wr.cell? ⟨G, 1, none⟩ = some (.slice A n c) := by obtain ⟨q, hq⟩ := HW.out; rw [hq]; exact p1
      have h : LogAt wr B A n rs := by obtain ⟨q, hq⟩ := HW.out; rw [hq]; exact h
      by_cases hlt : k < n
      · have hlt' : decide ((k : Int) < (n : Int)) = true := decide_eq_true (by omega)
        obtain ⟨b, off, r, rfl, hb, hz, hr, hc⟩ := h.range hlt
        obtain ⟨hf1, hf2⟩ := fit_ln h.2 HF0.out (List.mem_of_getElem? hz)
        have HZ := Lib.hid (mgs_at hz)
        have hi0 : (0 : Int) ≤ (k : Int) := by omega
        have hi1 : (k : Int) < (n : Int) := by omega
        obtain ⟨c0, c1, c2, c3, c4, c5, c6, c7⟩ := msg_cells hc
        have HD := Lib.hid h
        have HC := Lib.hid hc
        have HR := Lib.hid hr
        clear hc hr hz h
        cases hm : msgB r.m with
        | false =>
          have HF := Lib.hid (logB_chain (next := x) (chainM_no HZ.out (by rw [link_eq, hm]; rfl)))
          go_wp2
          go_quiet ((go_at_call 125; exact Calls.quiet_at2 (l03Message_b b (off + k * 8) B r _ _ (range_drewN HC.out) (HR.out.drewN _) hf1 hf2 hm)))
          go_wp2
          go_ret
          exact ⟨ret_bool HF.out.symm, by obtain ⟨q, hq⟩ := HW.out; first | exact drewN_ex hq | exact drewN_ex2 hq⟩
        | true =>
          by_cases hx : r.m.num < x
          · have y1 : decide (x ≤ r.m.num) = false := decide_eq_false (by omega)
            by_cases hk0 : 0 < k
            · obtain ⟨j, rfl⟩ : ∃ j, k = j + 1 := ⟨k - 1, by omega⟩
              obtain ⟨b2, off2, p, e2, _, hy, _, hcp⟩ := HD.out.range (k := j) (by omega)
              simp only [Option.some.injEq, Addr.mk.injEq, and_true] at e2
              obtain ⟨rfl, rfl⟩ := e2
              have HY := Lib.hid (mgs_at hy)
              obtain ⟨d0, _, d2, _⟩ := msg_cells hcp
              clear hy hcp
              have hd1 : (0 : Int) < ((j + 1 : Nat) : Int) := by omega
              have HLK := Lib.hid (last_step HY.out)
              by_cases hp1 : p.m.num < r.m.num
              · have y2 : decide (r.m.num ≤ p.m.num) = false := decide_eq_false (by omega)
                by_cases hp2 : p.m.tick ≤ r.m.tick
                · have y3 : decide (r.m.tick < p.m.tick) = false := decide_eq_false (by omega)
                  have HS := Lib.hid (HK.out.succ HZ.out (by rw [HLK.out, link_some, hm, decide_eq_true hp1, decide_eq_true hp2]; rfl) hx)
                  go_wp2
                  go_quiet ((go_at_call 125; exact Calls.quiet_at2 (l03Message_b b (off + (j + 1) * 8) B r _ _ (range_drewN HC.out) (HR.out.drewN _) hf1 hf2 hm)))
                  go_wp2
                  go_quiet (fail)
                  go_wp2
                  go_roundw
                  case rel => exact ⟨j + 1 + 1, by omega, by go_num, Lib.hid (by obtain ⟨q, hq⟩ := HW.out; first | exact drewN_ex hq | exact drewN_ex2 hq), HS⟩
                  case measure => simp [intOf]; omega
                · have y3 : decide (r.m.tick < p.m.tick) = true := decide_eq_true (by omega)
                  have HF := Lib.hid (logB_chain (next := x) (chainM_no HZ.out (by rw [HLK.out, link_some, decide_eq_false hp2]; simp)))
                  go_wp2
                  go_quiet ((go_at_call 125; exact Calls.quiet_at2 (l03Message_b b (off + (j + 1) * 8) B r _ _ (range_drewN HC.out) (HR.out.drewN _) hf1 hf2 hm)))
                  go_wp2
                  go_quiet (fail)
                  go_wp2
                  go_ret
                  exact ⟨ret_bool HF.out.symm, by obtain ⟨q, hq⟩ := HW.out; first | exact drewN_ex hq | exact drewN_ex2 hq⟩
              · have y2 : decide (r.m.num ≤ p.m.num) = true := decide_eq_true (by omega)
                have HF := Lib.hid (logB_chain (next := x) (chainM_no HZ.out (by rw [HLK.out, link_some, decide_eq_false hp1]; simp)))
                go_wp2
                go_quiet ((go_at_call 125; exact Calls.quiet_at2 (l03Message_b b (off + (j + 1) * 8) B r _ _ (range_drewN HC.out) (HR.out.drewN _) hf1 hf2 hm)))
                go_wp2
                go_quiet (fail)
                go_wp2
                go_ret
                exact ⟨ret_bool HF.out.symm, by obtain ⟨q, hq⟩ := HW.out; first | exact drewN_ex hq | exact drewN_ex2 hq⟩
            · have hd0 : decide ((0 : Int) < (k : Int)) = false := decide_eq_false (by omega)
              have hd0' : decide (0 < k) = false := decide_eq_false (by omega)
              have HS := Lib.hid (HK.out.succ HZ.out (by rw [show k = 0 by omega, last_zero, link_none, hm]) hx)
              clear hk0
              go_wp2
              go_quiet ((go_at_call 125; exact Calls.quiet_at2 (l03Message_b b (off + k * 8) B r _ _ (range_drewN HC.out) (HR.out.drewN _) hf1 hf2 hm)))
              go_wp2
              go_quiet (fail)
              go_wp2
              go_roundw
              case rel => exact ⟨k + 1, by omega, by go_num, Lib.hid (by obtain ⟨q, hq⟩ := HW.out; first | exact drewN_ex hq | exact drewN_ex2 hq), HS⟩
              case measure => simp [intOf]; omega
          · have y1 : decide (x ≤ r.m.num) = true := decide_eq_true (by omega)
            have HF := Lib.hid (logB_low (next := x) (low_no HZ.out hx))
            go_wp2
            go_quiet ((go_at_call 125; exact Calls.quiet_at2 (l03Message_b b (off + k * 8) B r _ _ (range_drewN HC.out) (HR.out.drewN _) hf1 hf2 hm)))
            go_wp2
            go_ret
            exact ⟨ret_bool HF.out.symm, by obtain ⟨q, hq⟩ := HW.out; first | exact drewN_ex hq | exact drewN_ex2 hq⟩
      · have hlt' : decide ((k : Int) < (n : Int)) = false := decide_eq_false (by omega)
        have HE := Lib.hid (show logB x (mgs rs) = true from logB_yes (by have := HL.out; omega) HN.out (HK.out.full (by have := HL.out; omega)).1 (HK.out.full (by have := HL.out; omega)).2)
        go_wp2
        go_ret
        exact ⟨ret_bool HE.out.symm, HW.out⟩
theorem logB_end {x : Int} {ms : List Mg} {pn : Int} (h : ms.length ≤ 40) (hx : numB x = true) (hc : chainB none ms = true) (hp : pn = pNum (lastO none ms)) : logB x ms = decide (pn < x) := by
  have h1 : 1 ≤ x := (of_decide_eq_true hx : 1 ≤ x ∧ x ≤ 1000000000).1
  rw [hp, low_last hc h1]
  unfold logB
  rw [hx, hc, decide_eq_true h]
  simp
theorem set8 {w : World} {g t : Nat} {a0 a1 a2 a3 a4 a5 a6 a7 b0 b1 b2 b3 b4 b5 b6 b7 : Value} (h : Blk w g t #[a0, a1, a2, a3, a4, a5, a6, a7]) :
    Blk ((((((((w.setCell ⟨g, 0, none⟩ b0).setCell ⟨g, 1, none⟩ b1).setCell ⟨g, 2, none⟩ b2).setCell ⟨g, 3, none⟩ b3).setCell ⟨g, 4, none⟩ b4).setCell ⟨g, 5, none⟩ b5).setCell ⟨g, 6, none⟩ b6).setCell ⟨g, 7, none⟩ b7) g t #[b0, b1, b2, b3, b4, b5, b6, b7] := by
  have := (((((((h.set_ 0 b0).set_ 1 b1).set_ 2 b2).set_ 3 b3).set_ 4 b4).set_ 5 b5).set_ 6 b6).set_ 7 b7
  simpa using this
theorem far8 {w : World} {g g' t : Nat} {cs : Array Value} {b0 b1 b2 b3 b4 b5 b6 b7 : Value} (h : Blk w g t cs) (hne : g ≠ g') :
    Blk ((((((((w.setCell ⟨g', 0, none⟩ b0).setCell ⟨g', 1, none⟩ b1).setCell ⟨g', 2, none⟩ b2).setCell ⟨g', 3, none⟩ b3).setCell ⟨g', 4, none⟩ b4).setCell ⟨g', 5, none⟩ b5).setCell ⟨g', 6, none⟩ b6).setCell ⟨g', 7, none⟩ b7) g t cs :=
  (((((((h.far (p := ⟨g', 0, none⟩) hne b0).far (p := ⟨g', 1, none⟩) hne b1).far (p := ⟨g', 2, none⟩) hne b2).far (p := ⟨g', 3, none⟩) hne b3).far (p := ⟨g', 4, none⟩) hne b4).far (p := ⟨g', 5, none⟩) hne b5).far (p := ⟨g', 6, none⟩) hne b6).far (p := ⟨g', 7, none⟩) hne b7
theorem below8 {B g : Nat} {w0 w : World} {b0 b1 b2 b3 b4 b5 b6 b7 : Value} (h : Below B w0 w) (hg : B ≤ g) :
    Below B w0 ((((((((w.setCell ⟨g, 0, none⟩ b0).setCell ⟨g, 1, none⟩ b1).setCell ⟨g, 2, none⟩ b2).setCell ⟨g, 3, none⟩ b3).setCell ⟨g, 4, none⟩ b4).setCell ⟨g, 5, none⟩ b5).setCell ⟨g, 6, none⟩ b6).setCell ⟨g, 7, none⟩ b7) :=
  below_sets [(0, b0), (1, b1), (2, b2), (3, b3), (4, b4), (5, b5), (6, b6), (7, b7)] h hg
set_option maxHeartbeats 6400000 in
theorem impl_ValidLog_any (x : Int) (A : Option Addr) (n c : Nat) (rs : List Rm) (w : World) (h : LogAt w w.heap.size A n rs) (hf : fitL (mgs rs)) :
    Calls Try.prog 68 #[.agg #[.int .i64 x, .slice A n c]] w fun e w' => e = .returned (.bool (logB x (mgs rs))) ∧ Below w.heap.size w w' := by
  have hn := fit_n h hf
  have HF0 := Lib.hid hf
  have HL := Lib.hid (show (mgs rs).length = n by rw [mgs_len, h.len])
  clear hf
  by_cases hl : 40 < n
  · have HF := Lib.hid (logB_long (next := x) (ms := mgs rs) (by have := HL.out; omega))
    have x1 : decide ((40 : Int) < (n : Int)) = true := decide_eq_true (by omega)
    go_enter Try.func68, Try.ntmps68
    go_wp2
    go_ret
    exact ⟨ret_bool HF.out.symm, (Below.refl _ _).alloc (Nat.le_refl _) _⟩
  have x1 : decide ((40 : Int) < (n : Int)) = false := decide_eq_false (by omega)
  cases tn : numB x with
  | false =>
    have HF := Lib.hid (logB_next (ms := mgs rs) tn)
    go_enter Try.func68, Try.ntmps68
    go_wp2_with (go_at_call 58; refine (isNumber_b _ _ _ tn).mono ?_; rintro e w' ⟨rfl, rfl⟩)
    go_ret
    exact ⟨ret_bool HF.out.symm, (Below.refl _ _).alloc (Nat.le_refl _) _⟩
  | true =>
    have HN := Lib.hid tn
    have hl' : n ≤ 40 := by omega
    go_enter Try.func68, Try.ntmps68
    go_wp2_with (go_at_call 58; refine (isNumber_b _ _ _ tn).mono ?_; rintro e w' ⟨rfl, rfl⟩)
    clear tn hl
    obtain ⟨k0, k1, hb0⟩ := two_boxes w 38 105 #[.int .i64 x, .slice A n c] #[.int .i64 0, .int .i64 0, .int .i64 0, .string ⟨#[]⟩, .int .i64 0, .bool false, .int .i64 0, .slice none 0 0]
    generalize ((w.alloc (.cells #[.int .i64 x, .slice A n c] 38)).alloc (.cells #[.int .i64 0, .int .i64 0, .int .i64 0, .string ⟨#[]⟩, .int .i64 0, .bool false, .int .i64 0, .slice none 0 0] 105)) = W at *
    have hWs := k1.lt
    go_loopw [19] (fun i wr => ∃ (k : Nat) (pn pt : Int) (a1 a3 a4 a5 a6 a7 : Value), k ≤ n ∧ i = .int .i64 k ∧ Blk wr (w.heap.size + 1) 105 #[.int .i64 pn, a1, .int .i64 pt, a3, a4, a5, a6, a7] ∧ Blk wr w.heap.size 38 #[.int .i64 x, .slice A n c] ∧ Hid (pn = pNum (lastO none ((mgs rs).take k))) ∧ Hid (pt = pTick (lastO none ((mgs rs).take k))) ∧ Hid (chainB none ((mgs rs).take k) = true) ∧ Below w.heap.size w wr) (fun i _ => n - (intOf i).toNat)
    case atStart => exact ⟨0, 0, 0, _, _, _, _, _, _, by omega, rfl, k1, k0, Lib.hid rfl, Lib.hid rfl, Lib.hid rfl, hb0⟩
    case round =>
      obtain ⟨k, pn, pt, a1, a3, a4, a5, a6, a7, hk, rfl, kB, kL, HPN, HPT, HCH, hbel⟩ := hrel
      clear k0 k1 hb0
      by_cases hlt : k < n
      · have hlt' : decide ((k : Int) < (n : Int)) = true := decide_eq_true (by omega)
        obtain ⟨b, off, r, rfl, hb, hz, hr, c0, c1, c2, c3, c4, c5, c6, c7⟩ := (h.below hbel).atr hlt
        obtain ⟨hf1, hf2⟩ := fit_ln h.2 HF0.out (List.mem_of_getElem? hz)
        have HZ := Lib.hid (mgs_at hz)
        have HR := Lib.hid hr
        have HHH := Lib.hid h
        have HLK := Lib.hid (link_eq (lastO none ((mgs rs).take k)) r.m)
        clear hr hz h
        go_wp2_with fail
        obtain ⟨kM, hb1⟩ := one_box wr 105 #[.int .i64 r.m.num, .int .i64 r.m.sdr, .int .i64 r.m.tick, .string r.m.text, .int .i64 r.m.edits, .bool r.m.gone, .int .i64 r.m.reply, .slice r.la r.ln r.lc]
        generalize wr.alloc (.cells #[.int .i64 r.m.num, .int .i64 r.m.sdr, .int .i64 r.m.tick, .string r.m.text, .int .i64 r.m.edits, .bool r.m.gone, .int .i64 r.m.reply, .slice r.la r.ln r.lc] 105) = W1 at *
        have kB := kB.below hb1 kB.lt
        have kL := kL.below hb1 kL.lt
        have hbs := hbel.size
        have HR := Lib.hid ((HR.out.below (hb1.mono hbs)).more (Nat.le_trans hbs hb1.size))
        have hbel := hbel.trans (hb1.mono hbs)
        have hMs := kM.lt
        clear hb1 c0 c1 c2 c3 c4 c5 c6 c7
        cases hm : msgB r.m with
        | false =>
          have HF := Lib.hid (logB_chain (next := x) (chainM_no HZ.out (by rw [HLK.out, hm]; rfl)))
          go_at_call 127; refine (impl_ValidMessage_b r _ _ HR.out hf1 hf2 hm).mono ?_; rintro e w2 ⟨rfl, hb1⟩
          have hbel := hbel.trans (hb1.mono hbel.size)
          go_wp2
          go_ret
          exact ⟨ret_bool HF.out.symm, hbel⟩
        | true =>
          go_at_call 127; refine (impl_ValidMessage_b r _ _ HR.out hf1 hf2 hm).mono ?_; rintro e w2 ⟨rfl, hb1⟩
          have kB := kB.below hb1 kB.lt
          have kL := kL.below hb1 kL.lt
          have kM := kM.below hb1 kM.lt
          have hbel := hbel.trans (hb1.mono hbel.size)
          clear hb1
          have m0 := kM.cell 0; have m1 := kM.cell 1; have m2 := kM.cell 2; have m3 := kM.cell 3; have m4 := kM.cell 4; have m5 := kM.cell 5; have m6 := kM.cell 6; have m7 := kM.cell 7
          have b0 := kB.cell 0; have b1 := kB.cell 1; have b2 := kB.cell 2; have b3 := kB.cell 3; have b4 := kB.cell 4; have b5 := kB.cell 5; have b6 := kB.cell 6; have b7 := kB.cell 7
          have f0 := kB.frozen 0; have f1 := kB.frozen 1; have f2 := kB.frozen 2; have f3 := kB.frozen 3; have f4 := kB.frozen 4; have f5 := kB.frozen 5; have f6 := kB.frozen 6; have f7 := kB.frozen 7
          by_cases hp1 : pn < r.m.num
          · have y1 : decide (r.m.num ≤ pn) = false := decide_eq_false (by omega)
            by_cases hp2 : pt ≤ r.m.tick
            · have y2 : decide (r.m.tick < pt) = false := decide_eq_false (by omega)
              have HS := Lib.hid (show chainB none ((mgs rs).take (k + 1)) = true by rw [chain_step HZ.out, HCH.out, HLK.out, hm, ← HPN.out, ← HPT.out, decide_eq_true hp1, decide_eq_true hp2]; rfl)
              have HLS := Lib.hid (last_step HZ.out)
              go_wp2
              go_roundw
              case rel => exact ⟨k + 1, r.m.num, r.m.tick, _, _, _, _, _, _, by omega, by go_num, set8 kB, far8 kL (by omega), Lib.hid (by rw [HLS.out]; rfl), Lib.hid (by rw [HLS.out]; rfl), HS, below8 hbel (by omega)⟩
              case measure => simp [intOf]; omega
            · have y2 : decide (r.m.tick < pt) = true := decide_eq_true (by omega)
              have HF := Lib.hid (logB_chain (next := x) (chainM_no HZ.out (by rw [HLK.out, ← HPT.out, decide_eq_false hp2]; simp)))
              go_wp2
              go_ret
              exact ⟨ret_bool HF.out.symm, hbel⟩
          · have y1 : decide (r.m.num ≤ pn) = true := decide_eq_true (by omega)
            have HF := Lib.hid (logB_chain (next := x) (chainM_no HZ.out (by rw [HLK.out, ← HPN.out, decide_eq_false hp1]; simp)))
            go_wp2
            go_ret
            exact ⟨ret_bool HF.out.symm, hbel⟩
      · have hlt' : decide ((k : Int) < (n : Int)) = false := decide_eq_false (by omega)
        have HT := Lib.hid (show (mgs rs).take k = mgs rs from List.take_of_length_le (by have := HL.out; omega))
        have HE := Lib.hid (logB_end (x := x) (ms := mgs rs) (pn := pn) (by have := HL.out; omega) HN.out (by have := HCH.out; rwa [HT.out] at this) (by have := HPN.out; rwa [HT.out] at this))
        have b0 := kB.cell 0
        have l0 := kL.cell 0
        go_wp2
        go_ret
        exact ⟨ret_bool HE.out.symm, hbel⟩
end Go.Proofs.Ytdpclbmcmgknjaa
