import Derived.Test.YteeodjbionjlmaaChecked
import Derived.WalkKit
import Derived.ProofKit
import Derived.OpenShut
import Derived.ShutString
import Derived.ChangeOld
import Derived.Below
import Derived.Lib.Hide
import Derived.Deep.MidRow
import Derived.StillTailTactics
import Derived.Test.YteeodjbionjlmaaZMsgR
import Derived.Test.YteeodjbionjlmaaJd
namespace Go.Proofs.Yteeodjbionjlmaa
open Go.ChangeShapes Go.WideShapes Go.ChangeAt Go.RowKit
open Go.ChangeMaps (open_string shut_string)
set_option linter.unusedVariables false
set_option maxRecDepth 100000
theorem three_boxes (w : World) (t t' t'' : TypeId) (c c' c'' : Array Value) : Blk (((w.alloc (.cells c t)).alloc (.cells c' t')).alloc (.cells c'' t'')) w.heap.size t c ∧ Blk (((w.alloc (.cells c t)).alloc (.cells c' t')).alloc (.cells c'' t'')) (w.heap.size + 1) t' c' ∧ Blk (((w.alloc (.cells c t)).alloc (.cells c' t')).alloc (.cells c'' t'')) (w.heap.size + 1 + 1) t'' c'' ∧ Below w.heap.size w (((w.alloc (.cells c t)).alloc (.cells c' t')).alloc (.cells c'' t'')) := by
  obtain ⟨k0, k1, hb⟩ := two_boxes w t t' c c'
  refine ⟨k0.alloc _, k1.alloc _, ?_, hb.alloc hb.size _⟩
  have := Blk.new ((w.alloc (.cells c t)).alloc (.cells c' t')) t'' c''
  simpa using this
/-- stores into a block of the call's own, above the rows of others -/
theorem own_sets {base e size n g : Nat} {v : Value} {xs : List Value} : ∀ (us : List (Nat × Value)) {w : World}, w.ownsRow base e size v n xs → g < base → (us.foldl (fun w u => w.setCell ⟨g, u.1, none⟩ u.2) w).ownsRow base e size v n xs
  | [], _, h, _ => h
  | u :: us, _, h, hg => own_sets us (ownsRow_setCell_below h (a := ⟨g, u.1, none⟩) hg u.2) hg
theorem below_sets {B g : Nat} {w0 : World} : ∀ (us : List (Nat × Value)) {w : World}, Below B w0 w → B ≤ g → Below B w0 (us.foldl (fun w u => w.setCell ⟨g, u.1, none⟩ u.2) w)
  | [], _, h, _ => h
  | u :: us, _, h, hg => below_sets us (h.setCell (p := ⟨g, u.1, none⟩) hg u.2) hg
theorem LogOwn.set_ {w : World} {base n c : Nat} {A : Option Addr} {rs : List Rm} (h : LogOwn w base A n c rs) {a : Addr} (ha : a.block < base) (u : Value) : LogOwn (w.setCell a u) base A n c rs :=
  ⟨ownsRow_setCell_below h.1 ha u, fun r hr => ownsRow_setCell_below (h.2.1 r hr) ha u, h.2.2⟩
theorem LogOwn.sets {base n c g : Nat} {A : Option Addr} {rs : List Rm} : ∀ (us : List (Nat × Value)) {w : World}, LogOwn w base A n c rs → g < base → LogOwn (us.foldl (fun w u => w.setCell ⟨g, u.1, none⟩ u.2) w) base A n c rs
  | [], _, h, _ => h
  | u :: us, _, h, hg => LogOwn.sets us (h.set_ (a := ⟨g, u.1, none⟩) hg u.2) hg
set_option maxHeartbeats 800000 in
theorem toMessage_any (r : Rm) (w : World) (h : Row i64v w w.heap.size r.la r.ln r.m.likes) (hn : r.ln ≤ 1048576) :
    Calls Try.prog 34 #[.agg #[.int .i64 r.m.num, .int .i64 r.m.sdr, .int .i64 r.m.tick, .string r.m.text, .int .i64 r.m.edits, .bool r.m.gone, .int .i64 r.m.reply, .slice r.la r.ln r.lc]] w fun e w' => ∃ g, e = .returned (.agg #[.int .i64 r.m.num, .int .i64 r.m.sdr, .int .i64 r.m.tick, .string r.m.text, .int .i64 r.m.edits, .bool r.m.gone, .int .i64 r.m.reply, .slice (some ⟨g, 0, none⟩) r.ln r.ln]) ∧ w'.ownsRow w.heap.size 2 1 (.slice (some ⟨g, 0, none⟩) r.ln r.ln) r.ln (r.m.likes.map i64v) ∧ Below w.heap.size w w' := by
  go_enter Try.func34, Try.ntmps34
  go_wp2_with fail
  obtain ⟨k0, k1, k2, hb0⟩ := three_boxes w 37 41 41 #[.int .i64 r.m.num, .int .i64 r.m.sdr, .int .i64 r.m.tick, .string r.m.text, .int .i64 r.m.edits, .bool r.m.gone, .int .i64 r.m.reply, .slice r.la r.ln r.lc] #[.int .i64 0, .int .i64 0, .int .i64 0, .string ⟨#[]⟩, .int .i64 0, .bool false, .int .i64 0, .slice none 0 0] #[.int .i64 r.m.num, .int .i64 r.m.sdr, .int .i64 r.m.tick, .string r.m.text, .int .i64 r.m.edits, .bool r.m.gone, .int .i64 r.m.reply, .slice none 0 0]
  generalize (((w.alloc (.cells #[.int .i64 r.m.num, .int .i64 r.m.sdr, .int .i64 r.m.tick, .string r.m.text, .int .i64 r.m.edits, .bool r.m.gone, .int .i64 r.m.reply, .slice r.la r.ln r.lc] 37)).alloc (.cells #[.int .i64 0, .int .i64 0, .int .i64 0, .string ⟨#[]⟩, .int .i64 0, .bool false, .int .i64 0, .slice none 0 0] 41)).alloc (.cells #[.int .i64 r.m.num, .int .i64 r.m.sdr, .int .i64 r.m.tick, .string r.m.text, .int .i64 r.m.edits, .bool r.m.gone, .int .i64 r.m.reply, .slice none 0 0] 41)) = W at *
  have hl2 := k2.lt
  have hbW := hb0.size
  go_at_call 55; refine (toInt64S_any _ _ _ _ _ (h.to hb0) hn).mono ?_; rintro e w1 ⟨g, rfl, ho1, hb1⟩
  have k1 := k1.below hb1 (by omega)
  have k2 := k2.below hb1 (by omega)
  have hbA := hb0.trans (hb1.mono hb0.size)
  have q1 : w.heap.size + 1 + 1 < W.heap.size := hl2
  have l0 := k2.cell 0; have l1 := k2.cell 1; have l2 := k2.cell 2; have l3 := k2.cell 3; have l4 := k2.cell 4; have l5 := k2.cell 5; have l6 := k2.cell 6; have l7 := k2.cell 7
  have lf := k2.frozen 7
  have r0 := k1.cell 0; have r1 := k1.cell 1; have r2 := k1.cell 2; have r3 := k1.cell 3; have r4 := k1.cell 4; have r5 := k1.cell 5; have r6 := k1.cell 6; have r7 := k1.cell 7
  have f0 := k1.frozen 0; have f1 := k1.frozen 1; have f2 := k1.frozen 2; have f3 := k1.frozen 3; have f4 := k1.frozen 4; have f5 := k1.frozen 5; have f6 := k1.frozen 6; have f7 := k1.frozen 7
  clear hb1 hb0 h k0
  go_wp2
  refine bodyPost_ret (v := .agg #[.int .i64 r.m.num, .int .i64 r.m.sdr, .int .i64 r.m.tick, .string r.m.text, .int .i64 r.m.edits, .bool r.m.gone, .int .i64 r.m.reply, .slice (some ⟨g, 0, none⟩) r.ln r.ln]) (by simp [results, Try.results34, go_sem, r0, r1, r2, r3, r4, r5, r6, r7]) rfl ⟨g, rfl, ?_, ?_⟩
  · exact World.ownsRow.mono (own_sets [(0, _), (1, _), (2, _), (3, _), (4, _), (5, _), (6, _), (7, _)] (ownsRow_setCell_below ho1 (a := ⟨w.heap.size + 1 + 1, 7, none⟩) q1 _) (g := w.heap.size + 1) (by omega)) hbW
  · exact below_sets [(0, _), (1, _), (2, _), (3, _), (4, _), (5, _), (6, _), (7, _)] (hbA.setCell (p := ⟨w.heap.size + 1 + 1, 7, none⟩) (by simp; omega) _) (g := w.heap.size + 1) (by omega)
theorem Try.info_Message : (Try.prog.info? 41).map (fun i => (i.zero, i.size, i.bytes)) = some (some (.agg #[.int .i64 0, .int .i64 0, .int .i64 0, .string ⟨#[]⟩, .int .i64 0, .bool false, .int .i64 0, .slice none 0 0]), 8, 88) := by kernel_rfl
theorem Try.size_Message : (Try.prog.info? 41).map (·.size) = some 8 := by kernel_rfl
/-- the same messages, whose likes lie elsewhere -/
theorem likes_len {rs : List Rm} {w : World} {B : Nat} (h : LikesAt w B rs) {r : Rm} (hr : r ∈ rs) : r.m.likes.length = r.ln := (h r hr).1
theorem own_nextR {w : World} {base e n cap g k : Nat} {ts : List Rm} {r : Rm} {tail : List Value} (vs : List Value) (hvs : vs = rmC r) (hl : ts.length = k) (hk : k < n) (h : w.ownsRow base e 8 (.slice (some ⟨g, 0, none⟩) n cap) n (ts.flatMap rmC ++ tail)) :
    (w.setCells g (k * 8) vs).ownsRow base e 8 (.slice (some ⟨g, 0, none⟩) n cap) n ((ts ++ [r]).flatMap rmC ++ tail.drop 8) ∧ w.grownBy (w.setCells g (k * 8) vs) (some g) := by
  subst hvs
  have hp : (ts.flatMap rmC).length = k * 8 := by rw [flat_len rmC_len, hl]
  have hlen := h.1
  rw [List.length_append, hp] at hlen
  have := own_setCells (rmC r) (k * 8) w (ts.flatMap rmC) tail h hp (by rw [rmC_len]; omega)
  rw [rmC_len] at this
  refine ⟨?_, this.2⟩
  have h1 := this.1
  rw [← List.append_assoc] at h1
  simpa using h1
theorem own_fullR {w : World} {base e n cap g : Nat} {ts : List Rm} {tail : List Value} (hn : ts.length = n) (h : w.ownsRow base e 8 (.slice (some ⟨g, 0, none⟩) n cap) n (ts.flatMap rmC ++ tail)) : w.ownsRow base e 8 (.slice (some ⟨g, 0, none⟩) n cap) n (ts.flatMap rmC) := by
  have hl := h.1
  rw [List.length_append, flat_len rmC_len, hn] at hl
  have : tail = [] := List.eq_nil_of_length_eq_zero (by omega)
  subst this
  rw [List.append_nil] at h
  exact h
theorem szInt64S_ok (A : Option Addr) (n c : Nat) (l : Int) (w : World) (h : (n : Int) ≤ l) (hl : l ≤ 1048576) :
    Calls Try.prog 82 #[.slice A n c, .int .i64 l] w fun e w' => e = .returned (.int .i64 (l - n)) ∧ w = w' := by
  have h1 : ¬ (l - (n : Int) < 0) := by omega
  go_enter Try.func82, Try.ntmps82
  go_wp2
  go_ret
  exact ⟨rfl, rfl⟩
theorem szInt64S_no (A : Option Addr) (n c : Nat) (l : Int) (w : World) (h : l < (n : Int)) (hl : 0 ≤ l) (hn : (n : Int) ≤ 9223372036854775807) :
    Calls Try.prog 82 #[.slice A n c, .int .i64 l] w fun e w' => e = .returned (.int .i64 (-1)) ∧ w = w' := by
  go_enter Try.func82, Try.ntmps82
  go_wp2
  go_ret
  exact ⟨rfl, rfl⟩
theorem szMessage_ok (r : Rm) (l : Int) (w : World) (h : (r.m.text.size : Int) + r.ln ≤ l) (hl : l ≤ 1048576) :
    Calls Try.prog 32 #[.agg #[.int .i64 r.m.num, .int .i64 r.m.sdr, .int .i64 r.m.tick, .string r.m.text, .int .i64 r.m.edits, .bool r.m.gone, .int .i64 r.m.reply, .slice r.la r.ln r.lc], .int .i64 l] w fun e w' => e = .returned (.int .i64 (l - r.m.text.size - r.ln)) ∧ Below w.heap.size w w' := by
  have x1 : ¬ (l - (r.m.text.size : Int) < 0) := by omega
  have x2 : ¬ (l - (r.m.text.size : Int) - (r.ln : Int) < 0) := by omega
  go_enter Try.func32, Try.ntmps32
  go_wp2_with (go_at_call 82; refine (szInt64S_ok _ _ _ _ _ (by omega) (by omega)).mono ?_; rintro e w' ⟨rfl, rfl⟩)
  go_ret
  exact ⟨rfl, (Below.refl _ _).alloc (Nat.le_refl _) _⟩
theorem szMessage_no (r : Rm) (l : Int) (w : World) (h : l < (r.m.text.size : Int) + r.ln) (h0 : 0 ≤ l) (hl : l ≤ 1048576) (ht : (r.m.text.size : Int) ≤ 9223372036854775807) (hn : (r.ln : Int) ≤ 9223372036854775807) :
    Calls Try.prog 32 #[.agg #[.int .i64 r.m.num, .int .i64 r.m.sdr, .int .i64 r.m.tick, .string r.m.text, .int .i64 r.m.edits, .bool r.m.gone, .int .i64 r.m.reply, .slice r.la r.ln r.lc], .int .i64 l] w fun e w' => e = .returned (.int .i64 (-1)) ∧ Below w.heap.size w w' := by
  by_cases x1 : (r.m.text.size : Int) ≤ l
  · have y1 : ¬ (l - (r.m.text.size : Int) < 0) := by omega
    go_enter Try.func32, Try.ntmps32
    go_wp2_with (go_at_call 82; refine (szInt64S_no _ _ _ _ _ (by omega) (by omega) hn).mono ?_; rintro e w' ⟨rfl, rfl⟩)
    go_ret
    exact ⟨rfl, (Below.refl _ _).alloc (Nat.le_refl _) _⟩
  · have y1 : l - (r.m.text.size : Int) < 0 := by omega
    go_enter Try.func32, Try.ntmps32
    go_wp2
    go_ret
    exact ⟨rfl, (Below.refl _ _).alloc (Nat.le_refl _) _⟩
def rmSz (r : Rm) : Nat := r.m.text.size + r.ln
def szTo (rs : List Rm) (k : Nat) : Nat := ((rs.take k).map rmSz).sum
theorem szTo_zero (rs : List Rm) : szTo rs 0 = 0 := by simp [szTo]
theorem szTo_succ {rs : List Rm} {k : Nat} {r : Rm} (h : rs[k]? = some r) : szTo rs (k + 1) = szTo rs k + (r.m.text.size + r.ln) := by
  unfold szTo
  rw [List.take_add_one, h]
  simp [rmSz]
theorem szTo_le (rs : List Rm) (k : Nat) : szTo rs k ≤ szTo rs rs.length := by
  unfold szTo
  rw [List.take_length]
  conv => rhs; rw [← List.take_append_drop k rs]
  rw [List.map_append, List.sum_append]
  omega
def logSize (rs : List Rm) : Nat := rs.length + szTo rs rs.length
theorem log_small {rs : List Rm} (h : logSize rs ≤ 1048576) : rs.length ≤ 1048576 ∧ ∀ r ∈ rs, r.ln ≤ 1048576 ∧ r.m.text.size ≤ 1048576 := by
  refine ⟨by unfold logSize at h; omega, fun r hr => ?_⟩
  obtain ⟨k, hk⟩ := List.mem_iff_getElem?.1 hr
  have h1 := szTo_succ hk
  have h2 := szTo_le rs (k + 1)
  unfold logSize at h
  omega
theorem fit_of {w : World} {n B : Nat} {A : Option Addr} {rs : List Rm} (h : LogAt w B A n rs) (hs : logSize rs ≤ 1048576) : fitL (mgs rs) := by
  obtain ⟨h1, h2⟩ := log_small hs
  refine ⟨by rw [mgs_len]; exact h1, fun m hm => ?_⟩
  obtain ⟨r, hr, rfl⟩ := List.mem_map.1 hm
  have := h2 r hr
  have := (h.2 r hr).1
  omega
/-- toLog: messages of one's own, the same -/
def LogNew (x : Int) (rs : List Rm) (n : Nat) (w : World) (e : Ending) (w' : World) : Prop := ∃ g ts, e = .returned (.agg #[.int .i64 x, .slice (some ⟨g, 0, none⟩) n n]) ∧ mgs ts = mgs rs ∧ LogOwn w' w.heap.size (some ⟨g, 0, none⟩) n n ts ∧ Below w.heap.size w w'
theorem row_len {xs : List Int} {w : World} {B n : Nat} {A : Option Addr} (h : Row i64v w B A n xs) : xs.length = n := h.1
set_option maxHeartbeats 800000 in
theorem eqMessage_same (m : Mg) (la la' : Option Addr) (ln lc ln' lc' : Nat) (w : World) (h : Row i64v w w.heap.size la ln m.likes) (h' : Row i64v w w.heap.size la' ln' m.likes) (hn : ln ≤ 1048576) :
    Calls Try.prog 36 #[.agg #[.int .i64 m.num, .int .i64 m.sdr, .int .i64 m.tick, .string m.text, .int .i64 m.edits, .bool m.gone, .int .i64 m.reply, .slice la ln lc], .agg #[.int .i64 m.num, .int .i64 m.sdr, .int .i64 m.tick, .string m.text, .int .i64 m.edits, .bool m.gone, .int .i64 m.reply, .slice la' ln' lc']] w fun e w' => e = .returned (.bool true) ∧ Below w.heap.size w w' := by
  obtain rfl : ln = ln' := by rw [← h.1, ← h'.1]
  go_enter Try.func36, Try.ntmps36
  go_wp2_with fail
  obtain ⟨k0, k1, hb0⟩ := two_boxes w 41 41 #[.int .i64 m.num, .int .i64 m.sdr, .int .i64 m.tick, .string m.text, .int .i64 m.edits, .bool m.gone, .int .i64 m.reply, .slice la ln lc] #[.int .i64 m.num, .int .i64 m.sdr, .int .i64 m.tick, .string m.text, .int .i64 m.edits, .bool m.gone, .int .i64 m.reply, .slice la' ln lc']
  generalize ((w.alloc (.cells #[.int .i64 m.num, .int .i64 m.sdr, .int .i64 m.tick, .string m.text, .int .i64 m.edits, .bool m.gone, .int .i64 m.reply, .slice la ln lc] 41)).alloc (.cells #[.int .i64 m.num, .int .i64 m.sdr, .int .i64 m.tick, .string m.text, .int .i64 m.edits, .bool m.gone, .int .i64 m.reply, .slice la' ln lc'] 41)) = W at *
  go_at_call 57; refine (eqInt64S_same _ _ _ _ _ _ _ _ _ (h.to hb0) (h'.to hb0) (by omega)).mono ?_; rintro e w2 ⟨rfl, q, rfl⟩
  go_wp2
  go_ret
  exact ⟨rfl, hb0.trans (Below.mono (drew_below ⟨q, rfl⟩) hb0.size)⟩
end Go.Proofs.Yteeodjbionjlmaa
