import Derived.Test.YtdpclbmcmgknjaaChecked
import Derived.WalkKit
import Derived.ProofKit
import Derived.OpenShut
import Derived.ShutString
import Derived.ChangeOld
import Derived.Below
import Derived.Lib.Hide
import Derived.Deep.MidRow
import Derived.StillTailTactics
import Derived.Test.YtdpclbmcmgknjaaZMsgR
import Derived.Test.YtdpclbmcmgknjaaJd
namespace Go.Proofs.Ytdpclbmcmgknjaa
open Go.ChangeShapes Go.WideShapes Go.ChangeAt Go.RowKit
open Go.ChangeMaps (open_string shut_string)
set_option linter.unusedVariables false
set_option maxRecDepth 100000
theorem three_boxes (w : World) (t t' t'' : TypeId) (c c' c'' : Array Value) : Blk (((w.alloc (.cells c t)).alloc (.cells c' t')).alloc (.cells c'' t'')) w.heap.size t c ∧ Blk (((w.alloc (.cells c t)).alloc (.cells c' t')).alloc (.cells c'' t'')) (w.heap.size + 1) t' c' ∧ Blk (((w.alloc (.cells c t)).alloc (.cells c' t')).alloc (.cells c'' t'')) (w.heap.size + 1 + 1) t'' c'' ∧ Below w.heap.size w (((w.alloc (.cells c t)).alloc (.cells c' t')).alloc (.cells c'' t'')) := by
  obtain ⟨k0, k1, hb⟩ := two_boxes w t t' c c'
  refine ⟨k0.alloc _, k1.alloc _, ?_, hb.alloc hb.size _⟩
  have := Blk.new ((w.alloc (.cells c t)).alloc (.cells c' t')) t'' c''
  simpa using this
/-- stores into a block of the call's own, above the rows of others -/
theorem own_sets {base e size n g : Nat} {v : Value} {xs : List Value} : ∀ (us : List (Nat × Value)) {w : World}, w.ownsRow base e size v n xs → g < base → (us.foldl (fun w u => w.setCell ⟨g, u.1, none⟩ u.2) w).ownsRow base e size v n xs
  | [], _, h, _ => h
  | u :: us, _, h, hg => own_sets us (ownsRow_setCell_below h (a := ⟨g, u.1, none⟩) hg u.2) hg
theorem below_sets {B g : Nat} {w0 : World} : ∀ (us : List (Nat × Value)) {w : World}, Below B w0 w → B ≤ g → Below B w0 (us.foldl (fun w u => w.setCell ⟨g, u.1, none⟩ u.2) w)
  | [], _, h, _ => h
  | u :: us, _, h, hg => below_sets us (h.setCell (p := ⟨g, u.1, none⟩) hg u.2) hg
theorem LogOwn.set_ {w : World} {base n c : Nat} {A : Option Addr} {rs : List Rm} (h : LogOwn w base A n c rs) {a : Addr} (ha : a.block < base) (u : Value) : LogOwn (w.setCell a u) base A n c rs :=
  ⟨ownsRow_setCell_below h.1 ha u, fun r hr => ownsRow_setCell_below (h.2.1 r hr) ha u, h.2.2⟩
theorem LogOwn.sets {base n c g : Nat} {A : Option Addr} {rs : List Rm} : ∀ (us : List (Nat × Value)) {w : World}, LogOwn w base A n c rs → g < base → LogOwn (us.foldl (fun w u => w.setCell ⟨g, u.1, none⟩ u.2) w) base A n c rs
  | [], _, h, _ => h
  | u :: us, _, h, hg => LogOwn.sets us (h.set_ (a := ⟨g, u.1, none⟩) hg u.2) hg
set_option maxHeartbeats 800000 in
theorem toMessage_any (r : Rm) (w : World) (h : Row i64v w w.heap.size r.la r.ln r.m.likes) (hn : r.ln ≤ 1048576) :
    Calls Try.prog 126 #[.agg #[.int .i64 r.m.num, .int .i64 r.m.sdr, .int .i64 r.m.tick, .string r.m.text, .int .i64 r.m.edits, .bool r.m.gone, .int .i64 r.m.reply, .slice r.la r.ln r.lc]] w fun e w' => ∃ g, e = .returned (.agg #[.int .i64 r.m.num, .int .i64 r.m.sdr, .int .i64 r.m.tick, .string r.m.text, .int .i64 r.m.edits, .bool r.m.gone, .int .i64 r.m.reply, .slice (some ⟨g, 0, none⟩) r.ln r.ln]) ∧ w'.ownsRow w.heap.size 2 1 (.slice (some ⟨g, 0, none⟩) r.ln r.ln) r.ln (r.m.likes.map i64v) ∧ Below w.heap.size w w' := by
  go_enter Try.func126, Try.ntmps126
  go_wp2_with fail
  obtain ⟨k0, k1, k2, hb0⟩ := three_boxes w 180 105 105 #[.int .i64 r.m.num, .int .i64 r.m.sdr, .int .i64 r.m.tick, .string r.m.text, .int .i64 r.m.edits, .bool r.m.gone, .int .i64 r.m.reply, .slice r.la r.ln r.lc] #[.int .i64 0, .int .i64 0, .int .i64 0, .string ⟨#[]⟩, .int .i64 0, .bool false, .int .i64 0, .slice none 0 0] #[.int .i64 r.m.num, .int .i64 r.m.sdr, .int .i64 r.m.tick, .string r.m.text, .int .i64 r.m.edits, .bool r.m.gone, .int .i64 r.m.reply, .slice none 0 0]
  generalize (((w.alloc (.cells #[.int .i64 r.m.num, .int .i64 r.m.sdr, .int .i64 r.m.tick, .string r.m.text, .int .i64 r.m.edits, .bool r.m.gone, .int .i64 r.m.reply, .slice r.la r.ln r.lc] 180)).alloc (.cells #[.int .i64 0, .int .i64 0, .int .i64 0, .string ⟨#[]⟩, .int .i64 0, .bool false, .int .i64 0, .slice none 0 0] 105)).alloc (.cells #[.int .i64 r.m.num, .int .i64 r.m.sdr, .int .i64 r.m.tick, .string r.m.text, .int .i64 r.m.edits, .bool r.m.gone, .int .i64 r.m.reply, .slice none 0 0] 105)) = W at *
  have hl2 := k2.lt
  have hbW := hb0.size
  go_at_call 162; refine (toInt64S_any _ _ _ _ _ (h.to hb0) hn).mono ?_; rintro e w1 ⟨g, rfl, ho1, hb1⟩
  have k1 := k1.below hb1 (by omega)
  have k2 := k2.below hb1 (by omega)
  have hbA := hb0.trans (hb1.mono hb0.size)
  have q1 : w.heap.size + 1 + 1 < W.heap.size := hl2
  have l0 := k2.cell 0; have l1 := k2.cell 1; have l2 := k2.cell 2; have l3 := k2.cell 3; have l4 := k2.cell 4; have l5 := k2.cell 5; have l6 := k2.cell 6; have l7 := k2.cell 7
  have lf := k2.frozen 7
  have r0 := k1.cell 0; have r1 := k1.cell 1; have r2 := k1.cell 2; have r3 := k1.cell 3; have r4 := k1.cell 4; have r5 := k1.cell 5; have r6 := k1.cell 6; have r7 := k1.cell 7
  have f0 := k1.frozen 0; have f1 := k1.frozen 1; have f2 := k1.frozen 2; have f3 := k1.frozen 3; have f4 := k1.frozen 4; have f5 := k1.frozen 5; have f6 := k1.frozen 6; have f7 := k1.frozen 7
  clear hb1 hb0 h k0
  go_wp2
  refine bodyPost_ret (v := .agg #[.int .i64 r.m.num, .int .i64 r.m.sdr, .int .i64 r.m.tick, .string r.m.text, .int .i64 r.m.edits, .bool r.m.gone, .int .i64 r.m.reply, .slice (some ⟨g, 0, none⟩) r.ln r.ln]) (by simp [results, Try.results126, go_sem, r0, r1, r2, r3, r4, r5, r6, r7]) rfl ⟨g, rfl, ?_, ?_⟩
  · exact World.ownsRow.mono (own_sets [(0, _), (1, _), (2, _), (3, _), (4, _), (5, _), (6, _), (7, _)] (ownsRow_setCell_below ho1 (a := ⟨w.heap.size + 1 + 1, 7, none⟩) q1 _) (g := w.heap.size + 1) (by omega)) hbW
  · exact below_sets [(0, _), (1, _), (2, _), (3, _), (4, _), (5, _), (6, _), (7, _)] (hbA.setCell (p := ⟨w.heap.size + 1 + 1, 7, none⟩) (by simp; omega) _) (g := w.heap.size + 1) (by omega)
theorem Try.info_Message : (Try.prog.info? 105).map (fun i => (i.zero, i.size, i.bytes)) = some (some (.agg #[.int .i64 0, .int .i64 0, .int .i64 0, .string ⟨#[]⟩, .int .i64 0, .bool false, .int .i64 0, .slice none 0 0]), 8, 88) := by kernel_rfl
theorem Try.size_Message : (Try.prog.info? 105).map (·.size) = some 8 := by kernel_rfl
/-- the same messages, whose likes lie elsewhere -/
theorem likes_len {rs : List Rm} {w : World} {B : Nat} (h : LikesAt w B rs) {r : Rm} (hr : r ∈ rs) : r.m.likes.length = r.ln := (h r hr).1
theorem own_nextR {w : World} {base e n cap g k : Nat} {ts : List Rm} {r : Rm} {tail : List Value} (vs : List Value) (hvs : vs = rmC r) (hl : ts.length = k) (hk : k < n) (h : w.ownsRow base e 8 (.slice (some ⟨g, 0, none⟩) n cap) n (ts.flatMap rmC ++ tail)) :
    (w.setCells g (k * 8) vs).ownsRow base e 8 (.slice (some ⟨g, 0, none⟩) n cap) n ((ts ++ [r]).flatMap rmC ++ tail.drop 8) ∧ w.grownBy (w.setCells g (k * 8) vs) (some g) := by
  subst hvs
  have hp : (ts.flatMap rmC).length = k * 8 := by rw [flat_len rmC_len, hl]
  have hlen := h.1
  rw [List.length_append, hp] at hlen
  have := own_setCells (rmC r) (k * 8) w (ts.flatMap rmC) tail h hp (by rw [rmC_len]; omega)
  rw [rmC_len] at this
  refine ⟨?_, this.2⟩
  have h1 := this.1
  rw [← List.append_assoc] at h1
  simpa using h1
theorem own_fullR {w : World} {base e n cap g : Nat} {ts : List Rm} {tail : List Value} (hn : ts.length = n) (h : w.ownsRow base e 8 (.slice (some ⟨g, 0, none⟩) n cap) n (ts.flatMap rmC ++ tail)) : w.ownsRow base e 8 (.slice (some ⟨g, 0, none⟩) n cap) n (ts.flatMap rmC) := by
  have hl := h.1
  rw [List.length_append, flat_len rmC_len, hn] at hl
  have : tail = [] := List.eq_nil_of_length_eq_zero (by omega)
  subst this
  rw [List.append_nil] at h
  exact h
set_option maxHeartbeats 1600000 in
theorem toMessageS_any (A : Option Addr) (n c : Nat) (rs : List Rm) (w : World) (h : LogAt w w.heap.size A n rs) (hn : n ≤ 1048576) (hl : ∀ r ∈ rs, r.ln ≤ 1048576) :
    Calls Try.prog 67 #[.slice A n c] w fun e w' => ∃ g ts, e = .returned (.slice (some ⟨g, 0, none⟩) n n) ∧ mgs ts = mgs rs ∧ LogOwn w' w.heap.size (some ⟨g, 0, none⟩) n n ts ∧ Below w.heap.size w w' := by
  obtain ⟨i0, hi, hz0, hz1, hz2⟩ := info_parts Try.info_Message
  have HL := Lib.hid h.len
  go_enter Try.func67, Try.ntmps67
  go_wp2_with (at_make; refine wpList_make_full _ rfl _ _ 36 rfl w.heap.size 105 i0 (.agg #[.int .i64 0, .int .i64 0, .int .i64 0, .string ⟨#[]⟩, .int .i64 0, .bool false, .int .i64 0, .slice none 0 0]) 8 Try.underlying36 hi hz0 hz1 _ _ _ _ n rfl rfl rfl rfl (by rw [hz2]; omega) (by unfold maxLen; omega) (Nat.le_refl _) ?_; intro w1 hown1 hgrow1)
  have hbel1 : Below w.heap.size w w1 := (Below.refl _ _).grown hgrow1 (Nat.le_refl _) (by simp)
  clear hgrow1
  go_loopw [4] (fun i wr => ∃ (k : Nat) (ts : List Rm) (tail : List Value), k ≤ n ∧ i = .int .i64 k ∧ Hid (mgs ts = (mgs rs).take k) ∧ wr.ownsRow w.heap.size 105 8 (.slice (some ⟨w.heap.size, 0, none⟩) n n) n (ts.flatMap rmC ++ tail) ∧ LikesOwn wr w.heap.size ts ∧ Below w.heap.size w wr) (fun i _ => n - (intOf i).toNat)
  case atStart => exact ⟨0, [], _, by omega, rfl, Lib.hid (by simp [mgs]), hown1, LikesOwn.nil, hbel1⟩
  case round =>
    obtain ⟨k, ts, tail, hk, rfl, HM, hown, hlk, hbel⟩ := hrel
    clear hown1 hbel1
    by_cases hlt : k < n
    · obtain ⟨b, off, r, rfl, hb, hz, hr, c0, c1, c2, c3, c4, c5, c6, c7⟩ := h.atr hlt
      have hrl := hl r (List.mem_of_getElem? hz)
      have HZ := Lib.hid hz
      clear hz
      have HR := Lib.hid ((hr.below hbel).more hbel.size)
      clear hr
      have d0 := (hbel.cell (p := ⟨b, off + k * 8, none⟩) hb).trans c0
      have d1 := (hbel.cell (p := ⟨b, off + k * 8 + 1, none⟩) hb).trans c1
      have d2 := (hbel.cell (p := ⟨b, off + k * 8 + 2, none⟩) hb).trans c2
      have d3 := (hbel.cell (p := ⟨b, off + k * 8 + 3, none⟩) hb).trans c3
      have d4 := (hbel.cell (p := ⟨b, off + k * 8 + 4, none⟩) hb).trans c4
      have d5 := (hbel.cell (p := ⟨b, off + k * 8 + 5, none⟩) hb).trans c5
      have d6 := (hbel.cell (p := ⟨b, off + k * 8 + 6, none⟩) hb).trans c6
      have d7 := (hbel.cell (p := ⟨b, off + k * 8 + 7, none⟩) hb).trans c7
      have HO := Lib.hid hown
      have HK := Lib.hid hlk
      have hsz := hbel.size
      clear hown hlk c0 c1 c2 c3 c4 c5 c6 c7
      go_wp2_with fail
      go_at_call 126; refine (toMessage_any r _ HR.out hrl).mono ?_; rintro e w2 ⟨g, rfl, hg2, hb2⟩
      have hbel2 := hbel.trans (hb2.mono hsz)
      have hsz2 := hbel2.size
      have HO2 := Lib.hid (own_below HO.out hb2 (Nat.le_refl _))
      have HK2 := Lib.hid (HK.out.snoc (r := ⟨r.m, some ⟨g, 0, none⟩, r.ln, r.ln⟩) hb2 hg2 hsz)
      have HLT := Lib.hid (show ts.length = k by have e := congrArg List.length HM.out; rw [mgs_len] at e; rw [e, List.length_take, mgs_len]; have := HL.out; omega)
      have HN := Lib.hid (own_nextR (r := ⟨r.m, some ⟨g, 0, none⟩, r.ln, r.ln⟩) (#[.int .i64 r.m.num, .int .i64 r.m.sdr, .int .i64 r.m.tick, .string r.m.text, .int .i64 r.m.edits, .bool r.m.gone, .int .i64 r.m.reply, .slice (some ⟨g, 0, none⟩) r.ln r.ln] : Array Value).toList rfl HLT.out hlt HO2.out)
      have HT := Lib.hid (own_there HO2.out (k * 8) 8 (by omega))
      clear HO hb2 hg2 HK
      go_wp2_with (refine wpList_store_mid rfl 105 (.tmp 21) (.tmp 20) rfl w.heap.size (k * 8) #[.int .i64 r.m.num, .int .i64 r.m.sdr, .int .i64 r.m.tick, .string r.m.text, .int .i64 r.m.edits, .bool r.m.gone, .int .i64 r.m.reply, .slice (some ⟨g, 0, none⟩) r.ln r.ln] rfl rfl HT.out Try.size_Message (by simp [Value.oneCell']) ?_; have hst := HN.out; revert hst; generalize World.setCells _ _ _ _ = w3; intro hst)
      have hlk3 : LikesOwn w3 w.heap.size (ts ++ [⟨r.m, some ⟨g, 0, none⟩, r.ln, r.ln⟩]) := lc_grown HK2.out hst.2 (fun s hs => own_types2 (HK2.out.1 s hs) HO2.out (by decide))
      clear HK2 HO2
      go_roundw
      case rel => exact ⟨k + 1, _, tail.drop 8, by omega, by go_num, Lib.hid (by rw [take_get (mgs_at HZ.out), ← HM.out]; simp [mgs]), hst.1, hlk3, hbel2.grown hst.2 hsz2 (by simp)⟩
      case measure => simp [intOf]; omega
    · have hkn : k = n := by omega
      subst hkn
      have HE := Lib.hid (show mgs ts = mgs rs by rw [HM.out, List.take_of_length_le (by rw [mgs_len]; have := HL.out; omega)])
      have HO := Lib.hid (own_fullR (show ts.length = k by rw [← mgs_len, HE.out, mgs_len]; exact HL.out) hown)
      clear hown
      go_wp2
      go_ret
      exact ⟨_, ts, rfl, HE.out, ⟨HO.out, hlk⟩, hbel⟩
theorem szInt64S_ok (A : Option Addr) (n c : Nat) (l : Int) (w : World) (h : (n : Int) ≤ l) (hl : l ≤ 1048576) :
    Calls Try.prog 160 #[.slice A n c, .int .i64 l] w fun e w' => e = .returned (.int .i64 (l - n)) ∧ w = w' := by
  have h1 : ¬ (l - (n : Int) < 0) := by omega
  go_enter Try.func160, Try.ntmps160
  go_wp2
  go_ret
  exact ⟨rfl, rfl⟩
theorem szInt64S_no (A : Option Addr) (n c : Nat) (l : Int) (w : World) (h : l < (n : Int)) (hl : 0 ≤ l) (hn : (n : Int) ≤ 9223372036854775807) :
    Calls Try.prog 160 #[.slice A n c, .int .i64 l] w fun e w' => e = .returned (.int .i64 (-1)) ∧ w = w' := by
  go_enter Try.func160, Try.ntmps160
  go_wp2
  go_ret
  exact ⟨rfl, rfl⟩
theorem szMessage_ok (r : Rm) (l : Int) (w : World) (h : (r.m.text.size : Int) + r.ln ≤ l) (hl : l ≤ 1048576) :
    Calls Try.prog 124 #[.agg #[.int .i64 r.m.num, .int .i64 r.m.sdr, .int .i64 r.m.tick, .string r.m.text, .int .i64 r.m.edits, .bool r.m.gone, .int .i64 r.m.reply, .slice r.la r.ln r.lc], .int .i64 l] w fun e w' => e = .returned (.int .i64 (l - r.m.text.size - r.ln)) ∧ Below w.heap.size w w' := by
  have x1 : ¬ (l - (r.m.text.size : Int) < 0) := by omega
  have x2 : ¬ (l - (r.m.text.size : Int) - (r.ln : Int) < 0) := by omega
  go_enter Try.func124, Try.ntmps124
  go_wp2_with (go_at_call 160; refine (szInt64S_ok _ _ _ _ _ (by omega) (by omega)).mono ?_; rintro e w' ⟨rfl, rfl⟩)
  go_ret
  exact ⟨rfl, (Below.refl _ _).alloc (Nat.le_refl _) _⟩
theorem szMessage_no (r : Rm) (l : Int) (w : World) (h : l < (r.m.text.size : Int) + r.ln) (h0 : 0 ≤ l) (hl : l ≤ 1048576) (ht : (r.m.text.size : Int) ≤ 9223372036854775807) (hn : (r.ln : Int) ≤ 9223372036854775807) :
    Calls Try.prog 124 #[.agg #[.int .i64 r.m.num, .int .i64 r.m.sdr, .int .i64 r.m.tick, .string r.m.text, .int .i64 r.m.edits, .bool r.m.gone, .int .i64 r.m.reply, .slice r.la r.ln r.lc], .int .i64 l] w fun e w' => e = .returned (.int .i64 (-1)) ∧ Below w.heap.size w w' := by
  by_cases x1 : (r.m.text.size : Int) ≤ l
  · have y1 : ¬ (l - (r.m.text.size : Int) < 0) := by omega
    go_enter Try.func124, Try.ntmps124
    go_wp2_with (go_at_call 160; refine (szInt64S_no _ _ _ _ _ (by omega) (by omega) hn).mono ?_; rintro e w' ⟨rfl, rfl⟩)
    go_ret
    exact ⟨rfl, (Below.refl _ _).alloc (Nat.le_refl _) _⟩
  · have y1 : l - (r.m.text.size : Int) < 0 := by omega
    go_enter Try.func124, Try.ntmps124
    go_wp2
    go_ret
    exact ⟨rfl, (Below.refl _ _).alloc (Nat.le_refl _) _⟩
def rmSz (r : Rm) : Nat := r.m.text.size + r.ln
def szTo (rs : List Rm) (k : Nat) : Nat := ((rs.take k).map rmSz).sum
theorem szTo_zero (rs : List Rm) : szTo rs 0 = 0 := by simp [szTo]
theorem szTo_succ {rs : List Rm} {k : Nat} {r : Rm} (h : rs[k]? = some r) : szTo rs (k + 1) = szTo rs k + (r.m.text.size + r.ln) := by
  unfold szTo
  rw [List.take_add_one, h]
  simp [rmSz]
theorem szTo_le (rs : List Rm) (k : Nat) : szTo rs k ≤ szTo rs rs.length := by
  unfold szTo
  rw [List.take_length]
  conv => rhs; rw [← List.take_append_drop k rs]
  rw [List.map_append, List.sum_append]
  omega
def logSize (rs : List Rm) : Nat := rs.length + szTo rs rs.length
set_option maxHeartbeats 800000 in
theorem szMessageS_ok (A : Option Addr) (n c : Nat) (rs : List Rm) (l : Int) (w : World) (hA : LogAt w w.heap.size A n rs) (h : (logSize rs : Int) ≤ l) (hl : l ≤ 1048576) :
    Calls Try.prog 64 #[.slice A n c, .int .i64 l] w fun e w' => e = .returned (.int .i64 (l - logSize rs)) ∧ Below w.heap.size w w' := by
  have HL := Lib.hid hA.len
  have HS := Lib.hid (show (n : Int) + (szTo rs n : Int) ≤ l by have := HL.out; unfold logSize at h; subst this; omega)
  have HE := Lib.hid (show (logSize rs : Int) = (n : Int) + (szTo rs n : Int) by have := HL.out; unfold logSize; subst this; omega)
  have h1 : ¬ (l - (n : Int) < 0) := by have := HS.out; omega
  clear h
  go_enter Try.func64, Try.ntmps64
  go_wp2
  go_loopw [1, 5] (fun q i wr => ∃ (k : Nat) (z : Int), k ≤ n ∧ i = .int .i64 k ∧ q = .int .i64 z ∧ 0 ≤ z ∧ z ≤ 1048576 ∧ Hid (z = l - n - (szTo rs k : Int)) ∧ Below w.heap.size w wr) (fun _ i _ => n - (intOf i).toNat)
  case atStart => exact ⟨0, _, by omega, rfl, rfl, by have := HS.out; omega, by omega, Lib.hid (by rw [szTo_zero]; simp), Below.refl _ _⟩
  case round =>
    obtain ⟨k, z, hk, rfl, rfl, hz0, hz1, HZ, hbel⟩ := hrel
    by_cases hlt : k < n
    · obtain ⟨b, off, r, rfl, hb, hz, hr, c0, c1, c2, c3, c4, c5, c6, c7⟩ := hA.atr hlt
      have HT := Lib.hid (szTo_succ hz)
      have HM := Lib.hid (show szTo rs (k + 1) ≤ szTo rs n by have := szTo_le rs (k + 1); rwa [HL.out] at this)
      have hf : (r.m.text.size : Int) + r.ln ≤ z := by have := HZ.out; have := HT.out; have := HM.out; have := HS.out; omega
      have x1 : ¬ (z - (r.m.text.size : Int) - (r.ln : Int) < 0) := by omega
      clear hz hr
      have d0 := (hbel.cell (p := ⟨b, off + k * 8, none⟩) hb).trans c0
      have d1 := (hbel.cell (p := ⟨b, off + k * 8 + 1, none⟩) hb).trans c1
      have d2 := (hbel.cell (p := ⟨b, off + k * 8 + 2, none⟩) hb).trans c2
      have d3 := (hbel.cell (p := ⟨b, off + k * 8 + 3, none⟩) hb).trans c3
      have d4 := (hbel.cell (p := ⟨b, off + k * 8 + 4, none⟩) hb).trans c4
      have d5 := (hbel.cell (p := ⟨b, off + k * 8 + 5, none⟩) hb).trans c5
      have d6 := (hbel.cell (p := ⟨b, off + k * 8 + 6, none⟩) hb).trans c6
      have d7 := (hbel.cell (p := ⟨b, off + k * 8 + 7, none⟩) hb).trans c7
      have hbs := hbel.size
      clear c0 c1 c2 c3 c4 c5 c6 c7 hA
      go_wp2_with fail
      go_at_call 124; refine (szMessage_ok r z _ hf hz1).mono ?_; rintro e w2 ⟨rfl, hb2⟩
      have hbel2 := hbel.trans (hb2.mono hbs)
      clear hb2 hbel
      go_wp2
      go_roundw
      case rel => exact ⟨k + 1, _, by omega, by go_num, rfl, by omega, by omega, Lib.hid (by have := HZ.out; have := HT.out; omega), hbel2⟩
      case measure => simp [intOf]; omega
    · have hkn : k = n := by omega
      subst hkn
      go_wp2
      go_ret
      exact ⟨ret_int (by have := HZ.out; have := HE.out; omega), hbel⟩
set_option maxHeartbeats 800000 in
theorem szMessageS_no (A : Option Addr) (n c : Nat) (rs : List Rm) (l : Int) (w : World) (hA : LogAt w w.heap.size A n rs) (h : l < (logSize rs : Int)) (h0 : 0 ≤ l) (hl : l ≤ 1048576) (hn : (n : Int) ≤ 9223372036854775807) (hm : ∀ r ∈ rs, r.ln ≤ maxLen ∧ r.m.text.size ≤ maxLen) :
    Calls Try.prog 64 #[.slice A n c, .int .i64 l] w fun e w' => e = .returned (.int .i64 (-1)) ∧ Below w.heap.size w w' := by
  have HL := Lib.hid hA.len
  by_cases hnl : (n : Int) ≤ l
  · have HS := Lib.hid (show l < (n : Int) + (szTo rs n : Int) by have := HL.out; unfold logSize at h; subst this; omega)
    have h1 : ¬ (l - (n : Int) < 0) := by omega
    clear h
    go_enter Try.func64, Try.ntmps64
    go_wp2
    go_loopw [1, 5] (fun q i wr => ∃ (k : Nat) (z : Int), k ≤ n ∧ i = .int .i64 k ∧ q = .int .i64 z ∧ 0 ≤ z ∧ z ≤ 1048576 ∧ Hid (z = l - n - (szTo rs k : Int)) ∧ Below w.heap.size w wr) (fun _ i _ => n - (intOf i).toNat)
    case atStart => exact ⟨0, _, by omega, rfl, rfl, by omega, by omega, Lib.hid (by rw [szTo_zero]; simp), Below.refl _ _⟩
    case round =>
      obtain ⟨k, z, hk, rfl, rfl, hz0, hz1, HZ, hbel⟩ := hrel
      by_cases hlt : k < n
      · obtain ⟨b, off, r, rfl, hb, hz, hr, c0, c1, c2, c3, c4, c5, c6, c7⟩ := hA.atr hlt
        have HT := Lib.hid (szTo_succ hz)
        have hM := hm r (List.mem_of_getElem? hz)
        have hm1 : (r.ln : Int) ≤ 9223372036854775807 := by have := hM.1; unfold maxLen at this; omega
        have hm2 : (r.m.text.size : Int) ≤ 9223372036854775807 := by have := hM.2; unfold maxLen at this; omega
        clear hz hr hM
        have d0 := (hbel.cell (p := ⟨b, off + k * 8, none⟩) hb).trans c0
        have d1 := (hbel.cell (p := ⟨b, off + k * 8 + 1, none⟩) hb).trans c1
        have d2 := (hbel.cell (p := ⟨b, off + k * 8 + 2, none⟩) hb).trans c2
        have d3 := (hbel.cell (p := ⟨b, off + k * 8 + 3, none⟩) hb).trans c3
        have d4 := (hbel.cell (p := ⟨b, off + k * 8 + 4, none⟩) hb).trans c4
        have d5 := (hbel.cell (p := ⟨b, off + k * 8 + 5, none⟩) hb).trans c5
        have d6 := (hbel.cell (p := ⟨b, off + k * 8 + 6, none⟩) hb).trans c6
        have d7 := (hbel.cell (p := ⟨b, off + k * 8 + 7, none⟩) hb).trans c7
        have hbs := hbel.size
        clear c0 c1 c2 c3 c4 c5 c6 c7 hA
        by_cases hf : (r.m.text.size : Int) + r.ln ≤ z
        · have x1 : ¬ (z - (r.m.text.size : Int) - (r.ln : Int) < 0) := by omega
          go_wp2_with fail
          go_at_call 124; refine (szMessage_ok r z _ hf hz1).mono ?_; rintro e w2 ⟨rfl, hb2⟩
          have hbel2 := hbel.trans (hb2.mono hbs)
          clear hb2 hbel
          go_wp2
          go_roundw
          case rel => exact ⟨k + 1, _, by omega, by go_num, rfl, by omega, by omega, Lib.hid (by have := HZ.out; have := HT.out; omega), hbel2⟩
          case measure => simp [intOf]; omega
        · go_wp2_with fail
          go_at_call 124; refine (szMessage_no r z _ (by omega) hz0 hz1 hm2 hm1).mono ?_; rintro e w2 ⟨rfl, hb2⟩
          have hbel2 := hbel.trans (hb2.mono hbs)
          clear hb2 hbel
          go_wp2
          go_ret
          exact ⟨rfl, hbel2⟩
      · exfalso
        have hkn : k = n := by omega
        subst hkn
        have := HZ.out; have := HS.out
        omega
  · clear h
    have h1 : l - (n : Int) < 0 := by omega
    go_enter Try.func64, Try.ntmps64
    go_wp2
    go_ret
    exact ⟨rfl, Below.refl _ _⟩
theorem szLog_ok (x : Int) (A : Option Addr) (n c : Nat) (rs : List Rm) (l : Int) (w : World) (hA : LogAt w w.heap.size A n rs) (h : (logSize rs : Int) ≤ l) (hl : l ≤ 1048576) :
    Calls Try.prog 19 #[.agg #[.int .i64 x, .slice A n c], .int .i64 l] w fun e w' => e = .returned (.int .i64 (l - logSize rs)) ∧ Below w.heap.size w w' := by
  have x1 : ¬ (l - (logSize rs : Int) < 0) := by omega
  go_enter Try.func19, Try.ntmps19
  go_wp2_with fail
  obtain ⟨k0, hb0⟩ := one_box w 33 #[.int .i64 x, .slice A n c]
  generalize w.alloc (.cells #[.int .i64 x, .slice A n c] 33) = W at *
  go_at_call 64; refine (szMessageS_ok _ _ _ _ _ _ (hA.to hb0) h hl).mono ?_; rintro e w2 ⟨rfl, hb2⟩
  have hb0 := hb0.trans (hb2.mono hb0.size)
  go_wp2
  go_ret
  exact ⟨rfl, hb0⟩
theorem szLog_no (x : Int) (A : Option Addr) (n c : Nat) (rs : List Rm) (l : Int) (w : World) (hA : LogAt w w.heap.size A n rs) (h : l < (logSize rs : Int)) (h0 : 0 ≤ l) (hl : l ≤ 1048576) (hn : (n : Int) ≤ 9223372036854775807) (hm : ∀ r ∈ rs, r.ln ≤ maxLen ∧ r.m.text.size ≤ maxLen) :
    Calls Try.prog 19 #[.agg #[.int .i64 x, .slice A n c], .int .i64 l] w fun e w' => e = .returned (.int .i64 (-1)) ∧ Below w.heap.size w w' := by
  go_enter Try.func19, Try.ntmps19
  go_wp2_with fail
  obtain ⟨k0, hb0⟩ := one_box w 33 #[.int .i64 x, .slice A n c]
  generalize w.alloc (.cells #[.int .i64 x, .slice A n c] 33) = W at *
  go_at_call 64; refine (szMessageS_no _ _ _ _ _ _ (hA.to hb0) h h0 hl hn hm).mono ?_; rintro e w2 ⟨rfl, hb2⟩
  have hb0 := hb0.trans (hb2.mono hb0.size)
  go_wp2
  go_ret
  exact ⟨rfl, hb0⟩
theorem log_small {rs : List Rm} (h : logSize rs ≤ 1048576) : rs.length ≤ 1048576 ∧ ∀ r ∈ rs, r.ln ≤ 1048576 ∧ r.m.text.size ≤ 1048576 := by
  refine ⟨by unfold logSize at h; omega, fun r hr => ?_⟩
  obtain ⟨k, hk⟩ := List.mem_iff_getElem?.1 hr
  have h1 := szTo_succ hk
  have h2 := szTo_le rs (k + 1)
  unfold logSize at h
  omega
theorem fit_of {w : World} {n B : Nat} {A : Option Addr} {rs : List Rm} (h : LogAt w B A n rs) (hs : logSize rs ≤ 1048576) : fitL (mgs rs) := by
  obtain ⟨h1, h2⟩ := log_small hs
  refine ⟨by rw [mgs_len]; exact h1, fun m hm => ?_⟩
  obtain ⟨r, hr, rfl⟩ := List.mem_map.1 hm
  have := h2 r hr
  have := (h.2 r hr).1
  omega
/-- toLog: messages of one's own, the same -/
def LogNew (x : Int) (rs : List Rm) (n : Nat) (w : World) (e : Ending) (w' : World) : Prop := ∃ g ts, e = .returned (.agg #[.int .i64 x, .slice (some ⟨g, 0, none⟩) n n]) ∧ mgs ts = mgs rs ∧ LogOwn w' w.heap.size (some ⟨g, 0, none⟩) n n ts ∧ Below w.heap.size w w'
set_option maxHeartbeats 800000 in
theorem toLog_any (x : Int) (A : Option Addr) (n c : Nat) (rs : List Rm) (w : World) (h : LogAt w w.heap.size A n rs) (hs : logSize rs ≤ 1048576) :
    Calls Try.prog 21 #[.agg #[.int .i64 x, .slice A n c]] w (LogNew x rs n w) := by
  have HS := Lib.hid (log_small hs)
  have hn : n ≤ 1048576 := by have := HS.out.1; have := h.len; omega
  go_enter Try.func21, Try.ntmps21
  go_wp2_with fail
  obtain ⟨k0, k1, k2, hb0⟩ := three_boxes w 33 38 38 #[.int .i64 x, .slice A n c] #[.int .i64 0, .slice none 0 0] #[.int .i64 x, .slice none 0 0]
  generalize (((w.alloc (.cells #[.int .i64 x, .slice A n c] 33)).alloc (.cells #[.int .i64 0, .slice none 0 0] 38)).alloc (.cells #[.int .i64 x, .slice none 0 0] 38)) = W at *
  have hl2 := k2.lt
  have hbW := hb0.size
  go_at_call 67; refine (toMessageS_any _ _ _ _ _ (h.to hb0) hn (fun r hr => (HS.out.2 r hr).1)).mono ?_; rintro e w1 ⟨g, ts, rfl, hts, ho1, hb1⟩
  have HTS := Lib.hid hts
  have k1 := k1.below hb1 (by omega)
  have k2 := k2.below hb1 (by omega)
  have hbA := hb0.trans (hb1.mono hb0.size)
  have l0 := k2.cell 0; have l1 := k2.cell 1
  have lf := k2.frozen 1
  have r0 := k1.cell 0; have r1 := k1.cell 1
  have f0 := k1.frozen 0; have f1 := k1.frozen 1
  clear hb1 hb0 h k0 hts
  go_wp2
  refine bodyPost_ret (v := .agg #[.int .i64 x, .slice (some ⟨g, 0, none⟩) n n]) (by simp [results, Try.results21, go_sem, r0, r1]) rfl ⟨g, ts, rfl, HTS.out, ?_, ?_⟩
  · exact ((ho1.set_ (a := ⟨w.heap.size + 1 + 1, 1, none⟩) hl2 _).sets [(0, _), (1, _)] (g := w.heap.size + 1) (by omega)).mono hbW
  · exact below_sets [(0, _), (1, _)] (hbA.setCell (p := ⟨w.heap.size + 1 + 1, 1, none⟩) (by simp; omega) _) (g := w.heap.size + 1) (by omega)
theorem row_len {xs : List Int} {w : World} {B n : Nat} {A : Option Addr} (h : Row i64v w B A n xs) : xs.length = n := h.1
set_option maxHeartbeats 800000 in
theorem eqMessage_same (m : Mg) (la la' : Option Addr) (ln lc ln' lc' : Nat) (w : World) (h : Row i64v w w.heap.size la ln m.likes) (h' : Row i64v w w.heap.size la' ln' m.likes) (hn : ln ≤ 1048576) :
    Calls Try.prog 128 #[.agg #[.int .i64 m.num, .int .i64 m.sdr, .int .i64 m.tick, .string m.text, .int .i64 m.edits, .bool m.gone, .int .i64 m.reply, .slice la ln lc], .agg #[.int .i64 m.num, .int .i64 m.sdr, .int .i64 m.tick, .string m.text, .int .i64 m.edits, .bool m.gone, .int .i64 m.reply, .slice la' ln' lc']] w fun e w' => e = .returned (.bool true) ∧ Below w.heap.size w w' := by
  obtain rfl : ln = ln' := by rw [← h.1, ← h'.1]
  go_enter Try.func128, Try.ntmps128
  go_wp2_with fail
  obtain ⟨k0, k1, hb0⟩ := two_boxes w 105 105 #[.int .i64 m.num, .int .i64 m.sdr, .int .i64 m.tick, .string m.text, .int .i64 m.edits, .bool m.gone, .int .i64 m.reply, .slice la ln lc] #[.int .i64 m.num, .int .i64 m.sdr, .int .i64 m.tick, .string m.text, .int .i64 m.edits, .bool m.gone, .int .i64 m.reply, .slice la' ln lc']
  generalize ((w.alloc (.cells #[.int .i64 m.num, .int .i64 m.sdr, .int .i64 m.tick, .string m.text, .int .i64 m.edits, .bool m.gone, .int .i64 m.reply, .slice la ln lc] 105)).alloc (.cells #[.int .i64 m.num, .int .i64 m.sdr, .int .i64 m.tick, .string m.text, .int .i64 m.edits, .bool m.gone, .int .i64 m.reply, .slice la' ln lc'] 105)) = W at *
  go_at_call 36; refine (eqInt64S_same _ _ _ _ _ _ _ _ _ (h.to hb0) (h'.to hb0) (by omega)).mono ?_; rintro e w2 ⟨rfl, q, rfl⟩
  go_wp2
  go_ret
  exact ⟨rfl, hb0.trans (Below.mono (drew_below ⟨q, rfl⟩) hb0.size)⟩
set_option maxHeartbeats 1600000 in
theorem eqMessageS_same (A A' : Option Addr) (n c n' c' : Nat) (rs ts : List Rm) (w : World) (h : LogAt w w.heap.size A n rs) (h' : LogAt w w.heap.size A' n' ts) (he : mgs rs = mgs ts) (hf : fitL (mgs rs)) :
    Calls Try.prog 71 #[.slice A n c, .slice A' n' c'] w fun e w' => e = .returned (.bool true) ∧ Below w.heap.size w w' := by
  obtain rfl : n' = n := by rw [← h.len, ← h'.len, ← mgs_len, ← mgs_len, he]
  have HE := Lib.hid he
  have hn := fit_n h hf
  have HF := Lib.hid hf
  clear he hf
  go_enter Try.func71, Try.ntmps71
  go_wp2
  go_loopw [5] (fun i wr => ∃ k : Nat, k ≤ n' ∧ i = .int .i64 k ∧ Below w.heap.size w wr) (fun i _ => n' - (intOf i).toNat)
  case atStart => exact ⟨0, by omega, rfl, Below.refl _ _⟩
  case round =>
    obtain ⟨k, hk, rfl, hbel⟩ := hrel
    by_cases hlt : k < n'
    · obtain ⟨b, off, ⟨m, la, ln, lc⟩, rfl, hb, hz, hr, c0, c1, c2, c3, c4, c5, c6, c7⟩ := h.atr hlt
      obtain ⟨b', off', ⟨m', la', ln', lc'⟩, rfl, hb', hz', hr', e0, e1, e2, e3, e4, e5, e6, e7⟩ := h'.atr hlt
      have hrn := (fit_ln h.2 HF.out (List.mem_of_getElem? hz)).1
      have hmm : m = m' := by
        have a := mgs_at hz; have b := mgs_at hz'
        rw [HE.out] at a; rw [a] at b; injection b
      subst hmm
      clear hz hz'
      dsimp only at *
      have HR := Lib.hid (show Row i64v wr.drew wr.drew.heap.size la ln m.likes from (hr.below hbel).more hbel.size)
      have HR' := Lib.hid (show Row i64v wr.drew wr.drew.heap.size la' ln' m.likes from (hr'.below hbel).more hbel.size)
      clear hr hr'
      have d0 := (hbel.cell (p := ⟨b, off + k * 8, none⟩) hb).trans c0
      have f0 := (hbel.cell (p := ⟨b', off' + k * 8, none⟩) hb').trans e0
      have d1 := (hbel.cell (p := ⟨b, off + k * 8 + 1, none⟩) hb).trans c1
      have f1 := (hbel.cell (p := ⟨b', off' + k * 8 + 1, none⟩) hb').trans e1
      have d2 := (hbel.cell (p := ⟨b, off + k * 8 + 2, none⟩) hb).trans c2
      have f2 := (hbel.cell (p := ⟨b', off' + k * 8 + 2, none⟩) hb').trans e2
      have d3 := (hbel.cell (p := ⟨b, off + k * 8 + 3, none⟩) hb).trans c3
      have f3 := (hbel.cell (p := ⟨b', off' + k * 8 + 3, none⟩) hb').trans e3
      have d4 := (hbel.cell (p := ⟨b, off + k * 8 + 4, none⟩) hb).trans c4
      have f4 := (hbel.cell (p := ⟨b', off' + k * 8 + 4, none⟩) hb').trans e4
      have d5 := (hbel.cell (p := ⟨b, off + k * 8 + 5, none⟩) hb).trans c5
      have f5 := (hbel.cell (p := ⟨b', off' + k * 8 + 5, none⟩) hb').trans e5
      have d6 := (hbel.cell (p := ⟨b, off + k * 8 + 6, none⟩) hb).trans c6
      have f6 := (hbel.cell (p := ⟨b', off' + k * 8 + 6, none⟩) hb').trans e6
      have d7 := (hbel.cell (p := ⟨b, off + k * 8 + 7, none⟩) hb).trans c7
      have f7 := (hbel.cell (p := ⟨b', off' + k * 8 + 7, none⟩) hb').trans e7
      have hbs := hbel.size
      have hp : (0 : Int) ≤ (k : Int) := by omega
      have hq : (k : Int) < (n' : Int) := by omega
      clear c0 c1 c2 c3 c4 c5 c6 c7 e0 e1 e2 e3 e4 e5 e6 e7 h h'
      go_wp2_with fail
      go_still_tail 8, (by kernel_rfl)
      go_wp2_with (go_at_call 128; refine (eqMessage_same m la la' ln lc ln' lc' _ HR.out HR'.out hrn).mono ?_; rintro e w4 ⟨rfl, hb4⟩)
      have hbel4 : Below w.heap.size w w4 := hbel.drew.trans (hb4.mono hbs)
      clear hbel hb4
      go_roundw
      case rel => exact ⟨k + 1, by omega, by go_num, hbel4⟩
      case measure => simp [intOf]; omega
    · have hkn : k = n' := by omega
      subst hkn
      go_wp2
      go_ret
      exact ⟨rfl, hbel⟩
theorem eqLog_same (x : Int) (A A' : Option Addr) (n c n' c' : Nat) (rs ts : List Rm) (w : World) (h : LogAt w w.heap.size A n rs) (h' : LogAt w w.heap.size A' n' ts) (he : mgs rs = mgs ts) (hf : fitL (mgs rs)) :
    Calls Try.prog 23 #[.agg #[.int .i64 x, .slice A n c], .agg #[.int .i64 x, .slice A' n' c']] w fun e w' => e = .returned (.bool true) ∧ Below w.heap.size w w' := by
  go_enter Try.func23, Try.ntmps23
  go_wp2_with fail
  obtain ⟨k0, k1, hb0⟩ := two_boxes w 38 38 #[.int .i64 x, .slice A n c] #[.int .i64 x, .slice A' n' c']
  generalize ((w.alloc (.cells #[.int .i64 x, .slice A n c] 38)).alloc (.cells #[.int .i64 x, .slice A' n' c'] 38)) = W at *
  go_at_call 71; refine (eqMessageS_same _ _ _ _ _ _ _ _ _ (h.to hb0) (h'.to hb0) he hf).mono ?_; rintro e w2 ⟨rfl, hb2⟩
  have hb0 := hb0.trans (hb2.mono hb0.size)
  go_wp2
  go_ret
  exact ⟨rfl, hb0⟩
end Go.Proofs.Ytdpclbmcmgknjaa
