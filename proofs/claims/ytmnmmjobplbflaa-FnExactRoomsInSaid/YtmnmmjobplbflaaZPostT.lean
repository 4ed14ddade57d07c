import Derived.Test.YtmnmmjobplbflaaChecked
import Derived.WalkKit
import Derived.ProofKit
import Derived.OpenShut
import Derived.ShutString
import Derived.ChangeOld
import Derived.Below
import Derived.Lib.Hide
import Derived.Deep.MidRow
import Derived.StillTailTactics
import Derived.Test.YtmnmmjobplbflaaZPostR
import Derived.Test.YtmnmmjobplbflaaZMsgT
import Derived.Test.YtmnmmjobplbflaaZEqP
import Derived.Test.YtmnmmjobplbflaaZMkP
namespace Go.Proofs.Ytmnmmjobplbflaa
open Go.ChangeShapes Go.WideShapes Go.ChangeAt Go.RowKit
open Go.ChangeMaps (open_string shut_string)
set_option linter.unusedVariables false
set_option maxRecDepth 100000
theorem PostOwn.set_ {w : World} {base n c : Nat} {A : Option Addr} {rs : List Rb} (h : PostOwn w base A n c rs) {a : Addr} (ha : a.block < base) (u : Value) : PostOwn (w.setCell a u) base A n c rs :=
  ⟨ownsRow_setCell_below h.1 ha u, fun r hr => ownsRow_setCell_below (h.2.1 r hr) ha u, h.2.2⟩
theorem PostOwn.sets {base n c g : Nat} {A : Option Addr} {rs : List Rb} : ∀ (us : List (Nat × Value)) {w : World}, PostOwn w base A n c rs → g < base → PostOwn (us.foldl (fun w u => w.setCell ⟨g, u.1, none⟩ u.2) w) base A n c rs
  | [], _, h, _ => h
  | u :: us, _, h, hg => PostOwn.sets us (h.set_ (a := ⟨g, u.1, none⟩) hg u.2) hg
set_option maxHeartbeats 800000 in
theorem toBox_any (r : Rb) (w : World) (h : SRow 2 bnC w w.heap.size r.la r.ln r.b.held) (hn : r.ln ≤ 1048576) :
    Calls Try.prog 58 #[.agg #[.string r.b.tok, .int .i64 r.b.mem, .int .i64 r.b.mis, .slice r.la r.ln r.lc]] w fun e w' => ∃ g, e = .returned (.agg #[.string r.b.tok, .int .i64 r.b.mem, .int .i64 r.b.mis, .slice (some ⟨g, 0, none⟩) r.ln r.ln]) ∧ w'.ownsRow w.heap.size 74 2 (.slice (some ⟨g, 0, none⟩) r.ln r.ln) r.ln (r.b.held.flatMap bnC) ∧ Below w.heap.size w w' := by
  go_enter Try.func58, Try.ntmps58
  go_wp2_with fail
  obtain ⟨k0, k1, k2, hb0⟩ := three_boxes w 81 62 62 #[.string r.b.tok, .int .i64 r.b.mem, .int .i64 r.b.mis, .slice r.la r.ln r.lc] #[.string ⟨#[]⟩, .int .i64 0, .int .i64 0, .slice none 0 0] #[.string r.b.tok, .int .i64 r.b.mem, .int .i64 r.b.mis, .slice none 0 0]
  generalize (((w.alloc (.cells #[.string r.b.tok, .int .i64 r.b.mem, .int .i64 r.b.mis, .slice r.la r.ln r.lc] 81)).alloc (.cells #[.string ⟨#[]⟩, .int .i64 0, .int .i64 0, .slice none 0 0] 62)).alloc (.cells #[.string r.b.tok, .int .i64 r.b.mem, .int .i64 r.b.mis, .slice none 0 0] 62)) = W at *
  have hl2 := k2.lt
  have hbW := hb0.size
  go_at_call 27; refine (toParcelS_any _ _ _ _ _ (h.to hb0) hn).mono ?_; rintro e w1 ⟨g, rfl, ho1, hb1⟩
  have k1 := k1.below hb1 (by omega)
  have k2 := k2.below hb1 (by omega)
  have hbA := hb0.trans (hb1.mono hb0.size)
  have q1 : w.heap.size + 1 + 1 < W.heap.size := hl2
  have l0 := k2.cell 0; have l1 := k2.cell 1; have l2 := k2.cell 2; have l3 := k2.cell 3
  have lf := k2.frozen 3
  have r0 := k1.cell 0; have r1 := k1.cell 1; have r2 := k1.cell 2; have r3 := k1.cell 3
  have f0 := k1.frozen 0; have f1 := k1.frozen 1; have f2 := k1.frozen 2; have f3 := k1.frozen 3
  clear hb1 hb0 h k0
  go_wp2
  refine bodyPost_ret (v := .agg #[.string r.b.tok, .int .i64 r.b.mem, .int .i64 r.b.mis, .slice (some ⟨g, 0, none⟩) r.ln r.ln]) (by simp [results, Try.results58, go_sem, r0, r1, r2, r3]) rfl ⟨g, rfl, ?_, ?_⟩
  · exact World.ownsRow.mono (own_sets [(0, _), (1, _), (2, _), (3, _)] (ownsRow_setCell_below ho1 (a := ⟨w.heap.size + 1 + 1, 3, none⟩) q1 _) (g := w.heap.size + 1) (by omega)) hbW
  · exact below_sets [(0, _), (1, _), (2, _), (3, _)] (hbA.setCell (p := ⟨w.heap.size + 1 + 1, 3, none⟩) (by simp; omega) _) (g := w.heap.size + 1) (by omega)
theorem Try.info_Box : (Try.prog.info? 62).map (fun i => (i.zero, i.size, i.bytes)) = some (some (.agg #[.string ⟨#[]⟩, .int .i64 0, .int .i64 0, .slice none 0 0]), 4, 56) := by kernel_rfl
theorem Try.size_Box : (Try.prog.info? 62).map (·.size) = some 4 := by kernel_rfl
/-- the same messages, whose likes lie elsewhere -/
theorem held_len {rs : List Rb} {w : World} {B : Nat} (h : HeldAt w B rs) {r : Rb} (hr : r ∈ rs) : r.b.held.length = r.ln := (h r hr).1
theorem own_nextB {w : World} {base e n cap g k : Nat} {ts : List Rb} {r : Rb} {tail : List Value} (vs : List Value) (hvs : vs = rbC r) (hl : ts.length = k) (hk : k < n) (h : w.ownsRow base e 4 (.slice (some ⟨g, 0, none⟩) n cap) n (ts.flatMap rbC ++ tail)) :
    (w.setCells g (k * 4) vs).ownsRow base e 4 (.slice (some ⟨g, 0, none⟩) n cap) n ((ts ++ [r]).flatMap rbC ++ tail.drop 4) ∧ w.grownBy (w.setCells g (k * 4) vs) (some g) := by
  subst hvs
  have hp : (ts.flatMap rbC).length = k * 4 := by rw [flat_len rbC_len, hl]
  have hlen := h.1
  rw [List.length_append, hp] at hlen
  have := own_setCells (rbC r) (k * 4) w (ts.flatMap rbC) tail h hp (by rw [rbC_len]; omega)
  rw [rbC_len] at this
  refine ⟨?_, this.2⟩
  have h1 := this.1
  rw [← List.append_assoc] at h1
  simpa using h1
theorem own_fullB {w : World} {base e n cap g : Nat} {ts : List Rb} {tail : List Value} (hn : ts.length = n) (h : w.ownsRow base e 4 (.slice (some ⟨g, 0, none⟩) n cap) n (ts.flatMap rbC ++ tail)) : w.ownsRow base e 4 (.slice (some ⟨g, 0, none⟩) n cap) n (ts.flatMap rbC) := by
  have hl := h.1
  rw [List.length_append, flat_len rbC_len, hn] at hl
  have : tail = [] := List.eq_nil_of_length_eq_zero (by omega)
  subst this
  rw [List.append_nil] at h
  exact h
set_option maxHeartbeats 1600000 in
theorem toBoxS_any (A : Option Addr) (n c : Nat) (rs : List Rb) (w : World) (h : PostAt w w.heap.size A n rs) (hn : n ≤ 1048576) (hl : ∀ r ∈ rs, r.ln ≤ 1048576) :
    Calls Try.prog 38 #[.slice A n c] w fun e w' => ∃ g ts, e = .returned (.slice (some ⟨g, 0, none⟩) n n) ∧ bxs ts = bxs rs ∧ PostOwn w' w.heap.size (some ⟨g, 0, none⟩) n n ts ∧ Below w.heap.size w w' := by
  obtain ⟨i0, hi, hz0, hz1, hz2⟩ := info_parts Try.info_Box
  have HL := Lib.hid h.len
  go_enter Try.func38, Try.ntmps38
  go_wp2_with (at_make; refine wpList_make_full _ rfl _ _ 27 rfl w.heap.size 62 i0 (.agg #[.string ⟨#[]⟩, .int .i64 0, .int .i64 0, .slice none 0 0]) 4 Try.underlying27 hi hz0 hz1 _ _ _ _ n rfl rfl rfl rfl (by rw [hz2]; omega) (by unfold maxLen; omega) (Nat.le_refl _) ?_; intro w1 hown1 hgrow1)
  have hbel1 : Below w.heap.size w w1 := (Below.refl _ _).grown hgrow1 (Nat.le_refl _) (by simp)
  clear hgrow1
  go_loopw [4] (fun i wr => ∃ (k : Nat) (ts : List Rb) (tail : List Value), k ≤ n ∧ i = .int .i64 k ∧ Hid (bxs ts = (bxs rs).take k) ∧ wr.ownsRow w.heap.size 62 4 (.slice (some ⟨w.heap.size, 0, none⟩) n n) n (ts.flatMap rbC ++ tail) ∧ HeldOwn wr w.heap.size ts ∧ Below w.heap.size w wr) (fun i _ => n - (intOf i).toNat)
  case atStart => exact ⟨0, [], _, by omega, rfl, Lib.hid (by simp [bxs]), hown1, HeldOwn.nil, hbel1⟩
  case round =>
    obtain ⟨k, ts, tail, hk, rfl, HM, hown, hlk, hbel⟩ := hrel
    clear hown1 hbel1
    by_cases hlt : k < n
    · obtain ⟨b, off, r, rfl, hb, hz, hr, c0, c1, c2, c3⟩ := h.atr hlt
      have hrl := hl r (List.mem_of_getElem? hz)
      have HZ := Lib.hid hz
      clear hz
      have HR := Lib.hid ((hr.below hbel).more hbel.size)
      clear hr
      have d0 := (hbel.cell (p := ⟨b, off + k * 4, none⟩) hb).trans c0
      have d1 := (hbel.cell (p := ⟨b, off + k * 4 + 1, none⟩) hb).trans c1
      have d2 := (hbel.cell (p := ⟨b, off + k * 4 + 2, none⟩) hb).trans c2
      have d3 := (hbel.cell (p := ⟨b, off + k * 4 + 3, none⟩) hb).trans c3
      have HO := Lib.hid hown
      have HK := Lib.hid hlk
      have hsz := hbel.size
      clear hown hlk c0 c1 c2 c3
      go_wp2_with fail
      go_at_call 58; refine (toBox_any r _ HR.out hrl).mono ?_; rintro e w2 ⟨g, rfl, hg2, hb2⟩
      have hbel2 := hbel.trans (hb2.mono hsz)
      have hsz2 := hbel2.size
      have HO2 := Lib.hid (own_below HO.out hb2 (Nat.le_refl _))
      have HK2 := Lib.hid (HK.out.snoc (r := ⟨r.b, some ⟨g, 0, none⟩, r.ln, r.ln⟩) hb2 hg2 hsz)
      have HLT := Lib.hid (show ts.length = k by have e := congrArg List.length HM.out; rw [bxs_len] at e; rw [e, List.length_take, bxs_len]; have := HL.out; omega)
      have HN := Lib.hid (own_nextB (r := ⟨r.b, some ⟨g, 0, none⟩, r.ln, r.ln⟩) (#[.string r.b.tok, .int .i64 r.b.mem, .int .i64 r.b.mis, .slice (some ⟨g, 0, none⟩) r.ln r.ln] : Array Value).toList rfl HLT.out hlt HO2.out)
      have HT := Lib.hid (own_there HO2.out (k * 4) 4 (by omega))
      clear HO hb2 hg2 HK
      go_wp2_with (refine wpList_store_mid rfl 62 (.tmp 21) (.tmp 20) rfl w.heap.size (k * 4) #[.string r.b.tok, .int .i64 r.b.mem, .int .i64 r.b.mis, .slice (some ⟨g, 0, none⟩) r.ln r.ln] rfl rfl HT.out Try.size_Box (by simp [Value.oneCell']) ?_; have hst := HN.out; revert hst; generalize World.setCells _ _ _ _ = w3; intro hst)
      have hlk3 : HeldOwn w3 w.heap.size (ts ++ [⟨r.b, some ⟨g, 0, none⟩, r.ln, r.ln⟩]) := hc_grown HK2.out hst.2 (fun s hs => own_types2 (HK2.out.1 s hs) HO2.out (by decide))
      clear HK2 HO2
      go_roundw
      case rel => exact ⟨k + 1, _, tail.drop 4, by omega, by go_num, Lib.hid (by rw [takeX (bxs_at HZ.out), ← HM.out]; simp [bxs]), hst.1, hlk3, hbel2.grown hst.2 hsz2 (by simp)⟩
      case measure => simp [intOf]; omega
    · have hkn : k = n := by omega
      subst hkn
      have HE := Lib.hid (show bxs ts = bxs rs by rw [HM.out, List.take_of_length_le (by rw [bxs_len]; have := HL.out; omega)])
      have HO := Lib.hid (own_fullB (show ts.length = k by rw [← bxs_len, HE.out, bxs_len]; exact HL.out) hown)
      clear hown
      go_wp2
      go_ret
      exact ⟨_, ts, rfl, HE.out, ⟨HO.out, hlk⟩, hbel⟩
theorem szBox_ok (r : Rb) (l : Int) (w : World) (h : (r.b.tok.size : Int) + r.ln ≤ l) (hl : l ≤ 1048576) :
    Calls Try.prog 57 #[.agg #[.string r.b.tok, .int .i64 r.b.mem, .int .i64 r.b.mis, .slice r.la r.ln r.lc], .int .i64 l] w fun e w' => e = .returned (.int .i64 (l - r.b.tok.size - r.ln)) ∧ Below w.heap.size w w' := by
  have x1 : ¬ (l - (r.b.tok.size : Int) < 0) := by omega
  have x2 : ¬ (l - (r.b.tok.size : Int) - (r.ln : Int) < 0) := by omega
  go_enter Try.func57, Try.ntmps57
  go_wp2_with (go_at_call 25; refine (szParcelS_ok _ _ _ _ _ (by omega) (by omega)).mono ?_; rintro e w' ⟨rfl, rfl⟩)
  go_ret
  exact ⟨rfl, (Below.refl _ _).alloc (Nat.le_refl _) _⟩
theorem szBox_no (r : Rb) (l : Int) (w : World) (h : l < (r.b.tok.size : Int) + r.ln) (h0 : 0 ≤ l) (hl : l ≤ 1048576) (ht : (r.b.tok.size : Int) ≤ 9223372036854775807) (hn : (r.ln : Int) ≤ 9223372036854775807) :
    Calls Try.prog 57 #[.agg #[.string r.b.tok, .int .i64 r.b.mem, .int .i64 r.b.mis, .slice r.la r.ln r.lc], .int .i64 l] w fun e w' => e = .returned (.int .i64 (-1)) ∧ Below w.heap.size w w' := by
  by_cases x1 : (r.b.tok.size : Int) ≤ l
  · have y1 : ¬ (l - (r.b.tok.size : Int) < 0) := by omega
    go_enter Try.func57, Try.ntmps57
    go_wp2_with (go_at_call 25; refine (szParcelS_no _ _ _ _ _ (by omega) (by omega) hn).mono ?_; rintro e w' ⟨rfl, rfl⟩)
    go_ret
    exact ⟨rfl, (Below.refl _ _).alloc (Nat.le_refl _) _⟩
  · have y1 : l - (r.b.tok.size : Int) < 0 := by omega
    go_enter Try.func57, Try.ntmps57
    go_wp2
    go_ret
    exact ⟨rfl, (Below.refl _ _).alloc (Nat.le_refl _) _⟩
def rbSz (r : Rb) : Nat := r.b.tok.size + r.ln
def szToB (rs : List Rb) (k : Nat) : Nat := ((rs.take k).map rbSz).sum
theorem szToB_zero (rs : List Rb) : szToB rs 0 = 0 := by simp [szToB]
theorem szToB_succ {rs : List Rb} {k : Nat} {r : Rb} (h : rs[k]? = some r) : szToB rs (k + 1) = szToB rs k + (r.b.tok.size + r.ln) := by
  unfold szToB
  rw [List.take_add_one, h]
  simp [rbSz]
theorem szToB_le (rs : List Rb) (k : Nat) : szToB rs k ≤ szToB rs rs.length := by
  unfold szToB
  rw [List.take_length]
  conv => rhs; rw [← List.take_append_drop k rs]
  rw [List.map_append, List.sum_append]
  omega
def postSize (rs : List Rb) : Nat := rs.length + szToB rs rs.length
set_option maxHeartbeats 800000 in
theorem szBoxS_ok (A : Option Addr) (n c : Nat) (rs : List Rb) (l : Int) (w : World) (hA : PostAt w w.heap.size A n rs) (h : (postSize rs : Int) ≤ l) (hl : l ≤ 1048576) :
    Calls Try.prog 36 #[.slice A n c, .int .i64 l] w fun e w' => e = .returned (.int .i64 (l - postSize rs)) ∧ Below w.heap.size w w' := by
  have HL := Lib.hid hA.len
  have HS := Lib.hid (show (n : Int) + (szToB rs n : Int) ≤ l by have := HL.out; unfold postSize at h; subst this; omega)
  have HE := Lib.hid (show (postSize rs : Int) = (n : Int) + (szToB rs n : Int) by have := HL.out; unfold postSize; subst this; omega)
  have h1 : ¬ (l - (n : Int) < 0) := by have := HS.out; omega
  clear h
  go_enter Try.func36, Try.ntmps36
  go_wp2
  go_loopw [1, 5] (fun q i wr => ∃ (k : Nat) (z : Int), k ≤ n ∧ i = .int .i64 k ∧ q = .int .i64 z ∧ 0 ≤ z ∧ z ≤ 1048576 ∧ Hid (z = l - n - (szToB rs k : Int)) ∧ Below w.heap.size w wr) (fun _ i _ => n - (intOf i).toNat)
  case atStart => exact ⟨0, _, by omega, rfl, rfl, by have := HS.out; omega, by omega, Lib.hid (by rw [szToB_zero]; simp), Below.refl _ _⟩
  case round =>
    obtain ⟨k, z, hk, rfl, rfl, hz0, hz1, HZ, hbel⟩ := hrel
    by_cases hlt : k < n
    · obtain ⟨b, off, r, rfl, hb, hz, hr, c0, c1, c2, c3⟩ := hA.atr hlt
      have HT := Lib.hid (szToB_succ hz)
      have HM := Lib.hid (show szToB rs (k + 1) ≤ szToB rs n by have := szToB_le rs (k + 1); rwa [HL.out] at this)
      have hf : (r.b.tok.size : Int) + r.ln ≤ z := by have := HZ.out; have := HT.out; have := HM.out; have := HS.out; omega
      have x1 : ¬ (z - (r.b.tok.size : Int) - (r.ln : Int) < 0) := by omega
      clear hz hr
      have d0 := (hbel.cell (p := ⟨b, off + k * 4, none⟩) hb).trans c0
      have d1 := (hbel.cell (p := ⟨b, off + k * 4 + 1, none⟩) hb).trans c1
      have d2 := (hbel.cell (p := ⟨b, off + k * 4 + 2, none⟩) hb).trans c2
      have d3 := (hbel.cell (p := ⟨b, off + k * 4 + 3, none⟩) hb).trans c3
      have hbs := hbel.size
      clear c0 c1 c2 c3 hA
      go_wp2_with fail
      go_at_call 57; refine (szBox_ok r z _ hf hz1).mono ?_; rintro e w2 ⟨rfl, hb2⟩
      have hbel2 := hbel.trans (hb2.mono hbs)
      clear hb2 hbel
      go_wp2
      go_roundw
      case rel => exact ⟨k + 1, _, by omega, by go_num, rfl, by omega, by omega, Lib.hid (by have := HZ.out; have := HT.out; omega), hbel2⟩
      case measure => simp [intOf]; omega
    · have hkn : k = n := by omega
      subst hkn
      go_wp2
      go_ret
      exact ⟨ret_int (by have := HZ.out; have := HE.out; omega), hbel⟩
set_option maxHeartbeats 800000 in
theorem szBoxS_no (A : Option Addr) (n c : Nat) (rs : List Rb) (l : Int) (w : World) (hA : PostAt w w.heap.size A n rs) (h : l < (postSize rs : Int)) (h0 : 0 ≤ l) (hl : l ≤ 1048576) (hn : (n : Int) ≤ 9223372036854775807) (hm : ∀ r ∈ rs, r.ln ≤ maxLen ∧ r.b.tok.size ≤ maxLen) :
    Calls Try.prog 36 #[.slice A n c, .int .i64 l] w fun e w' => e = .returned (.int .i64 (-1)) ∧ Below w.heap.size w w' := by
  have HL := Lib.hid hA.len
  by_cases hnl : (n : Int) ≤ l
  · have HS := Lib.hid (show l < (n : Int) + (szToB rs n : Int) by have := HL.out; unfold postSize at h; subst this; omega)
    have h1 : ¬ (l - (n : Int) < 0) := by omega
    clear h
    go_enter Try.func36, Try.ntmps36
    go_wp2
    go_loopw [1, 5] (fun q i wr => ∃ (k : Nat) (z : Int), k ≤ n ∧ i = .int .i64 k ∧ q = .int .i64 z ∧ 0 ≤ z ∧ z ≤ 1048576 ∧ Hid (z = l - n - (szToB rs k : Int)) ∧ Below w.heap.size w wr) (fun _ i _ => n - (intOf i).toNat)
    case atStart => exact ⟨0, _, by omega, rfl, rfl, by omega, by omega, Lib.hid (by rw [szToB_zero]; simp), Below.refl _ _⟩
    case round =>
      obtain ⟨k, z, hk, rfl, rfl, hz0, hz1, HZ, hbel⟩ := hrel
      by_cases hlt : k < n
      · obtain ⟨b, off, r, rfl, hb, hz, hr, c0, c1, c2, c3⟩ := hA.atr hlt
        have HT := Lib.hid (szToB_succ hz)
        have hM := hm r (List.mem_of_getElem? hz)
        have hm1 : (r.ln : Int) ≤ 9223372036854775807 := by have := hM.1; unfold maxLen at this; omega
        have hm2 : (r.b.tok.size : Int) ≤ 9223372036854775807 := by have := hM.2; unfold maxLen at this; omega
        clear hz hr hM
        have d0 := (hbel.cell (p := ⟨b, off + k * 4, none⟩) hb).trans c0
        have d1 := (hbel.cell (p := ⟨b, off + k * 4 + 1, none⟩) hb).trans c1
        have d2 := (hbel.cell (p := ⟨b, off + k * 4 + 2, none⟩) hb).trans c2
        have d3 := (hbel.cell (p := ⟨b, off + k * 4 + 3, none⟩) hb).trans c3
        have hbs := hbel.size
        clear c0 c1 c2 c3 hA
        by_cases hf : (r.b.tok.size : Int) + r.ln ≤ z
        · have x1 : ¬ (z - (r.b.tok.size : Int) - (r.ln : Int) < 0) := by omega
          go_wp2_with fail
          go_at_call 57; refine (szBox_ok r z _ hf hz1).mono ?_; rintro e w2 ⟨rfl, hb2⟩
          have hbel2 := hbel.trans (hb2.mono hbs)
          clear hb2 hbel
          go_wp2
          go_roundw
          case rel => exact ⟨k + 1, _, by omega, by go_num, rfl, by omega, by omega, Lib.hid (by have := HZ.out; have := HT.out; omega), hbel2⟩
          case measure => simp [intOf]; omega
        · go_wp2_with fail
          go_at_call 57; refine (szBox_no r z _ (by omega) hz0 hz1 hm2 hm1).mono ?_; rintro e w2 ⟨rfl, hb2⟩
          have hbel2 := hbel.trans (hb2.mono hbs)
          clear hb2 hbel
          go_wp2
          go_ret
          exact ⟨rfl, hbel2⟩
      · exfalso
        have hkn : k = n := by omega
        subst hkn
        have := HZ.out; have := HS.out
        omega
  · clear h
    have h1 : l - (n : Int) < 0 := by omega
    go_enter Try.func36, Try.ntmps36
    go_wp2
    go_ret
    exact ⟨rfl, Below.refl _ _⟩
theorem szPost_ok (x : Int) (A : Option Addr) (n c : Nat) (rs : List Rb) (l : Int) (w : World) (hA : PostAt w w.heap.size A n rs) (h : (postSize rs : Int) ≤ l) (hl : l ≤ 1048576) :
    Calls Try.prog 9 #[.agg #[.int .i64 x, .slice A n c], .int .i64 l] w fun e w' => e = .returned (.int .i64 (l - postSize rs)) ∧ Below w.heap.size w w' := by
  have x1 : ¬ (l - (postSize rs : Int) < 0) := by omega
  go_enter Try.func9, Try.ntmps9
  go_wp2_with fail
  obtain ⟨k0, hb0⟩ := one_box w 24 #[.int .i64 x, .slice A n c]
  generalize w.alloc (.cells #[.int .i64 x, .slice A n c] 24) = W at *
  go_at_call 36; refine (szBoxS_ok _ _ _ _ _ _ (hA.to hb0) h hl).mono ?_; rintro e w2 ⟨rfl, hb2⟩
  have hb0 := hb0.trans (hb2.mono hb0.size)
  go_wp2
  go_ret
  exact ⟨rfl, hb0⟩
theorem szPost_no (x : Int) (A : Option Addr) (n c : Nat) (rs : List Rb) (l : Int) (w : World) (hA : PostAt w w.heap.size A n rs) (h : l < (postSize rs : Int)) (h0 : 0 ≤ l) (hl : l ≤ 1048576) (hn : (n : Int) ≤ 9223372036854775807) (hm : ∀ r ∈ rs, r.ln ≤ maxLen ∧ r.b.tok.size ≤ maxLen) :
    Calls Try.prog 9 #[.agg #[.int .i64 x, .slice A n c], .int .i64 l] w fun e w' => e = .returned (.int .i64 (-1)) ∧ Below w.heap.size w w' := by
  go_enter Try.func9, Try.ntmps9
  go_wp2_with fail
  obtain ⟨k0, hb0⟩ := one_box w 24 #[.int .i64 x, .slice A n c]
  generalize w.alloc (.cells #[.int .i64 x, .slice A n c] 24) = W at *
  go_at_call 36; refine (szBoxS_no _ _ _ _ _ _ (hA.to hb0) h h0 hl hn hm).mono ?_; rintro e w2 ⟨rfl, hb2⟩
  have hb0 := hb0.trans (hb2.mono hb0.size)
  go_wp2
  go_ret
  exact ⟨rfl, hb0⟩
theorem post_small {rs : List Rb} (h : postSize rs ≤ 1048576) : rs.length ≤ 1048576 ∧ ∀ r ∈ rs, r.ln ≤ 1048576 ∧ r.b.tok.size ≤ 1048576 := by
  refine ⟨by unfold postSize at h; omega, fun r hr => ?_⟩
  obtain ⟨k, hk⟩ := List.mem_iff_getElem?.1 hr
  have h1 := szToB_succ hk
  have h2 := szToB_le rs (k + 1)
  unfold postSize at h
  omega
theorem fitP_of {w : World} {n B : Nat} {A : Option Addr} {rs : List Rb} (h : PostAt w B A n rs) (hs : postSize rs ≤ 1048576) : fitP (bxs rs) := by
  obtain ⟨h1, h2⟩ := post_small hs
  refine ⟨by rw [bxs_len]; exact h1, fun m hm => ?_⟩
  obtain ⟨r, hr, rfl⟩ := List.mem_map.1 hm
  have := h2 r hr
  have := (h.2 r hr).1
  omega
/-- toLog: messages of one's own, the same -/
def PostNew (x : Int) (rs : List Rb) (n : Nat) (w : World) (e : Ending) (w' : World) : Prop := ∃ g ts, e = .returned (.agg #[.int .i64 x, .slice (some ⟨g, 0, none⟩) n n]) ∧ bxs ts = bxs rs ∧ PostOwn w' w.heap.size (some ⟨g, 0, none⟩) n n ts ∧ Below w.heap.size w w'
set_option maxHeartbeats 800000 in
theorem toPost_any (x : Int) (A : Option Addr) (n c : Nat) (rs : List Rb) (w : World) (h : PostAt w w.heap.size A n rs) (hs : postSize rs ≤ 1048576) :
    Calls Try.prog 11 #[.agg #[.int .i64 x, .slice A n c]] w (PostNew x rs n w) := by
  have HS := Lib.hid (post_small hs)
  have hn : n ≤ 1048576 := by have := HS.out.1; have := h.len; omega
  go_enter Try.func11, Try.ntmps11
  go_wp2_with fail
  obtain ⟨k0, k1, k2, hb0⟩ := three_boxes w 24 29 29 #[.int .i64 x, .slice A n c] #[.int .i64 0, .slice none 0 0] #[.int .i64 x, .slice none 0 0]
  generalize (((w.alloc (.cells #[.int .i64 x, .slice A n c] 24)).alloc (.cells #[.int .i64 0, .slice none 0 0] 29)).alloc (.cells #[.int .i64 x, .slice none 0 0] 29)) = W at *
  have hl2 := k2.lt
  have hbW := hb0.size
  go_at_call 38; refine (toBoxS_any _ _ _ _ _ (h.to hb0) hn (fun r hr => (HS.out.2 r hr).1)).mono ?_; rintro e w1 ⟨g, ts, rfl, hts, ho1, hb1⟩
  have HTS := Lib.hid hts
  have k1 := k1.below hb1 (by omega)
  have k2 := k2.below hb1 (by omega)
  have hbA := hb0.trans (hb1.mono hb0.size)
  have l0 := k2.cell 0; have l1 := k2.cell 1
  have lf := k2.frozen 1
  have r0 := k1.cell 0; have r1 := k1.cell 1
  have f0 := k1.frozen 0; have f1 := k1.frozen 1
  clear hb1 hb0 h k0 hts
  go_wp2
  refine bodyPost_ret (v := .agg #[.int .i64 x, .slice (some ⟨g, 0, none⟩) n n]) (by simp [results, Try.results11, go_sem, r0, r1]) rfl ⟨g, ts, rfl, HTS.out, ?_, ?_⟩
  · exact ((ho1.set_ (a := ⟨w.heap.size + 1 + 1, 1, none⟩) hl2 _).sets [(0, _), (1, _)] (g := w.heap.size + 1) (by omega)).mono hbW
  · exact below_sets [(0, _), (1, _)] (hbA.setCell (p := ⟨w.heap.size + 1 + 1, 1, none⟩) (by simp; omega) _) (g := w.heap.size + 1) (by omega)
set_option maxHeartbeats 800000 in
theorem eqBox_same (m : Bx) (la la' : Option Addr) (ln lc ln' lc' : Nat) (w : World) (h : SRow 2 bnC w w.heap.size la ln m.held) (h' : SRow 2 bnC w w.heap.size la' ln' m.held) (hn : ln ≤ 1048576) :
    Calls Try.prog 61 #[.agg #[.string m.tok, .int .i64 m.mem, .int .i64 m.mis, .slice la ln lc], .agg #[.string m.tok, .int .i64 m.mem, .int .i64 m.mis, .slice la' ln' lc']] w fun e w' => e = .returned (.bool true) ∧ Below w.heap.size w w' := by
  obtain rfl : ln = ln' := by rw [← h.1, ← h'.1]
  go_enter Try.func61, Try.ntmps61
  go_wp2_with fail
  obtain ⟨k0, k1, hb0⟩ := two_boxes w 62 62 #[.string m.tok, .int .i64 m.mem, .int .i64 m.mis, .slice la ln lc] #[.string m.tok, .int .i64 m.mem, .int .i64 m.mis, .slice la' ln lc']
  generalize ((w.alloc (.cells #[.string m.tok, .int .i64 m.mem, .int .i64 m.mis, .slice la ln lc] 62)).alloc (.cells #[.string m.tok, .int .i64 m.mem, .int .i64 m.mis, .slice la' ln lc'] 62)) = W at *
  go_at_call 30; refine (eqParcelS_same _ _ _ _ _ _ _ _ (h.to hb0) (h'.to hb0) (by omega)).mono ?_; rintro e w2 ⟨rfl, hb2⟩
  go_wp2
  go_ret
  exact ⟨rfl, hb0.trans (hb2.mono hb0.size)⟩
set_option maxHeartbeats 1600000 in
theorem eqBoxS_same (A A' : Option Addr) (n c n' c' : Nat) (rs ts : List Rb) (w : World) (h : PostAt w w.heap.size A n rs) (h' : PostAt w w.heap.size A' n' ts) (he : bxs rs = bxs ts) (hf : fitP (bxs rs)) :
    Calls Try.prog 41 #[.slice A n c, .slice A' n' c'] w fun e w' => e = .returned (.bool true) ∧ Below w.heap.size w w' := by
  obtain rfl : n' = n := by rw [← h.len, ← h'.len, ← bxs_len, ← bxs_len, he]
  have HE := Lib.hid he
  have hn := fitP_n h hf
  have HF := Lib.hid hf
  clear he hf
  go_enter Try.func41, Try.ntmps41
  go_wp2
  go_loopw [5] (fun i wr => ∃ k : Nat, k ≤ n' ∧ i = .int .i64 k ∧ Below w.heap.size w wr) (fun i _ => n' - (intOf i).toNat)
  case atStart => exact ⟨0, by omega, rfl, Below.refl _ _⟩
  case round =>
    obtain ⟨k, hk, rfl, hbel⟩ := hrel
    by_cases hlt : k < n'
    · obtain ⟨b, off, ⟨m, la, ln, lc⟩, rfl, hb, hz, hr, c0, c1, c2, c3⟩ := h.atr hlt
      obtain ⟨b', off', ⟨m', la', ln', lc'⟩, rfl, hb', hz', hr', e0, e1, e2, e3⟩ := h'.atr hlt
      have hrn := (fitP_ln h.2 HF.out (List.mem_of_getElem? hz)).1
      have hmm : m = m' := by
        have a := bxs_at hz; have b := bxs_at hz'
        rw [HE.out] at a; rw [a] at b; injection b
      subst hmm
      clear hz hz'
      dsimp only at *
      have HR := Lib.hid (show SRow 2 bnC wr.drew wr.drew.heap.size la ln m.held from (hr.below hbel).more hbel.size)
      have HR' := Lib.hid (show SRow 2 bnC wr.drew wr.drew.heap.size la' ln' m.held from (hr'.below hbel).more hbel.size)
      clear hr hr'
      have d0 := (hbel.cell (p := ⟨b, off + k * 4, none⟩) hb).trans c0
      have f0 := (hbel.cell (p := ⟨b', off' + k * 4, none⟩) hb').trans e0
      have d1 := (hbel.cell (p := ⟨b, off + k * 4 + 1, none⟩) hb).trans c1
      have f1 := (hbel.cell (p := ⟨b', off' + k * 4 + 1, none⟩) hb').trans e1
      have d2 := (hbel.cell (p := ⟨b, off + k * 4 + 2, none⟩) hb).trans c2
      have f2 := (hbel.cell (p := ⟨b', off' + k * 4 + 2, none⟩) hb').trans e2
      have d3 := (hbel.cell (p := ⟨b, off + k * 4 + 3, none⟩) hb).trans c3
      have f3 := (hbel.cell (p := ⟨b', off' + k * 4 + 3, none⟩) hb').trans e3
      have hbs := hbel.size
      have hp : (0 : Int) ≤ (k : Int) := by omega
      have hq : (k : Int) < (n' : Int) := by omega
      clear c0 c1 c2 c3 e0 e1 e2 e3 h h'
      go_wp2_with fail
      go_still_tail 8, (by kernel_rfl)
      go_wp2_with (go_at_call 61; refine (eqBox_same m la la' ln lc ln' lc' _ HR.out HR'.out hrn).mono ?_; rintro e w4 ⟨rfl, hb4⟩)
      have hbel4 : Below w.heap.size w w4 := hbel.drew.trans (hb4.mono hbs)
      clear hbel hb4
      go_roundw
      case rel => exact ⟨k + 1, by omega, by go_num, hbel4⟩
      case measure => simp [intOf]; omega
    · have hkn : k = n' := by omega
      subst hkn
      go_wp2
      go_ret
      exact ⟨rfl, hbel⟩
theorem eqPost_same (x : Int) (A A' : Option Addr) (n c n' c' : Nat) (rs ts : List Rb) (w : World) (h : PostAt w w.heap.size A n rs) (h' : PostAt w w.heap.size A' n' ts) (he : bxs rs = bxs ts) (hf : fitP (bxs rs)) :
    Calls Try.prog 13 #[.agg #[.int .i64 x, .slice A n c], .agg #[.int .i64 x, .slice A' n' c']] w fun e w' => e = .returned (.bool true) ∧ Below w.heap.size w w' := by
  go_enter Try.func13, Try.ntmps13
  go_wp2_with fail
  obtain ⟨k0, k1, hb0⟩ := two_boxes w 29 29 #[.int .i64 x, .slice A n c] #[.int .i64 x, .slice A' n' c']
  generalize ((w.alloc (.cells #[.int .i64 x, .slice A n c] 29)).alloc (.cells #[.int .i64 x, .slice A' n' c'] 29)) = W at *
  go_at_call 41; refine (eqBoxS_same _ _ _ _ _ _ _ _ _ (h.to hb0) (h'.to hb0) he hf).mono ?_; rintro e w2 ⟨rfl, hb2⟩
  have hb0 := hb0.trans (hb2.mono hb0.size)
  go_wp2
  go_ret
  exact ⟨rfl, hb0⟩
end Go.Proofs.Ytmnmmjobplbflaa
