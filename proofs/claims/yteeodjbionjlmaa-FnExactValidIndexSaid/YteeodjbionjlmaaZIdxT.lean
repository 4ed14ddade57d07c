import Derived.Test.YteeodjbionjlmaaChecked
import Derived.WalkKit
import Derived.ProofKit
import Derived.OpenShut
import Derived.ShutString
import Derived.ChangeOld
import Derived.Below
import Derived.Lib.Hide
import Derived.Deep.MidRow
import Derived.StillTailTactics
import Derived.Test.YteeodjbionjlmaaZMsgT
import Derived.Test.YteeodjbionjlmaaZIdxR
namespace Go.Proofs.Yteeodjbionjlmaa
open Go.ChangeShapes Go.WideShapes Go.ChangeAt Go.RowKit
open Go.ChangeMaps (open_string shut_string)
set_option linter.unusedVariables false
set_option maxRecDepth 100000
theorem IdxOwn.set_ {w : World} {base n c : Nat} {A : Option Addr} {rs : List Re} (h : IdxOwn w base A n c rs) {a : Addr} (ha : a.block < base) (u : Value) : IdxOwn (w.setCell a u) base A n c rs :=
  ⟨ownsRow_setCell_below h.1 ha u, fun r hr => ownsRow_setCell_below (h.2.1 r hr) ha u, h.2.2⟩
theorem IdxOwn.sets {base n c g : Nat} {A : Option Addr} {rs : List Re} : ∀ (us : List (Nat × Value)) {w : World}, IdxOwn w base A n c rs → g < base → IdxOwn (us.foldl (fun w u => w.setCell ⟨g, u.1, none⟩ u.2) w) base A n c rs
  | [], _, h, _ => h
  | u :: us, _, h, hg => IdxOwn.sets us (h.set_ (a := ⟨g, u.1, none⟩) hg u.2) hg
set_option maxHeartbeats 800000 in
theorem toEntry_any (r : Re) (w : World) (h : Row i64v w w.heap.size r.la r.ln r.m.nums) (hn : r.ln ≤ 1048576) :
    Calls Try.prog 142 #[.agg #[.string r.m.word, .slice r.la r.ln r.lc]] w fun e w' => ∃ g, e = .returned (.agg #[.string r.m.word, .slice (some ⟨g, 0, none⟩) r.ln r.ln]) ∧ w'.ownsRow w.heap.size 2 1 (.slice (some ⟨g, 0, none⟩) r.ln r.ln) r.ln (r.m.nums.map i64v) ∧ Below w.heap.size w w' := by
  go_enter Try.func142, Try.ntmps142
  go_wp2_with fail
  obtain ⟨k0, k1, k2, hb0⟩ := three_boxes w 146 100 100 #[.string r.m.word, .slice r.la r.ln r.lc] #[.string ⟨#[]⟩, .slice none 0 0] #[.string r.m.word, .slice none 0 0]
  generalize (((w.alloc (.cells #[.string r.m.word, .slice r.la r.ln r.lc] 146)).alloc (.cells #[.string ⟨#[]⟩, .slice none 0 0] 100)).alloc (.cells #[.string r.m.word, .slice none 0 0] 100)) = W at *
  have hl2 := k2.lt
  have hbW := hb0.size
  go_at_call 55; refine (toInt64S_any _ _ _ _ _ (h.to hb0) hn).mono ?_; rintro e w1 ⟨g, rfl, ho1, hb1⟩
  have k1 := k1.below hb1 (by omega)
  have k2 := k2.below hb1 (by omega)
  have hbA := hb0.trans (hb1.mono hb0.size)
  have q1 : w.heap.size + 1 + 1 < W.heap.size := hl2
  have l0 := k2.cell 0; have l1 := k2.cell 1
  have lf := k2.frozen 1
  have r0 := k1.cell 0; have r1 := k1.cell 1
  have f0 := k1.frozen 0; have f1 := k1.frozen 1; have f7 := k1.frozen 1
  clear hb1 hb0 h k0
  go_wp2
  refine bodyPost_ret (v := .agg #[.string r.m.word, .slice (some ⟨g, 0, none⟩) r.ln r.ln]) (by simp [results, Try.results142, go_sem, r0, r1]) rfl ⟨g, rfl, ?_, ?_⟩
  · exact World.ownsRow.mono (own_sets [(0, _), (1, _)] (ownsRow_setCell_below ho1 (a := ⟨w.heap.size + 1 + 1, 1, none⟩) q1 _) (g := w.heap.size + 1) (by omega)) hbW
  · exact below_sets [(0, _), (1, _)] (hbA.setCell (p := ⟨w.heap.size + 1 + 1, 1, none⟩) (by simp; omega) _) (g := w.heap.size + 1) (by omega)
theorem Try.info_Entry : (Try.prog.info? 100).map (fun i => (i.zero, i.size, i.bytes)) = some (some (.agg #[.string ⟨#[]⟩, .slice none 0 0]), 2, 40) := by kernel_rfl
theorem Try.size_Entry : (Try.prog.info? 100).map (·.size) = some 2 := by kernel_rfl
/-- the same messages, whose likes lie elsewhere -/
theorem nums_len {rs : List Re} {w : World} {B : Nat} (h : NumsAt w B rs) {r : Re} (hr : r ∈ rs) : r.m.nums.length = r.ln := (h r hr).1
theorem own_nextE {w : World} {base e n cap g k : Nat} {ts : List Re} {r : Re} {tail : List Value} (vs : List Value) (hvs : vs = reC r) (hl : ts.length = k) (hk : k < n) (h : w.ownsRow base e 2 (.slice (some ⟨g, 0, none⟩) n cap) n (ts.flatMap reC ++ tail)) :
    (w.setCells g (k * 2) vs).ownsRow base e 2 (.slice (some ⟨g, 0, none⟩) n cap) n ((ts ++ [r]).flatMap reC ++ tail.drop 2) ∧ w.grownBy (w.setCells g (k * 2) vs) (some g) := by
  subst hvs
  have hp : (ts.flatMap reC).length = k * 2 := by rw [flat_len reC_len, hl]
  have hlen := h.1
  rw [List.length_append, hp] at hlen
  have := own_setCells (reC r) (k * 2) w (ts.flatMap reC) tail h hp (by rw [reC_len]; omega)
  rw [reC_len] at this
  refine ⟨?_, this.2⟩
  have h1 := this.1
  rw [← List.append_assoc] at h1
  simpa using h1
theorem own_fullE {w : World} {base e n cap g : Nat} {ts : List Re} {tail : List Value} (hn : ts.length = n) (h : w.ownsRow base e 2 (.slice (some ⟨g, 0, none⟩) n cap) n (ts.flatMap reC ++ tail)) : w.ownsRow base e 2 (.slice (some ⟨g, 0, none⟩) n cap) n (ts.flatMap reC) := by
  have hl := h.1
  rw [List.length_append, flat_len reC_len, hn] at hl
  have : tail = [] := List.eq_nil_of_length_eq_zero (by omega)
  subst this
  rw [List.append_nil] at h
  exact h
set_option maxHeartbeats 1600000 in
theorem toEntryS_any (A : Option Addr) (n c : Nat) (rs : List Re) (w : World) (h : IdxAt w w.heap.size A n rs) (hn : n ≤ 1048576) (hl : ∀ r ∈ rs, r.ln ≤ 1048576) :
    Calls Try.prog 89 #[.slice A n c] w fun e w' => ∃ g ts, e = .returned (.slice (some ⟨g, 0, none⟩) n n) ∧ ens ts = ens rs ∧ IdxOwn w' w.heap.size (some ⟨g, 0, none⟩) n n ts ∧ Below w.heap.size w w' := by
  obtain ⟨i0, hi, hz0, hz1, hz2⟩ := info_parts Try.info_Entry
  have HL := Lib.hid h.len
  go_enter Try.func89, Try.ntmps89
  go_wp2_with (at_make; refine wpList_make_full _ rfl _ _ 50 rfl w.heap.size 100 i0 (.agg #[.string ⟨#[]⟩, .slice none 0 0]) 2 Try.underlying50 hi hz0 hz1 _ _ _ _ n rfl rfl rfl rfl (by rw [hz2]; omega) (by unfold maxLen; omega) (Nat.le_refl _) ?_; intro w1 hown1 hgrow1)
  have hbel1 : Below w.heap.size w w1 := (Below.refl _ _).grown hgrow1 (Nat.le_refl _) (by simp)
  clear hgrow1
  go_loopw [4] (fun i wr => ∃ (k : Nat) (ts : List Re) (tail : List Value), k ≤ n ∧ i = .int .i64 k ∧ Hid (ens ts = (ens rs).take k) ∧ wr.ownsRow w.heap.size 100 2 (.slice (some ⟨w.heap.size, 0, none⟩) n n) n (ts.flatMap reC ++ tail) ∧ NumsOwn wr w.heap.size ts ∧ Below w.heap.size w wr) (fun i _ => n - (intOf i).toNat)
  case atStart => exact ⟨0, [], _, by omega, rfl, Lib.hid (by simp [ens]), hown1, NumsOwn.nil, hbel1⟩
  case round =>
    obtain ⟨k, ts, tail, hk, rfl, HM, hown, hlk, hbel⟩ := hrel
    clear hown1 hbel1
    by_cases hlt : k < n
    · obtain ⟨b, off, r, rfl, hb, hz, hr, c0, c1⟩ := h.atr hlt
      have hrl := hl r (List.mem_of_getElem? hz)
      have HZ := Lib.hid hz
      clear hz
      have HR := Lib.hid ((hr.below hbel).more hbel.size)
      clear hr
      have d0 := (hbel.cell (p := ⟨b, off + k * 2, none⟩) hb).trans c0
      have d1 := (hbel.cell (p := ⟨b, off + k * 2 + 1, none⟩) hb).trans c1
      have HO := Lib.hid hown
      have HK := Lib.hid hlk
      have hsz := hbel.size
      clear hown hlk c0 c1
      go_wp2_with fail
      go_at_call 142; refine (toEntry_any r _ HR.out hrl).mono ?_; rintro e w2 ⟨g, rfl, hg2, hb2⟩
      have hbel2 := hbel.trans (hb2.mono hsz)
      have hsz2 := hbel2.size
      have HO2 := Lib.hid (own_below HO.out hb2 (Nat.le_refl _))
      have HK2 := Lib.hid (HK.out.snoc (r := ⟨r.m, some ⟨g, 0, none⟩, r.ln, r.ln⟩) hb2 hg2 hsz)
      have HLT := Lib.hid (show ts.length = k by have e := congrArg List.length HM.out; rw [ens_len] at e; rw [e, List.length_take, ens_len]; have := HL.out; omega)
      have HN := Lib.hid (own_nextE (r := ⟨r.m, some ⟨g, 0, none⟩, r.ln, r.ln⟩) (#[.string r.m.word, .slice (some ⟨g, 0, none⟩) r.ln r.ln] : Array Value).toList rfl HLT.out hlt HO2.out)
      have HT := Lib.hid (own_there HO2.out (k * 2) 2 (by omega))
      clear HO hb2 hg2 HK
      go_wp2_with (refine wpList_store_mid rfl 100 (.tmp 21) (.tmp 20) rfl w.heap.size (k * 2) #[.string r.m.word, .slice (some ⟨g, 0, none⟩) r.ln r.ln] rfl rfl HT.out Try.size_Entry (by simp [Value.oneCell']) ?_; have hst := HN.out; revert hst; generalize World.setCells _ _ _ _ = w3; intro hst)
      have hlk3 : NumsOwn w3 w.heap.size (ts ++ [⟨r.m, some ⟨g, 0, none⟩, r.ln, r.ln⟩]) := nc_grown HK2.out hst.2 (fun s hs => own_types2 (HK2.out.1 s hs) HO2.out (by decide))
      clear HK2 HO2
      go_roundw
      case rel => exact ⟨k + 1, _, tail.drop 2, by omega, by go_num, Lib.hid (by rw [take_getE (ens_at HZ.out), ← HM.out]; simp [ens]), hst.1, hlk3, hbel2.grown hst.2 hsz2 (by simp)⟩
      case measure => simp [intOf]; omega
    · have hkn : k = n := by omega
      subst hkn
      have HE := Lib.hid (show ens ts = ens rs by rw [HM.out, List.take_of_length_le (by rw [ens_len]; have := HL.out; omega)])
      have HO := Lib.hid (own_fullE (show ts.length = k by rw [← ens_len, HE.out, ens_len]; exact HL.out) hown)
      clear hown
      go_wp2
      go_ret
      exact ⟨_, ts, rfl, HE.out, ⟨HO.out, hlk⟩, hbel⟩
theorem szEntry_ok (r : Re) (l : Int) (w : World) (h : (r.m.word.size : Int) + r.ln ≤ l) (hl : l ≤ 1048576) :
    Calls Try.prog 140 #[.agg #[.string r.m.word, .slice r.la r.ln r.lc], .int .i64 l] w fun e w' => e = .returned (.int .i64 (l - r.m.word.size - r.ln)) ∧ Below w.heap.size w w' := by
  have x1 : ¬ (l - (r.m.word.size : Int) < 0) := by omega
  have x2 : ¬ (l - (r.m.word.size : Int) - (r.ln : Int) < 0) := by omega
  go_enter Try.func140, Try.ntmps140
  go_wp2_with (go_at_call 82; refine (szInt64S_ok _ _ _ _ _ (by omega) (by omega)).mono ?_; rintro e w' ⟨rfl, rfl⟩)
  go_ret
  exact ⟨rfl, (Below.refl _ _).alloc (Nat.le_refl _) _⟩
theorem szEntry_no (r : Re) (l : Int) (w : World) (h : l < (r.m.word.size : Int) + r.ln) (h0 : 0 ≤ l) (hl : l ≤ 1048576) (ht : (r.m.word.size : Int) ≤ 9223372036854775807) (hn : (r.ln : Int) ≤ 9223372036854775807) :
    Calls Try.prog 140 #[.agg #[.string r.m.word, .slice r.la r.ln r.lc], .int .i64 l] w fun e w' => e = .returned (.int .i64 (-1)) ∧ Below w.heap.size w w' := by
  by_cases x1 : (r.m.word.size : Int) ≤ l
  · have y1 : ¬ (l - (r.m.word.size : Int) < 0) := by omega
    go_enter Try.func140, Try.ntmps140
    go_wp2_with (go_at_call 82; refine (szInt64S_no _ _ _ _ _ (by omega) (by omega) hn).mono ?_; rintro e w' ⟨rfl, rfl⟩)
    go_ret
    exact ⟨rfl, (Below.refl _ _).alloc (Nat.le_refl _) _⟩
  · have y1 : l - (r.m.word.size : Int) < 0 := by omega
    go_enter Try.func140, Try.ntmps140
    go_wp2
    go_ret
    exact ⟨rfl, (Below.refl _ _).alloc (Nat.le_refl _) _⟩
def reSz (r : Re) : Nat := r.m.word.size + r.ln
def ezTo (rs : List Re) (k : Nat) : Nat := ((rs.take k).map reSz).sum
theorem ezTo_zero (rs : List Re) : ezTo rs 0 = 0 := by simp [ezTo]
theorem ezTo_succ {rs : List Re} {k : Nat} {r : Re} (h : rs[k]? = some r) : ezTo rs (k + 1) = ezTo rs k + (r.m.word.size + r.ln) := by
  unfold ezTo
  rw [List.take_add_one, h]
  simp [reSz]
theorem ezTo_le (rs : List Re) (k : Nat) : ezTo rs k ≤ ezTo rs rs.length := by
  unfold ezTo
  rw [List.take_length]
  conv => rhs; rw [← List.take_append_drop k rs]
  rw [List.map_append, List.sum_append]
  omega
def idxSize (rs : List Re) : Nat := rs.length + ezTo rs rs.length
set_option maxHeartbeats 800000 in
theorem szEntryS_ok (A : Option Addr) (n c : Nat) (rs : List Re) (l : Int) (w : World) (hA : IdxAt w w.heap.size A n rs) (h : (idxSize rs : Int) ≤ l) (hl : l ≤ 1048576) :
    Calls Try.prog 87 #[.slice A n c, .int .i64 l] w fun e w' => e = .returned (.int .i64 (l - idxSize rs)) ∧ Below w.heap.size w w' := by
  have HL := Lib.hid hA.len
  have HS := Lib.hid (show (n : Int) + (ezTo rs n : Int) ≤ l by have := HL.out; unfold idxSize at h; subst this; omega)
  have HE := Lib.hid (show (idxSize rs : Int) = (n : Int) + (ezTo rs n : Int) by have := HL.out; unfold idxSize; subst this; omega)
  have h1 : ¬ (l - (n : Int) < 0) := by have := HS.out; omega
  clear h
  go_enter Try.func87, Try.ntmps87
  go_wp2
  go_loopw [1, 5] (fun q i wr => ∃ (k : Nat) (z : Int), k ≤ n ∧ i = .int .i64 k ∧ q = .int .i64 z ∧ 0 ≤ z ∧ z ≤ 1048576 ∧ Hid (z = l - n - (ezTo rs k : Int)) ∧ Below w.heap.size w wr) (fun _ i _ => n - (intOf i).toNat)
  case atStart => exact ⟨0, _, by omega, rfl, rfl, by have := HS.out; omega, by omega, Lib.hid (by rw [ezTo_zero]; simp), Below.refl _ _⟩
  case round =>
    obtain ⟨k, z, hk, rfl, rfl, hz0, hz1, HZ, hbel⟩ := hrel
    by_cases hlt : k < n
    · obtain ⟨b, off, r, rfl, hb, hz, hr, c0, c1⟩ := hA.atr hlt
      have HT := Lib.hid (ezTo_succ hz)
      have HM := Lib.hid (show ezTo rs (k + 1) ≤ ezTo rs n by have := ezTo_le rs (k + 1); rwa [HL.out] at this)
      have hf : (r.m.word.size : Int) + r.ln ≤ z := by have := HZ.out; have := HT.out; have := HM.out; have := HS.out; omega
      have x1 : ¬ (z - (r.m.word.size : Int) - (r.ln : Int) < 0) := by omega
      clear hz hr
      have d0 := (hbel.cell (p := ⟨b, off + k * 2, none⟩) hb).trans c0
      have d1 := (hbel.cell (p := ⟨b, off + k * 2 + 1, none⟩) hb).trans c1
      have hbs := hbel.size
      clear c0 c1 hA
      go_wp2_with fail
      go_at_call 140; refine (szEntry_ok r z _ hf hz1).mono ?_; rintro e w2 ⟨rfl, hb2⟩
      have hbel2 := hbel.trans (hb2.mono hbs)
      clear hb2 hbel
      go_wp2
      go_roundw
      case rel => exact ⟨k + 1, _, by omega, by go_num, rfl, by omega, by omega, Lib.hid (by have := HZ.out; have := HT.out; omega), hbel2⟩
      case measure => simp [intOf]; omega
    · have hkn : k = n := by omega
      subst hkn
      go_wp2
      go_ret
      exact ⟨ret_int (by have := HZ.out; have := HE.out; omega), hbel⟩
set_option maxHeartbeats 800000 in
theorem szEntryS_no (A : Option Addr) (n c : Nat) (rs : List Re) (l : Int) (w : World) (hA : IdxAt w w.heap.size A n rs) (h : l < (idxSize rs : Int)) (h0 : 0 ≤ l) (hl : l ≤ 1048576) (hn : (n : Int) ≤ 9223372036854775807) (hm : ∀ r ∈ rs, r.ln ≤ maxLen ∧ r.m.word.size ≤ maxLen) :
    Calls Try.prog 87 #[.slice A n c, .int .i64 l] w fun e w' => e = .returned (.int .i64 (-1)) ∧ Below w.heap.size w w' := by
  have HL := Lib.hid hA.len
  by_cases hnl : (n : Int) ≤ l
  · have HS := Lib.hid (show l < (n : Int) + (ezTo rs n : Int) by have := HL.out; unfold idxSize at h; subst this; omega)
    have h1 : ¬ (l - (n : Int) < 0) := by omega
    clear h
    go_enter Try.func87, Try.ntmps87
    go_wp2
    go_loopw [1, 5] (fun q i wr => ∃ (k : Nat) (z : Int), k ≤ n ∧ i = .int .i64 k ∧ q = .int .i64 z ∧ 0 ≤ z ∧ z ≤ 1048576 ∧ Hid (z = l - n - (ezTo rs k : Int)) ∧ Below w.heap.size w wr) (fun _ i _ => n - (intOf i).toNat)
    case atStart => exact ⟨0, _, by omega, rfl, rfl, by omega, by omega, Lib.hid (by rw [ezTo_zero]; simp), Below.refl _ _⟩
    case round =>
      obtain ⟨k, z, hk, rfl, rfl, hz0, hz1, HZ, hbel⟩ := hrel
      by_cases hlt : k < n
      · obtain ⟨b, off, r, rfl, hb, hz, hr, c0, c1⟩ := hA.atr hlt
        have HT := Lib.hid (ezTo_succ hz)
        have hM := hm r (List.mem_of_getElem? hz)
        have hm1 : (r.ln : Int) ≤ 9223372036854775807 := by have := hM.1; unfold maxLen at this; omega
        have hm2 : (r.m.word.size : Int) ≤ 9223372036854775807 := by have := hM.2; unfold maxLen at this; omega
        clear hz hr hM
        have d0 := (hbel.cell (p := ⟨b, off + k * 2, none⟩) hb).trans c0
        have d1 := (hbel.cell (p := ⟨b, off + k * 2 + 1, none⟩) hb).trans c1
        have hbs := hbel.size
        clear c0 c1 hA
        by_cases hf : (r.m.word.size : Int) + r.ln ≤ z
        · have x1 : ¬ (z - (r.m.word.size : Int) - (r.ln : Int) < 0) := by omega
          go_wp2_with fail
          go_at_call 140; refine (szEntry_ok r z _ hf hz1).mono ?_; rintro e w2 ⟨rfl, hb2⟩
          have hbel2 := hbel.trans (hb2.mono hbs)
          clear hb2 hbel
          go_wp2
          go_roundw
          case rel => exact ⟨k + 1, _, by omega, by go_num, rfl, by omega, by omega, Lib.hid (by have := HZ.out; have := HT.out; omega), hbel2⟩
          case measure => simp [intOf]; omega
        · go_wp2_with fail
          go_at_call 140; refine (szEntry_no r z _ (by omega) hz0 hz1 hm2 hm1).mono ?_; rintro e w2 ⟨rfl, hb2⟩
          have hbel2 := hbel.trans (hb2.mono hbs)
          clear hb2 hbel
          go_wp2
          go_ret
          exact ⟨rfl, hbel2⟩
      · exfalso
        have hkn : k = n := by omega
        subst hkn
        have := HZ.out; have := HS.out
        omega
  · clear h
    have h1 : l - (n : Int) < 0 := by omega
    go_enter Try.func87, Try.ntmps87
    go_wp2
    go_ret
    exact ⟨rfl, Below.refl _ _⟩
theorem szIndex_ok (A : Option Addr) (n c : Nat) (rs : List Re) (l : Int) (w : World) (hA : IdxAt w w.heap.size A n rs) (h : (idxSize rs : Int) ≤ l) (hl : l ≤ 1048576) :
    Calls Try.prog 37 #[.agg #[.slice A n c], .int .i64 l] w fun e w' => e = .returned (.int .i64 (l - idxSize rs)) ∧ Below w.heap.size w w' := by
  have x1 : ¬ (l - (idxSize rs : Int) < 0) := by omega
  go_enter Try.func37, Try.ntmps37
  go_wp2_with fail
  obtain ⟨k0, hb0⟩ := one_box w 47 #[.slice A n c]
  generalize w.alloc (.cells #[.slice A n c] 47) = W at *
  go_at_call 87; refine (szEntryS_ok _ _ _ _ _ _ (hA.to hb0) h hl).mono ?_; rintro e w2 ⟨rfl, hb2⟩
  have hb0 := hb0.trans (hb2.mono hb0.size)
  go_wp2
  go_ret
  exact ⟨rfl, hb0⟩
theorem szIndex_no (A : Option Addr) (n c : Nat) (rs : List Re) (l : Int) (w : World) (hA : IdxAt w w.heap.size A n rs) (h : l < (idxSize rs : Int)) (h0 : 0 ≤ l) (hl : l ≤ 1048576) (hn : (n : Int) ≤ 9223372036854775807) (hm : ∀ r ∈ rs, r.ln ≤ maxLen ∧ r.m.word.size ≤ maxLen) :
    Calls Try.prog 37 #[.agg #[.slice A n c], .int .i64 l] w fun e w' => e = .returned (.int .i64 (-1)) ∧ Below w.heap.size w w' := by
  go_enter Try.func37, Try.ntmps37
  go_wp2_with fail
  obtain ⟨k0, hb0⟩ := one_box w 47 #[.slice A n c]
  generalize w.alloc (.cells #[.slice A n c] 47) = W at *
  go_at_call 87; refine (szEntryS_no _ _ _ _ _ _ (hA.to hb0) h h0 hl hn hm).mono ?_; rintro e w2 ⟨rfl, hb2⟩
  have hb0 := hb0.trans (hb2.mono hb0.size)
  go_wp2
  go_ret
  exact ⟨rfl, hb0⟩
theorem idx_small {rs : List Re} (h : idxSize rs ≤ 1048576) : rs.length ≤ 1048576 ∧ ∀ r ∈ rs, r.ln ≤ 1048576 ∧ r.m.word.size ≤ 1048576 := by
  refine ⟨by unfold idxSize at h; omega, fun r hr => ?_⟩
  obtain ⟨k, hk⟩ := List.mem_iff_getElem?.1 hr
  have h1 := ezTo_succ hk
  have h2 := ezTo_le rs (k + 1)
  unfold idxSize at h
  omega
theorem fitE_of {w : World} {n B : Nat} {A : Option Addr} {rs : List Re} (h : IdxAt w B A n rs) (hs : idxSize rs ≤ 1048576) : fitE (ens rs) := by
  obtain ⟨h1, h2⟩ := idx_small hs
  refine ⟨by rw [ens_len]; exact h1, fun m hm => ?_⟩
  obtain ⟨r, hr, rfl⟩ := List.mem_map.1 hm
  have := h2 r hr
  have := (h.2 r hr).1
  omega
/-- toIndex: messages of one's own, the same -/
def IndexNew (rs : List Re) (n : Nat) (w : World) (e : Ending) (w' : World) : Prop := ∃ g ts, e = .returned (.agg #[.slice (some ⟨g, 0, none⟩) n n]) ∧ ens ts = ens rs ∧ IdxOwn w' w.heap.size (some ⟨g, 0, none⟩) n n ts ∧ Below w.heap.size w w'
set_option maxHeartbeats 800000 in
theorem toIndex_any (A : Option Addr) (n c : Nat) (rs : List Re) (w : World) (h : IdxAt w w.heap.size A n rs) (hs : idxSize rs ≤ 1048576) :
    Calls Try.prog 39 #[.agg #[.slice A n c]] w (IndexNew rs n w) := by
  have HS := Lib.hid (idx_small hs)
  have hn : n ≤ 1048576 := by have := HS.out.1; have := h.len; omega
  go_enter Try.func39, Try.ntmps39
  go_wp2_with fail
  obtain ⟨k0, k1, k2, hb0⟩ := three_boxes w 47 52 52 #[.slice A n c] #[.slice none 0 0] #[.slice none 0 0]
  generalize (((w.alloc (.cells #[.slice A n c] 47)).alloc (.cells #[.slice none 0 0] 52)).alloc (.cells #[.slice none 0 0] 52)) = W at *
  have hl2 := k2.lt
  have hbW := hb0.size
  go_at_call 89; refine (toEntryS_any _ _ _ _ _ (h.to hb0) hn (fun r hr => (HS.out.2 r hr).1)).mono ?_; rintro e w1 ⟨g, ts, rfl, hts, ho1, hb1⟩
  have HTS := Lib.hid hts
  have k1 := k1.below hb1 (by omega)
  have k2 := k2.below hb1 (by omega)
  have hbA := hb0.trans (hb1.mono hb0.size)
  have l0 := k2.cell 0
  have lf := k2.frozen 0
  have r0 := k1.cell 0
  have f0 := k1.frozen 0
  clear hb1 hb0 h k0 hts
  go_wp2
  refine bodyPost_ret (v := .agg #[.slice (some ⟨g, 0, none⟩) n n]) (by simp [results, Try.results39, go_sem, r0]) rfl ⟨g, ts, rfl, HTS.out, ?_, ?_⟩
  · exact ((ho1.set_ (a := ⟨w.heap.size + 1 + 1, 0, none⟩) hl2 _).sets [(0, _)] (g := w.heap.size + 1) (by omega)).mono hbW
  · exact below_sets [(0, _)] (hbA.setCell (p := ⟨w.heap.size + 1 + 1, 0, none⟩) (by simp; omega) _) (g := w.heap.size + 1) (by omega)
set_option maxHeartbeats 800000 in
theorem eqEntry_same (m : En) (la la' : Option Addr) (ln lc ln' lc' : Nat) (w : World) (h : Row i64v w w.heap.size la ln m.nums) (h' : Row i64v w w.heap.size la' ln' m.nums) (hn : ln ≤ 1048576) :
    Calls Try.prog 145 #[.agg #[.string m.word, .slice la ln lc], .agg #[.string m.word, .slice la' ln' lc']] w fun e w' => e = .returned (.bool true) ∧ Below w.heap.size w w' := by
  obtain rfl : ln = ln' := by rw [← h.1, ← h'.1]
  go_enter Try.func145, Try.ntmps145
  go_wp2_with fail
  obtain ⟨k0, k1, hb0⟩ := two_boxes w 100 100 #[.string m.word, .slice la ln lc] #[.string m.word, .slice la' ln lc']
  generalize ((w.alloc (.cells #[.string m.word, .slice la ln lc] 100)).alloc (.cells #[.string m.word, .slice la' ln lc'] 100)) = W at *
  go_at_call 57; refine (eqInt64S_same _ _ _ _ _ _ _ _ _ (h.to hb0) (h'.to hb0) (by omega)).mono ?_; rintro e w2 ⟨rfl, q, rfl⟩
  go_wp2
  go_ret
  exact ⟨rfl, hb0.trans (Below.mono (drew_below ⟨q, rfl⟩) hb0.size)⟩
set_option maxHeartbeats 1600000 in
theorem eqEntryS_same (A A' : Option Addr) (n c n' c' : Nat) (rs ts : List Re) (w : World) (h : IdxAt w w.heap.size A n rs) (h' : IdxAt w w.heap.size A' n' ts) (he : ens rs = ens ts) (hf : fitE (ens rs)) :
    Calls Try.prog 93 #[.slice A n c, .slice A' n' c'] w fun e w' => e = .returned (.bool true) ∧ Below w.heap.size w w' := by
  obtain rfl : n' = n := by rw [← h.len, ← h'.len, ← ens_len, ← ens_len, he]
  have HE := Lib.hid he
  have hn := fitE_n h hf
  have HF := Lib.hid hf
  clear he hf
  go_enter Try.func93, Try.ntmps93
  go_wp2
  go_loopw [5] (fun i wr => ∃ k : Nat, k ≤ n' ∧ i = .int .i64 k ∧ Below w.heap.size w wr) (fun i _ => n' - (intOf i).toNat)
  case atStart => exact ⟨0, by omega, rfl, Below.refl _ _⟩
  case round =>
    obtain ⟨k, hk, rfl, hbel⟩ := hrel
    by_cases hlt : k < n'
    · obtain ⟨b, off, ⟨m, la, ln, lc⟩, rfl, hb, hz, hr, c0, c1⟩ := h.atr hlt
      obtain ⟨b', off', ⟨m', la', ln', lc'⟩, rfl, hb', hz', hr', e0, e1⟩ := h'.atr hlt
      have hrn := (fitE_ln h.2 HF.out (List.mem_of_getElem? hz)).1
      have hmm : m = m' := by
        have a := ens_at hz; have b := ens_at hz'
        rw [HE.out] at a; rw [a] at b; injection b
      subst hmm
      clear hz hz'
      dsimp only at *
      have HR := Lib.hid (show Row i64v wr.drew wr.drew.heap.size la ln m.nums from (hr.below hbel).more hbel.size)
      have HR' := Lib.hid (show Row i64v wr.drew wr.drew.heap.size la' ln' m.nums from (hr'.below hbel).more hbel.size)
      clear hr hr'
      have d0 := (hbel.cell (p := ⟨b, off + k * 2, none⟩) hb).trans c0
      have f0 := (hbel.cell (p := ⟨b', off' + k * 2, none⟩) hb').trans e0
      have d1 := (hbel.cell (p := ⟨b, off + k * 2 + 1, none⟩) hb).trans c1
      have f1 := (hbel.cell (p := ⟨b', off' + k * 2 + 1, none⟩) hb').trans e1
      have hbs := hbel.size
      have hp : (0 : Int) ≤ (k : Int) := by omega
      have hq : (k : Int) < (n' : Int) := by omega
      clear c0 c1 e0 e1 h h'
      go_wp2_with fail
      go_still_tail 8, (by kernel_rfl)
      go_wp2_with (go_at_call 145; refine (eqEntry_same m la la' ln lc ln' lc' _ HR.out HR'.out hrn).mono ?_; rintro e w4 ⟨rfl, hb4⟩)
      have hbel4 : Below w.heap.size w w4 := hbel.drew.trans (hb4.mono hbs)
      clear hbel hb4
      go_roundw
      case rel => exact ⟨k + 1, by omega, by go_num, hbel4⟩
      case measure => simp [intOf]; omega
    · have hkn : k = n' := by omega
      subst hkn
      go_wp2
      go_ret
      exact ⟨rfl, hbel⟩
theorem eqIndex_same (A A' : Option Addr) (n c n' c' : Nat) (rs ts : List Re) (w : World) (h : IdxAt w w.heap.size A n rs) (h' : IdxAt w w.heap.size A' n' ts) (he : ens rs = ens ts) (hf : fitE (ens rs)) :
    Calls Try.prog 41 #[.agg #[.slice A n c], .agg #[.slice A' n' c']] w fun e w' => e = .returned (.bool true) ∧ Below w.heap.size w w' := by
  go_enter Try.func41, Try.ntmps41
  go_wp2_with fail
  obtain ⟨k0, k1, hb0⟩ := two_boxes w 52 52 #[.slice A n c] #[.slice A' n' c']
  generalize ((w.alloc (.cells #[.slice A n c] 52)).alloc (.cells #[.slice A' n' c'] 52)) = W at *
  go_at_call 93; refine (eqEntryS_same _ _ _ _ _ _ _ _ _ (h.to hb0) (h'.to hb0) he hf).mono ?_; rintro e w2 ⟨rfl, hb2⟩
  have hb0 := hb0.trans (hb2.mono hb0.size)
  go_wp2
  go_ret
  exact ⟨rfl, hb0⟩
end Go.Proofs.Yteeodjbionjlmaa
