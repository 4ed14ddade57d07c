import Derived.Test.YtmdoddikaaaamaaChecked
import Derived.WalkKit
import Derived.ProofKit
import Derived.OpenShut
import Derived.ShutString
import Derived.ChangeOld
import Derived.Below
import Derived.Lib.Hide
import Derived.Deep.QuietTactic
import Derived.BigQuiet
import Derived.Shelf.Abstract
import Derived.Test.YtmdoddikaaaamaaZRunA
import Derived.Test.YtmdoddikaaaamaaZBktS
namespace Go.Proofs.Ytmdoddikaaaamaa
open Go.ChangeShapes Go.WideShapes Go.ChangeAt Go.RowKit
open Go.ChangeMaps (open_string shut_string)
set_option linter.unusedVariables false
set_option maxRecDepth 100000
theorem drop_cons {α : Type} {xs : List α} {k : Nat} {z : α} (h : xs[k]? = some z) : xs.drop k = z :: xs.drop (k + 1) := by
  have hk : k < xs.length := (List.getElem?_eq_some_iff.1 h).1
  have e : xs[k] = z := by rw [List.getElem?_eq_getElem hk] at h; injection h
  rw [List.drop_eq_getElem_cons hk, e]
theorem World.ownsRow_mono0 (W : World) {B : Nat} (hB : B ≤ W.heap.size) : (W.alloc (.cells #[] 4)).ownsRow B 4 1 (.slice (some ⟨W.heap.size, 0, none⟩) 0 0) 0 [] := World.ownsRow.mono (World.ownsRow_made W #[] 0 (Nat.le_refl _) (by decide) rfl) hB
set_option maxHeartbeats 1600000 in
theorem l06Times_any (f : Int) (A : Option Addr) (n c B : Nat) (xs : List Int) (w : World) (h : Row i64v w B A n xs) (hn : n ≤ 1048576) :
    Calls Try.prog 64 #[.slice A n c, .int .i64 f] w fun e w' => e = .returned (.bool (timesF f xs)) ∧ w = w' := by
  have HL := Lib.hid h.1
  by_cases hl : 256 < n
  · have x1 : decide ((256 : Int) < (n : Int)) = true := decide_eq_true (by omega)
    have E := Lib.hid (show timesF f xs = false by unfold timesF; rw [decide_eq_false (by have := HL.out; omega)]; rfl)
    go_enter Try.func64, Try.ntmps64
    go_wp2
    go_ret
    exact ⟨ret_bool E.out.symm, rfl⟩
  have x1 : decide ((256 : Int) < (n : Int)) = false := decide_eq_false (by omega)
  have E := Lib.hid (show timesF f xs = tmG f xs by unfold timesF; rw [decide_eq_true (by have := HL.out; omega)]; rfl)
  go_enter Try.func64, Try.ntmps64
  go_wp2
  clear x1 hl
  go_loopw [1, 5] (fun q i wr => ∃ (k : Nat) (f' : Int), k ≤ n ∧ i = .int .i64 k ∧ q = .int .i64 f' ∧ Hid (tmG f xs = tmG f' (xs.drop k)) ∧ wr = w) (fun _ i _ => n - (intOf i).toNat)
  case atStart => exact ⟨0, f, by omega, rfl, rfl, Lib.hid rfl, rfl⟩
  case round =>
    obtain ⟨k, f', hk, rfl, rfl, HT, rfl⟩ := hrel
    by_cases hlt : k < n
    · have hlt' : decide ((k : Int) < (n : Int)) = true := decide_eq_true (by omega)
      obtain ⟨b, off, z, rfl, _, hz, c0⟩ := h.at_ hlt
      have HD := Lib.hid (drop_cons hz)
      clear hz h
      cases t0 : decide (f' ≤ z ∧ z ≤ 1000000) with
      | false =>
        have F := Lib.hid (show tmG f xs = false by rw [HT.out, HD.out, tmG, t0]; rfl)
        go_wp2_with (go_at_call 61; refine (l00In_b _ _ _ _ _ t0).mono ?_; rintro e w' ⟨rfl, rfl⟩)
        go_ret
        exact ⟨ret_bool (by rw [E.out, F.out]), rfl⟩
      | true =>
        have F := Lib.hid (show tmG f xs = tmG z (xs.drop (k + 1)) by rw [HT.out, HD.out, tmG, t0]; rfl)
        go_wp2_with (go_at_call 61; refine (l00In_b _ _ _ _ _ t0).mono ?_; rintro e w' ⟨rfl, rfl⟩)
        go_roundw
        case rel => exact ⟨k + 1, z, by omega, by go_num, rfl, F, by first | rfl | trivial⟩
        case measure => simp [intOf]; omega
    · have hlt' : decide ((k : Int) < (n : Int)) = false := decide_eq_false (by omega)
      have F := Lib.hid (show tmG f xs = true by rw [HT.out, List.drop_eq_nil_of_le (by have := HL.out; omega)]; rfl)
      go_wp2
      go_ret
      exact ⟨ret_bool (by rw [E.out, F.out]), rfl⟩
set_option maxHeartbeats 6400000 in
theorem spec_RunBucket_any (b : Bk) (A : Option Addr) (n c : Nat) (xs : List Int) (w : World) (h : Row i64v w w.heap.size A n xs) (hn : n ≤ 1048576) :
    Calls Try.prog 29 #[.agg #[.int .i64 b.sz, .int .i64 b.ev, .int .i64 b.lf, .int .i64 b.tm], .slice A n c] w (RunsOut (okRun b xs) (giveK (okRun b xs) (runG stB b xs).2) (runG stB b xs).1 w) := by
  obtain ⟨i0, hi, hz0, hz1, hz2⟩ := info_parts Try.info_bool
  have HL := Lib.hid h.1
  cases tb : bktB b with
  | false =>
    have E := Lib.hid (okRun_no (xs := xs) tb)
    go_enter Try.func29, Try.ntmps29
    go_wp2_with fail
    obtain ⟨k2, k4, hb⟩ := two_boxes w 25 25 #[.int .i64 b.sz, .int .i64 b.ev, .int .i64 b.lf, .int .i64 b.tm] #[.int .i64 0, .int .i64 0, .int .i64 0, .int .i64 0]
    generalize (w.alloc (.cells #[.int .i64 b.sz, .int .i64 b.ev, .int .i64 b.lf, .int .i64 b.tm] 25)).alloc (.cells #[.int .i64 0, .int .i64 0, .int .i64 0, .int .i64 0] 25) = W at *
    go_at_call 56; refine (l06Is_b _ _ _ _ k2 tb).mono ?_; rintro e W1 ⟨rfl, qn, hq⟩
    have hbn := drew_below ⟨qn, hq⟩; clear hq
    have k2 := k2.below hbn k2.lt; have k4 := k4.below hbn k4.lt; have hb := hb.trans (hbn.mono hb.size); clear hbn
    have k2_c0 := k2.cell 0; have k2_f0 := k2.frozen 0; have k2_c1 := k2.cell 1; have k2_f1 := k2.frozen 1; have k2_c2 := k2.cell 2; have k2_f2 := k2.frozen 2; have k2_c3 := k2.cell 3; have k2_f3 := k2.frozen 3; have k2_l := k2.lt
    have k4_c0 := k4.cell 0; have k4_f0 := k4.frozen 0; have k4_c1 := k4.cell 1; have k4_f1 := k4.frozen 1; have k4_c2 := k4.cell 2; have k4_f2 := k4.frozen 2; have k4_c3 := k4.cell 3; have k4_f3 := k4.frozen 3; have k4_l := k4.lt
    have hsz := hb.size
    go_wp2
    refine bodyPost_ret (v := .tuple #[.agg #[.int .i64 0, .int .i64 0, .int .i64 0, .int .i64 0], .slice none 0 0, .bool false]) (by simp [results, Try.results29, go_sem, k4_c0, k4_c1, k4_c2, k4_c3]) rfl ?_
    rw [E.out]
    exact runsOut_no (by repeat (first | exact hb | refine Below.setCell ?_ (by first | (simp; done) | (simp; omega) | omega) _))
  | true =>
    have HTB := Lib.hid tb
    cases tt : timesF b.tm xs with
    | false =>
      have E := Lib.hid (show okRun b xs = false by unfold okRun; rw [tt, Bool.and_false])
      go_enter Try.func29, Try.ntmps29
      go_wp2_with fail
      obtain ⟨k2, k4, hb⟩ := two_boxes w 25 25 #[.int .i64 b.sz, .int .i64 b.ev, .int .i64 b.lf, .int .i64 b.tm] #[.int .i64 0, .int .i64 0, .int .i64 0, .int .i64 0]
      generalize (w.alloc (.cells #[.int .i64 b.sz, .int .i64 b.ev, .int .i64 b.lf, .int .i64 b.tm] 25)).alloc (.cells #[.int .i64 0, .int .i64 0, .int .i64 0, .int .i64 0] 25) = W at *
      go_at_call 56; refine (l06Is_b _ _ _ _ k2 tb).mono ?_; rintro e W1 ⟨rfl, qn, hq⟩
      have hbn := drew_below ⟨qn, hq⟩; clear hq
      have k2 := k2.below hbn k2.lt; have k4 := k4.below hbn k4.lt; have hb := hb.trans (hbn.mono hb.size); clear hbn
      have k2_c0 := k2.cell 0; have k2_f0 := k2.frozen 0; have k2_c1 := k2.cell 1; have k2_f1 := k2.frozen 1; have k2_c2 := k2.cell 2; have k2_f2 := k2.frozen 2; have k2_c3 := k2.cell 3; have k2_f3 := k2.frozen 3; have k2_l := k2.lt
      have k4_c0 := k4.cell 0; have k4_f0 := k4.frozen 0; have k4_c1 := k4.cell 1; have k4_f1 := k4.frozen 1; have k4_c2 := k4.cell 2; have k4_f2 := k4.frozen 2; have k4_c3 := k4.cell 3; have k4_f3 := k4.frozen 3; have k4_l := k4.lt
      have hsz := hb.size
      go_wp2_with fail
      clear k2_c0 k2_f0 k2_c1 k2_f1 k2_c2 k2_f2 k2_c3 k2_f3 k2_l
      clear k4_c0 k4_f0 k4_c1 k4_f1 k4_c2 k4_f2 k4_c3 k4_f3 k4_l
      clear hsz
      go_at_call 64; refine (l06Times_any b.tm A n c _ xs _ (h.below hb) hn).mono ?_; rw [tt]; rintro e W2 ⟨rfl, rfl⟩
      have k2_c0 := k2.cell 0; have k2_f0 := k2.frozen 0; have k2_c1 := k2.cell 1; have k2_f1 := k2.frozen 1; have k2_c2 := k2.cell 2; have k2_f2 := k2.frozen 2; have k2_c3 := k2.cell 3; have k2_f3 := k2.frozen 3; have k2_l := k2.lt
      have k4_c0 := k4.cell 0; have k4_f0 := k4.frozen 0; have k4_c1 := k4.cell 1; have k4_f1 := k4.frozen 1; have k4_c2 := k4.cell 2; have k4_f2 := k4.frozen 2; have k4_c3 := k4.cell 3; have k4_f3 := k4.frozen 3; have k4_l := k4.lt
      have hsz := hb.size
      go_wp2
      refine bodyPost_ret (v := .tuple #[.agg #[.int .i64 0, .int .i64 0, .int .i64 0, .int .i64 0], .slice none 0 0, .bool false]) (by simp [results, Try.results29, go_sem, k4_c0, k4_c1, k4_c2, k4_c3]) rfl ?_
      rw [E.out]
      exact runsOut_no (by repeat (first | exact hb | refine Below.setCell ?_ (by first | (simp; done) | (simp; omega) | omega) _))
    | true =>
      have E := Lib.hid (show okRun b xs = true by unfold okRun; rw [tt, tb]; rfl)
      have E1 := (okRun_eq (xs := xs) tb).symm.trans E.out
      obtain ⟨es, et⟩ := and_both E1
      have HPR := Lib.hid (pre_run xs b none (by have h1 := et; unfold ticksB rowG at h1; exact (and_both h1).2) tb es)
      clear E1 es et
      go_enter Try.func29, Try.ntmps29
      go_wp2_with fail
      obtain ⟨k2, k4, hb⟩ := two_boxes w 25 25 #[.int .i64 b.sz, .int .i64 b.ev, .int .i64 b.lf, .int .i64 b.tm] #[.int .i64 0, .int .i64 0, .int .i64 0, .int .i64 0]
      generalize (w.alloc (.cells #[.int .i64 b.sz, .int .i64 b.ev, .int .i64 b.lf, .int .i64 b.tm] 25)).alloc (.cells #[.int .i64 0, .int .i64 0, .int .i64 0, .int .i64 0] 25) = W at *
      go_at_call 56; refine (l06Is_b _ _ _ _ k2 tb).mono ?_; rintro e W1 ⟨rfl, qn, hq⟩
      have hbn := drew_below ⟨qn, hq⟩; clear hq
      have k2 := k2.below hbn k2.lt; have k4 := k4.below hbn k4.lt; have hb := hb.trans (hbn.mono hb.size); clear hbn
      have k2_c0 := k2.cell 0; have k2_f0 := k2.frozen 0; have k2_c1 := k2.cell 1; have k2_f1 := k2.frozen 1; have k2_c2 := k2.cell 2; have k2_f2 := k2.frozen 2; have k2_c3 := k2.cell 3; have k2_f3 := k2.frozen 3; have k2_l := k2.lt
      have k4_c0 := k4.cell 0; have k4_f0 := k4.frozen 0; have k4_c1 := k4.cell 1; have k4_f1 := k4.frozen 1; have k4_c2 := k4.cell 2; have k4_f2 := k4.frozen 2; have k4_c3 := k4.cell 3; have k4_f3 := k4.frozen 3; have k4_l := k4.lt
      have hsz := hb.size
      go_wp2_with fail
      clear k2_c0 k2_f0 k2_c1 k2_f1 k2_c2 k2_f2 k2_c3 k2_f3 k2_l
      clear k4_c0 k4_f0 k4_c1 k4_f1 k4_c2 k4_f2 k4_c3 k4_f3 k4_l
      clear hsz
      go_at_call 64; refine (l06Times_any b.tm A n c _ xs _ (h.below hb) hn).mono ?_; rw [tt]; rintro e W2 ⟨rfl, rfl⟩
      have k2_c0 := k2.cell 0; have k2_f0 := k2.frozen 0; have k2_c1 := k2.cell 1; have k2_f1 := k2.frozen 1; have k2_c2 := k2.cell 2; have k2_f2 := k2.frozen 2; have k2_c3 := k2.cell 3; have k2_f3 := k2.frozen 3; have k2_l := k2.lt
      have k4_c0 := k4.cell 0; have k4_f0 := k4.frozen 0; have k4_c1 := k4.cell 1; have k4_f1 := k4.frozen 1; have k4_c2 := k4.cell 2; have k4_f2 := k4.frozen 2; have k4_c3 := k4.cell 3; have k4_f3 := k4.frozen 3; have k4_l := k4.lt
      have hsz := hb.size
      go_wp2
      clear k2_c0 k2_f0 k2_c1 k2_f1 k2_c2 k2_f2 k2_c3 k2_f3 k2_l
      clear k4_c0 k4_f0 k4_c1 k4_f1 k4_c2 k4_f2 k4_c3 k4_f3 k4_l
      clear hsz
      have hr0 := h.below hb
      clear h
      have hW := hb.size
      have HK := Lib.hid (And.intro k2 (And.intro k4 hb))
      go_loopw [7, 8] (fun v i wr => ∃ (k : Nat) (u : Value), k ≤ n ∧ i = .int .i64 k ∧ v = u ∧ wr.ownsRow w.heap.size 4 1 u k ((runG stB b (xs.take k)).1.map boolv) ∧ Below w.heap.size w wr ∧ Blk wr w.heap.size 25 #[.int .i64 (runG stB b (xs.take k)).2.sz, .int .i64 (runG stB b (xs.take k)).2.ev, .int .i64 (runG stB b (xs.take k)).2.lf, .int .i64 (runG stB b (xs.take k)).2.tm] ∧ Blk wr (w.heap.size + 1) 25 #[.int .i64 0, .int .i64 0, .int .i64 0, .int .i64 0] ∧ Row i64v wr w.heap.size A n xs) (fun _ i _ => n - (intOf i).toNat)
      case atStart => exact ⟨0, _, by omega, rfl, rfl, by simpa [runG] using World.ownsRow_mono0 W1 hW, hb.alloc (by omega) _, by simpa [runG] using k2.alloc _, k4.alloc _, hr0.below ((Below.refl _ _).alloc (by omega) _)⟩
      case round =>
        clear k2 k4 hb hr0
        obtain ⟨k, u, hk, rfl, rfl, hown, hb, k2, k4, hr⟩ := hrel
        by_cases hlt : k < n
        · have hlt' : decide ((k : Int) < (n : Int)) = true := decide_eq_true (by omega)
          obtain ⟨x0, off, z, rfl, hxb, hz, c0⟩ := hr.at_ hlt
          have HST := Lib.hid (runG_step (st := stB) (s := b) hz)
          have hp := HPR.out k z hz
          obtain ⟨sk, hsk⟩ : ∃ x, (runG stB b (xs.take k)).2 = x := ⟨_, rfl⟩
          rw [hsk] at k2 hp
          have HSK := Lib.hid hsk
          have HP := Lib.hid hp
          have HR := Lib.hid hr
          obtain ⟨tk, htk⟩ : ∃ x, takeB sk 1 z = x := ⟨_, rfl⟩
          obtain ⟨dd, hdd⟩ : ∃ x, didB sk 1 z = x := ⟨_, rfl⟩
          have HTK := Lib.hid htk; have HDD := Lib.hid hdd
          clear hz hsk hp hr htk hdd
          have hsz := hb.size
          have hown0 := hown; clear hown
          go_wp2_with fail
          go_at_call 62; refine (l06Take_any _ sk 1 z _ k2 (bktB_ok HP.out.ok) HP.out.h1 HP.out.h2 (by decide) (bktB_ok HP.out.ok).s1).mono ?_; rw [HTK.out, HDD.out]; rintro e W5 ⟨rfl, kk, hg⟩
          have hown5 := hown0.kept hg (row_not_blk hown0 k2 (by decide))
          have k4 := k4.grown hg (by intro e; injection e with e; omega)
          have hb5 := hb.grown hg hsz (by intro j hj; injection hj with hj; omega)
          have hs5 := hb5.size
          have hbx : Below w.heap.size wr W5 := (Below.refl _ _).grown hg hsz (by intro j hj; injection hj with hj; omega)
          have hr5 := HR.out.below hbx
          clear hown0 k2 hg hb hbx c0
          go_wp2_with (at_builtin; refine wpList_append_own _ rfl _ _ 42 rfl w.heap.size 4 i0 (.bool false) 1 1 Try.underlying42 hi hz0 hz1 hz2 rfl (by decide) _ _ _ rfl (hown5.alloc _) ⟨W5.heap.size, 0, none⟩ 1 1 [.bool dd] rfl rfl (cell_newB _ _ _ _ rfl) (by intro u hu; simp at hu; subst hu; rfl) (by unfold maxLen; omega) (by omega) (by simp; omega) ?_; intro v' w6 hown' hgrow _)
          have hA := hown5.alloc (.cells #[.bool dd] 4)
          have k2A := kk.alloc (.cells #[.bool dd] 4); have k4A := k4.alloc (.cells #[.bool dd] 4)
          have k2N := k2A.grown hgrow (blk_ne hA k2A (by decide)); have k4N := k4A.grown hgrow (blk_ne hA k4A (by decide))
          have hbel6 : Below w.heap.size w w6 := (hb5.alloc hs5 _).grown hgrow (by simp; omega) (fun g hg => (hown5.lt g hg).1)
          have hb56 : Below w.heap.size W5 w6 := ((Below.refl _ _).alloc hs5 _).grown hgrow (by simp; omega) (fun g hg => (hown5.lt g hg).1)
          have hr6 := hr5.below hb56
          clear hgrow hown5 hb5 hA k2A k4A kk k4 hr5 hb56
          go_roundw
          case rel => exact ⟨k + 1, v', by omega, by go_num, rfl, by rw [HST.out, List.map_append, HSK.out]; show _ ; simp only [stB]; rw [HDD.out]; exact hown', hbel6, by rw [HST.out, HSK.out]; simp only [stB]; rw [HTK.out]; exact k2N, k4N, hr6⟩
          case measure => simp [intOf]; omega
        · have hlt' : decide ((k : Int) < (n : Int)) = false := decide_eq_false (by omega)
          have hkn : k = n := by omega
          subst hkn
          rw [List.take_of_length_le (by have := HL.out; omega)] at hown k2
          obtain ⟨bt, hbt⟩ : ∃ z, (runG stB b xs).2 = z := ⟨_, rfl⟩
          rw [hbt] at k2
          have HBT := Lib.hid hbt; clear hbt
          have HO := Lib.hid hown
          clear hown hr
          rcases HO.out.2 with ⟨hv, hv0⟩ | ⟨g', cap', cur', hv, _⟩
          · subst hv
            have k2_c0 := k2.cell 0; have k2_f0 := k2.frozen 0; have k2_c1 := k2.cell 1; have k2_f1 := k2.frozen 1; have k2_c2 := k2.cell 2; have k2_f2 := k2.frozen 2; have k2_c3 := k2.cell 3; have k2_f3 := k2.frozen 3; have k2_l := k2.lt
            have k4_c0 := k4.cell 0; have k4_f0 := k4.frozen 0; have k4_c1 := k4.cell 1; have k4_f1 := k4.frozen 1; have k4_c2 := k4.cell 2; have k4_f2 := k4.frozen 2; have k4_c3 := k4.cell 3; have k4_f3 := k4.frozen 3; have k4_l := k4.lt
            have hsz := hb.size
            go_wp2
            refine bodyPost_ret (v := .tuple #[.agg #[.int .i64 bt.sz, .int .i64 bt.ev, .int .i64 bt.lf, .int .i64 bt.tm], .slice none 0 0, .bool true]) (by simp [results, Try.results29, go_sem, k4_c0, k2_c0, k4_c1, k2_c1, k4_c2, k2_c2, k4_c3, k2_c3]) rfl ?_
            rw [E.out, HBT.out]
            have HO2 := row_far4 (by have := HO.out; rw [hv0] at this; exact this) k4 (by decide) (u0 := .int .i64 bt.sz) (u1 := .int .i64 bt.ev) (u2 := .int .i64 bt.lf) (u3 := .int .i64 bt.tm)
            exact ⟨_, _, _, (runG stB b xs).1, rfl, rfl, HO2, (by repeat (first | exact hb | refine Below.setCell ?_ (by first | (simp; done) | (simp; omega) | omega) _))⟩
          · subst hv
            have k2_c0 := k2.cell 0; have k2_f0 := k2.frozen 0; have k2_c1 := k2.cell 1; have k2_f1 := k2.frozen 1; have k2_c2 := k2.cell 2; have k2_f2 := k2.frozen 2; have k2_c3 := k2.cell 3; have k2_f3 := k2.frozen 3; have k2_l := k2.lt
            have k4_c0 := k4.cell 0; have k4_f0 := k4.frozen 0; have k4_c1 := k4.cell 1; have k4_f1 := k4.frozen 1; have k4_c2 := k4.cell 2; have k4_f2 := k4.frozen 2; have k4_c3 := k4.cell 3; have k4_f3 := k4.frozen 3; have k4_l := k4.lt
            have hsz := hb.size
            go_wp2
            refine bodyPost_ret (v := .tuple #[.agg #[.int .i64 bt.sz, .int .i64 bt.ev, .int .i64 bt.lf, .int .i64 bt.tm], .slice (some ⟨g', 0, none⟩) k cap', .bool true]) (by simp [results, Try.results29, go_sem, k4_c0, k2_c0, k4_c1, k2_c1, k4_c2, k2_c2, k4_c3, k2_c3]) rfl ?_
            rw [E.out, HBT.out]
            have HO2 := row_far4 (HO.out) k4 (by decide) (u0 := .int .i64 bt.sz) (u1 := .int .i64 bt.ev) (u2 := .int .i64 bt.lf) (u3 := .int .i64 bt.tm)
            exact ⟨_, _, _, (runG stB b xs).1, rfl, rfl, HO2, (by repeat (first | exact hb | refine Below.setCell ?_ (by first | (simp; done) | (simp; omega) | omega) _))⟩
end Go.Proofs.Ytmdoddikaaaamaa
