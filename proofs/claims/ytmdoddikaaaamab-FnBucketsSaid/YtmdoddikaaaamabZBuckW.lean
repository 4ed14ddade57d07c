import Derived.Test.YtmdoddikaaaamabChecked
import Derived.WalkKit
import Derived.ProofKit
import Derived.OpenShut
import Derived.ShutString
import Derived.ChangeOld
import Derived.Below
import Derived.Lib.Hide
import Derived.Deep.QuietTactic
import Derived.BigQuiet
import Derived.Deep.RegionWith
import Derived.Deep.CutRange
import Derived.Test.YtmdoddikaaaamabZBuckP
import Derived.Test.YtmdoddikaaaamabJxb
namespace Go.Proofs.Ytmdoddikaaaamab
open Go.ChangeShapes Go.WideShapes Go.ChangeAt Go.RowKit
open Go.ChangeMaps (open_string shut_string)
set_option linter.unusedVariables false
set_option maxRecDepth 100000
theorem g2w {x y : Int} (h : 0 ≤ x ∧ x ≤ 9223372036854775807 ∧ 1 ≤ y) : wrap64 (x.tdiv y) = x / y := by
  rw [Int.tdiv_eq_ediv_of_nonneg h.1]
  have := IntWalk.tdiv_le x y h.1 h.2.2
  exact IntWalk.wrap64_in _ (by omega)
theorem cut_new {W4 V W7 : World} {A9 : Option Addr} {c9 ka : Nat} {z9 l : List Bool} {bm : Bk} (hV : Below W4.heap.size W4 V) (hb : Below V.heap.size V W7) (ho : W7.ownsRow V.heap.size 4 1 (.slice A9 ka c9) ka (z9.map boolv)) (hz : z9 = l) :
    ∃ (g : Nat) (A : Option Addr) (c : Nat) (z : List Bool), Value.pointer (some ⟨W7.heap.size, 0, none⟩) = .pointer (some ⟨g, 0, none⟩) ∧ Value.slice A9 ka c9 = .slice A ka c ∧ Value.bool true = .bool true ∧ Hid (z = l) ∧ Hid (Blk (W7.alloc (.cells #[.int .i64 bm.sz, .int .i64 bm.ev, .int .i64 bm.lf, .int .i64 bm.tm] 66)) g 66 #[.int .i64 bm.sz, .int .i64 bm.ev, .int .i64 bm.lf, .int .i64 bm.tm]) ∧
      Hid (Row boolv (W7.alloc (.cells #[.int .i64 bm.sz, .int .i64 bm.ev, .int .i64 bm.lf, .int .i64 bm.tm] 66)) (W7.alloc (.cells #[.int .i64 bm.sz, .int .i64 bm.ev, .int .i64 bm.lf, .int .i64 bm.tm] 66)).heap.size A ka z) ∧ Hid (Below W4.heap.size W4 (W7.alloc (.cells #[.int .i64 bm.sz, .int .i64 bm.ev, .int .i64 bm.lf, .int .i64 bm.tm] 66))) :=
  ⟨_, _, _, z9, rfl, rfl, rfl, Lib.hid hz, Lib.hid (Blk.new _ _ _), Lib.hid (Row.of_own_any (ho.alloc _)), Lib.hid ((hV.trans (hb.mono hV.size)).alloc (Nat.le_trans hV.size hb.size) _)⟩
theorem cut_old {W4 V W7 : World} {A9 : Option Addr} {c9 ka : Nat} {z9 l : List Bool} {bm : Bk} (hV : Below W4.heap.size W4 V) (hb : Below V.heap.size V W7) (ho : W7.ownsRow V.heap.size 4 1 (.slice A9 ka c9) ka (z9.map boolv)) (hz : z9 = l) (kz : Blk W7 W4.heap.size 66 #[.int .i64 0, .int .i64 0, .int .i64 0, .int .i64 0]) :
    ∃ (g : Nat) (A : Option Addr) (c : Nat) (z : List Bool), Value.pointer (some ⟨W4.heap.size, 0, none⟩) = .pointer (some ⟨g, 0, none⟩) ∧ Value.slice A9 ka c9 = .slice A ka c ∧ Value.bool true = .bool true ∧ Hid (z = l) ∧ Hid (Blk ((((W7.setCell ⟨W4.heap.size, 0, none⟩ (.int .i64 bm.sz)).setCell ⟨W4.heap.size, 1, none⟩ (.int .i64 bm.ev)).setCell ⟨W4.heap.size, 2, none⟩ (.int .i64 bm.lf)).setCell ⟨W4.heap.size, 3, none⟩ (.int .i64 bm.tm)) g 66 #[.int .i64 bm.sz, .int .i64 bm.ev, .int .i64 bm.lf, .int .i64 bm.tm]) ∧
      Hid (Row boolv ((((W7.setCell ⟨W4.heap.size, 0, none⟩ (.int .i64 bm.sz)).setCell ⟨W4.heap.size, 1, none⟩ (.int .i64 bm.ev)).setCell ⟨W4.heap.size, 2, none⟩ (.int .i64 bm.lf)).setCell ⟨W4.heap.size, 3, none⟩ (.int .i64 bm.tm)) ((((W7.setCell ⟨W4.heap.size, 0, none⟩ (.int .i64 bm.sz)).setCell ⟨W4.heap.size, 1, none⟩ (.int .i64 bm.ev)).setCell ⟨W4.heap.size, 2, none⟩ (.int .i64 bm.lf)).setCell ⟨W4.heap.size, 3, none⟩ (.int .i64 bm.tm)).heap.size A ka z) ∧ Hid (Below W4.heap.size W4 ((((W7.setCell ⟨W4.heap.size, 0, none⟩ (.int .i64 bm.sz)).setCell ⟨W4.heap.size, 1, none⟩ (.int .i64 bm.ev)).setCell ⟨W4.heap.size, 2, none⟩ (.int .i64 bm.lf)).setCell ⟨W4.heap.size, 3, none⟩ (.int .i64 bm.tm))) :=
  ⟨_, _, _, z9, rfl, rfl, rfl, Lib.hid hz, Lib.hid ((((kz.set_ 0 _).set_ 1 _).set_ 2 _).set_ 3 _), Lib.hid (Row.of_own_any (row_far4 ho kz (by decide))), Lib.hid (((((hV.trans (hb.mono hV.size)).setCell (by simp) _).setCell (by simp) _).setCell (by simp) _).setCell (by simp) _)⟩
theorem take_row {w : World} {B n k : Nat} {A : Option Addr} {xs : List Int} (h : Row i64v w B A n xs) (hk : k ≤ n) : Row i64v w B A k (xs.take k) := by
  refine ⟨by rw [List.length_take, h.1]; omega, fun h0 => ?_⟩
  obtain ⟨b, off, e, hb, hc⟩ := h.2 (by omega)
  refine ⟨b, off, e, hb, fun j z hj => hc j z ?_⟩
  have hjk : j < k := by have := (List.getElem?_eq_some_iff.1 hj).1; simp at this; omega
  rw [List.getElem?_take_of_lt hjk] at hj
  exact hj
theorem drop_row {w : World} {B n k g c : Nat} {xs : List Int} (h : Row i64v w B (some ⟨g, 0, none⟩) n xs) (hk : k ≤ n) (hc : n ≤ c) : Row i64v w B (if c = k then some ⟨g, 0, none⟩ else some ⟨g, k, none⟩) (n - k) (xs.drop k) := by
  refine ⟨by rw [List.length_drop, h.1], fun h0 => ?_⟩
  obtain ⟨b, off, e, hb, hc⟩ := h.2 (by omega)
  simp only [Option.some.injEq, Addr.mk.injEq, and_true] at e
  obtain ⟨rfl, rfl⟩ := e
  rw [if_neg (by omega)]
  refine ⟨g, k, rfl, hb, fun j z hj => ?_⟩
  rw [List.getElem?_drop] at hj
  have := hc (k + j) z hj
  rwa [Nat.zero_add] at this
theorem own_capB {w : World} {base e s m g c : Nat} {xs : List Value} (h : w.ownsRow base e s (.slice (some ⟨g, 0, none⟩) m c) m xs) : m ≤ c := by
  rcases h.2 with ⟨hv, _⟩ | ⟨g', cap, cur, hv, _, _, h1, _⟩
  · cases hv
  · injection hv with _ _ h3; omega
set_option maxHeartbeats 12800000 in
theorem buckets_all {w : World} (A : Option Addr) (n c : Nat) (A' : Option Addr) (n' c' : Nat) (ys ys' : List Nat) (h : Row u8v w w.heap.size A n ys) (hz : ∀ z ∈ ys, z < 256) (h' : Row u8v w w.heap.size A' n' ys') (hz' : ∀ z ∈ ys', z < 256) :
    Calls Try.prog 11 #[.slice A n c, .slice A' n' c'] w fun e w' => e = .returned (.bool true) ∧ Below w.heap.size w w' := by
  by_cases hl : n ≤ 48 ∧ n' ≤ 48
  rotate_left
  · go_enter Try.func11, Try.ntmps11
    go_wp2_with fail
    go_at_call 45; refine (r8Long_yes _ _ _ _ _ _ _ hl).mono ?_; rintro e w1 ⟨rfl, rfl⟩
    go_wp2
    go_ret
    exact ⟨rfl, Below.refl _ _⟩
  obtain ⟨hl1, hl2⟩ := hl
  go_enter Try.func11, Try.ntmps11
  go_wp2_with fail
  go_at_call 45; refine (r8Long_no _ _ _ _ _ _ _ hl1 hl2).mono ?_; rintro e w1 ⟨rfl, rfl⟩
  go_wp2_with fail
  go_at_call 46; refine (R8Bucket_any A n c ys _ _ h (Nat.le_refl _) hz).mono ?_; rintro e w2 ⟨b, rfl, hV, hb⟩
  have h' := h'.to hb
  have HV := Lib.hid hV; clear hV h hz
  go_wp2_with fail
  obtain ⟨k5, hbn⟩ := one_box w2 66 #[.int .i64 b.sz, .int .i64 b.ev, .int .i64 b.lf, .int .i64 b.tm]
  have hs2 := hb.size
  generalize w2.alloc (.cells #[.int .i64 b.sz, .int .i64 b.ev, .int .i64 b.lf, .int .i64 b.tm] 66) = W1 at *
  have h' := h'.to hbn
  have hb := hb.trans (hbn.mono hb.size); clear hbn
  go_at_call 52; refine (R8TimesS_any A' n' c' ys' _ b.tm _ h' (Nat.le_refl _) hz' ⟨HV.out.t1, by have := HV.out.t2; omega⟩).mono ?_; rintro e W2 ⟨g6, c6, xs, rfl, hox, hD, hbn⟩
  have HC6 := Lib.hid (own_capB hox)
  have k5 := k5.below hbn k5.lt; have h' := h'.to hbn; have hb := hb.trans (hbn.mono hb.size); clear hbn
  have HB := Lib.hid (bktB_of HV.out.ok)
  have HT := Lib.hid hD.up
  have HLN := Lib.hid hD.len
  have HR := Lib.hid (Row.of_own_any hox)
  clear hox hD
  obtain ⟨n6, hn6⟩ : ∃ z, xs.length = z := ⟨_, rfl⟩
  have HN6 := Lib.hid hn6
  have h13 : n6 ≤ 13 := by rw [← hn6]; exact HLN.out
  rw [hn6] at HR
  simp only [hn6]
  clear hn6
  obtain ⟨at_, hat⟩ : ∃ x, r8v ys' 40 ((n6 : Int) + 1) = x := ⟨_, rfl⟩
  have ba := r8v_bd ys' 40 ((n6 : Int) + 1) (by omega)
  rw [hat] at ba
  obtain ⟨ka, hka⟩ : ∃ k : Nat, at_ = (k : Int) := ⟨at_.toNat, by omega⟩
  rw [hka] at hat ba
  have HAT := Lib.hid hat
  have hkn : ka ≤ n6 := by omega
  clear hat ba hka
  have HC := Lib.hid (cut_ok HT.out (by have := HLN.out; omega) HB.out ka)
  obtain ⟨os, hos⟩ : ∃ z, (runG stB b xs).1 = z := ⟨_, rfl⟩
  obtain ⟨be, hbe⟩ : ∃ z, (runG stB b xs).2 = z := ⟨_, rfl⟩
  have HOS := Lib.hid hos; have HBE := Lib.hid hbe
  have HOL := Lib.hid (show os.length = n6 by rw [← hos, runG_len]; exact HN6.out)
  clear hos hbe
  have k5_c0 := k5.cell 0; have k5_c1 := k5.cell 1; have k5_c2 := k5.cell 2; have k5_c3 := k5.cell 3; have k5_l := k5.lt
  go_wp2_with fail
  clear k5_c0 k5_c1 k5_c2 k5_c3 k5_l
  go_at_call 53; refine (impl_RunBucket_any b _ _ _ xs _ HR.out (by omega)).mono ?_; rw [HC.out.1, giveK_true2, HBE.out, HOS.out]; rintro e W3 ⟨A8, n8, c8, z8, rfl, hz8, ho8, hbn⟩
  rw [if_pos rfl] at hz8
  rw [hz8] at ho8
  obtain rfl : n6 = n8 := by have := ho8.1; simp at this; rw [← this]; exact HOL.out.symm
  clear hz8
  have k5 := k5.below hbn k5.lt; have h' := h'.to hbn; have hb := hb.trans (hbn.mono hb.size)
  have HR := Lib.hid ((HR.out.below hbn).more hbn.size)
  have HO := Lib.hid (Row.of_own_any ho8)
  clear hbn ho8
  have k5_c0 := k5.cell 0; have k5_c1 := k5.cell 1; have k5_c2 := k5.cell 2; have k5_c3 := k5.cell 3; have k5_l := k5.lt
  go_wp2_with fail
  clear k5_c0 k5_c1 k5_c2 k5_c3 k5_l
  obtain ⟨k7, hbn⟩ := one_box W3 66 #[.int .i64 be.sz, .int .i64 be.ev, .int .i64 be.lf, .int .i64 be.tm]
  generalize W3.alloc (.cells #[.int .i64 be.sz, .int .i64 be.ev, .int .i64 be.lf, .int .i64 be.tm] 66) = W4 at *
  have k5 := k5.below hbn k5.lt; have h' := h'.to hbn; have hb := hb.trans (hbn.mono hb.size)
  have HR := Lib.hid ((HR.out.below hbn).more hbn.size)
  have HO := Lib.hid ((HO.out.below hbn).more hbn.size)
  clear hbn
  go_at_call 47; refine (r8At_w A' n' c' _ ys' 40 ((n6 : Int) + 1) (ka : Int) _ h' hz' (by omega) (by decide) hl2 HAT.out).mono ?_; rintro e w4 ⟨rfl, rfl⟩
  clear h' hz'
  have hkc : (ka : Int) ≤ (c6 : Int) := by have := HC6.out; have := HN6.out; omega
  have hk0 : (0 : Int) ≤ (ka : Int) := by omega
  obtain ⟨bm, hbm⟩ : ∃ z, (runG stB b (xs.take ka)).2 = z := ⟨_, rfl⟩
  have HBM := Lib.hid hbm
  clear hbm
  have HRT := Lib.hid (show ∀ V, Below W4.heap.size W4 V → Row i64v V V.heap.size (some ⟨g6, 0, none⟩) ka (xs.take ka) from fun V hV => ((take_row HR.out hkn).below hV).more hV.size)
  have k5_c0 := k5.cell 0; have k5_c1 := k5.cell 1; have k5_c2 := k5.cell 2; have k5_c3 := k5.cell 3; have k5_l := k5.lt
  go_upto_region 7 with fail
  go_cut [11, 12, 13] from 41 to 49 (fun p v q wx => ∃ g A9 c9 z9, p = .pointer (some ⟨g, 0, none⟩) ∧ v = .slice A9 ka c9 ∧ q = .bool true ∧ Hid (z9 = (runG stB b (xs.take ka)).1) ∧ Hid (Blk wx g 66 #[.int .i64 bm.sz, .int .i64 bm.ev, .int .i64 bm.lf, .int .i64 bm.tm]) ∧ Hid (Row boolv wx wx.heap.size A9 ka z9) ∧ Hid (Below W4.heap.size W4 wx))
  case first =>
    go_region_with (go_at_call 53; refine (impl_RunBucket_any b _ _ _ (xs.take ka) _ (HRT.out _ (by repeat (first | exact Below.refl _ _ | exact (Below.refl _ _).drew | refine Below.alloc ?_ (by simp) _ | refine Below.drew ?_))) (by omega)).mono ?_; rw [HC.out.2.1, giveK_true2, HBM.out]; rintro e W7 ⟨A9, n9, c9, z9, rfl, hz9, ho9, hb9⟩; obtain rfl : ka = n9 := (by have h1 := ho9.1; rw [hz9, if_pos rfl] at h1; rw [List.length_map, runG_len, List.length_take] at h1; have := HN6.out; omega); have HZ9 := Lib.hid hz9; have HO9 := Lib.hid ho9; have HB9 := Lib.hid hb9; (first | (have kz := Blk.below (show Blk _ W4.heap.size 66 #[.int .i64 0, .int .i64 0, .int .i64 0, .int .i64 0] from (by first | exact Blk.new _ _ _ | exact (Blk.new _ _ _).drew)) hb9 (by simp); have z0 := kz.cell 0; have z1 := kz.cell 1; have z2 := kz.cell 2; have z3 := kz.cell 3; have y0 := kz.frozen 0; have y1 := kz.frozen 1; have y2 := kz.frozen 2; have y3 := kz.frozen 3; have zl := kz.lt) | skip); clear hz9 ho9 hb9)
    all_goals (go_wp2_with fail; go_meet; have e9 := HZ9.out; simp only [if_true] at e9; first | (have kz := kz; exact cut_old (by first | exact (Below.refl _ _).alloc (Nat.le_refl _) _ | exact ((Below.refl _ _).drew).alloc (Nat.le_refl _) _ | exact ((Below.refl _ _).alloc (Nat.le_refl _) _).drew) HB9.out HO9.out e9 kz) | exact cut_new (by first | exact Below.refl _ _ | exact (Below.refl _ _).drew) HB9.out HO9.out e9)
  case rest =>
    clear k5_c0 k5_c1 k5_c2 k5_c3 k5_l
    obtain ⟨g11, A9, c9, z9, rfl, rfl, rfl, HZ9, HK11, HR9, HB9⟩ := hcut
    have k5 := k5.below HB9.out k5.lt; have k7 := k7.below HB9.out k7.lt; have k11 := HK11.out
    have HR := Lib.hid ((HR.out.below HB9.out).more HB9.out.size); have HO := Lib.hid ((HO.out.below HB9.out).more HB9.out.size)
    have hb := hb.trans (HB9.out.mono hb.size)
    clear HRT HK11 HB9
    have HRD := Lib.hid (show ∀ V, Below wc.heap.size wc V → Row i64v V V.heap.size (if c6 = ka then some ⟨g6, 0, none⟩ else some ⟨g6, ka, none⟩) (n6 - ka) (xs.drop ka) from fun V hV => ((drop_row HR.out hkn (by have := HC6.out; have := HN6.out; omega)).below hV).more hV.size)
    have HC3 := Lib.hid (show okRun bm (xs.drop ka) = true by rw [← HBM.out]; exact HC.out.2.2.1)
    have HE3 := Lib.hid (show (runG stB bm (xs.drop ka)).2 = be by rw [← HBM.out, ← HBE.out]; exact HC.out.2.2.2.1)
    have hkn' : (ka : Int) ≤ (n6 : Int) := by omega
    have k5_c0 := k5.cell 0; have k5_c1 := k5.cell 1; have k5_c2 := k5.cell 2; have k5_c3 := k5.cell 3; have k7_c0 := k7.cell 0; have k7_c1 := k7.cell 1; have k7_c2 := k7.cell 2; have k7_c3 := k7.cell 3; have k11_c0 := k11.cell 0; have k11_c1 := k11.cell 1; have k11_c2 := k11.cell 2; have k11_c3 := k11.cell 3; have k5_l := k5.lt; have k7_l := k7.lt; have k11_l := k11.lt
    go_upto_region 8 with fail
    go_cut [14, 15, 16] from 50 to 58 (fun p v q wx => ∃ g A9 c9 z9, p = .pointer (some ⟨g, 0, none⟩) ∧ v = .slice A9 (n6 - ka) c9 ∧ q = .bool true ∧ Hid (z9 = (runG stB bm (xs.drop ka)).1) ∧ Hid (Blk wx g 66 #[.int .i64 be.sz, .int .i64 be.ev, .int .i64 be.lf, .int .i64 be.tm]) ∧ Hid (Row boolv wx wx.heap.size A9 (n6 - ka) z9) ∧ Hid (Below wc.heap.size wc wx))
    case first =>
      by_cases hck : c6 = ka
      · subst hck
        have HRD := Lib.hid (show ∀ V, Below wc.heap.size wc V → Row i64v V V.heap.size (some ⟨g6, 0, none⟩) (n6 - c6) (xs.drop c6) from fun V hV => by have h9 := HRD.out V hV; rwa [if_pos rfl] at h9)
        go_region_with (go_at_call 53; refine (impl_RunBucket_any bm _ _ _ (xs.drop c6) _ (HRD.out _ (by repeat (first | exact Below.refl _ _ | exact (Below.refl _ _).drew | refine Below.alloc ?_ (by simp) _ | refine Below.drew ?_))) (by omega)).mono ?_; rw [HC3.out, giveK_true2, HE3.out]; rintro e W7 ⟨A9, n9, c9, z9, rfl, hz9, ho9, hb9⟩; obtain rfl : n6 - c6 = n9 := (by have h1 := ho9.1; rw [hz9, if_pos rfl] at h1; rw [List.length_map, runG_len, List.length_drop] at h1; have := HN6.out; omega); have HZ9 := Lib.hid hz9; have HO9 := Lib.hid ho9; have HB9 := Lib.hid hb9; (first | (have kz := Blk.below (show Blk _ wc.heap.size 66 #[.int .i64 0, .int .i64 0, .int .i64 0, .int .i64 0] from (by first | exact Blk.new _ _ _ | exact (Blk.new _ _ _).drew)) hb9 (by simp); have z0 := kz.cell 0; have z1 := kz.cell 1; have z2 := kz.cell 2; have z3 := kz.cell 3; have y0 := kz.frozen 0; have y1 := kz.frozen 1; have y2 := kz.frozen 2; have y3 := kz.frozen 3; have zl := kz.lt) | skip); clear hz9 ho9 hb9)
        all_goals (go_wp2_with fail; go_meet; have e9 := HZ9.out; simp only [if_true] at e9; first | (have kz := kz; exact cut_old (by first | exact (Below.refl _ _).alloc (Nat.le_refl _) _ | exact ((Below.refl _ _).drew).alloc (Nat.le_refl _) _ | exact ((Below.refl _ _).alloc (Nat.le_refl _) _).drew) HB9.out HO9.out e9 kz) | exact cut_new (by first | exact Below.refl _ _ | exact (Below.refl _ _).drew) HB9.out HO9.out e9)
      · have HRD := Lib.hid (show ∀ V, Below wc.heap.size wc V → Row i64v V V.heap.size (some ⟨g6, ka, none⟩) (n6 - ka) (xs.drop ka) from fun V hV => by have h9 := HRD.out V hV; rwa [if_neg hck] at h9)
        go_region_with (go_at_call 53; refine (impl_RunBucket_any bm _ _ _ (xs.drop ka) _ (HRD.out _ (by repeat (first | exact Below.refl _ _ | exact (Below.refl _ _).drew | refine Below.alloc ?_ (by simp) _ | refine Below.drew ?_))) (by omega)).mono ?_; rw [HC3.out, giveK_true2, HE3.out]; rintro e W7 ⟨A9, n9, c9, z9, rfl, hz9, ho9, hb9⟩; obtain rfl : n6 - ka = n9 := (by have h1 := ho9.1; rw [hz9, if_pos rfl] at h1; rw [List.length_map, runG_len, List.length_drop] at h1; have := HN6.out; omega); have HZ9 := Lib.hid hz9; have HO9 := Lib.hid ho9; have HB9 := Lib.hid hb9; (first | (have kz := Blk.below (show Blk _ wc.heap.size 66 #[.int .i64 0, .int .i64 0, .int .i64 0, .int .i64 0] from (by first | exact Blk.new _ _ _ | exact (Blk.new _ _ _).drew)) hb9 (by simp); have z0 := kz.cell 0; have z1 := kz.cell 1; have z2 := kz.cell 2; have z3 := kz.cell 3; have y0 := kz.frozen 0; have y1 := kz.frozen 1; have y2 := kz.frozen 2; have y3 := kz.frozen 3; have zl := kz.lt) | skip); clear hz9 ho9 hb9)
        all_goals (go_wp2_with fail; go_meet; have e9 := HZ9.out; simp only [if_true] at e9; first | (have kz := kz; exact cut_old (by first | exact (Below.refl _ _).alloc (Nat.le_refl _) _ | exact ((Below.refl _ _).drew).alloc (Nat.le_refl _) _ | exact ((Below.refl _ _).alloc (Nat.le_refl _) _).drew) HB9.out HO9.out e9 kz) | exact cut_new (by first | exact Below.refl _ _ | exact (Below.refl _ _).drew) HB9.out HO9.out e9)
    case rest =>
      obtain ⟨g14, A10, c10, z10, rfl, rfl, rfl, HZ10, HK14, HR10, HB10⟩ := hcut
      clear k5_c0 k5_c1 k5_c2 k5_c3 k7_c0 k7_c1 k7_c2 k7_c3 k11_c0 k11_c1 k11_c2 k11_c3 k5_l k7_l k11_l
      have k5 := k5.below HB10.out k5.lt; have k7 := k7.below HB10.out k7.lt; have k14 := HK14.out
      have HR := Lib.hid ((HR.out.below HB10.out).more HB10.out.size); have HO := Lib.hid ((HO.out.below HB10.out).more HB10.out.size); have HR9 := Lib.hid ((HR9.out.below HB10.out).more HB10.out.size)
      have hb := hb.trans (HB10.out.mono hb.size)
      have HVE := Lib.hid (show bktB be = true by rw [← HBE.out]; exact (run_all xs b b.tm HT.out HB.out (Int.le_refl _)).1)
      have HSP := Lib.hid (fun (i k : Nat) (ti tk : Int) (hi : xs[i]? = some ti) (hk : xs[k]? = some tk) (hik : i ≤ k) => span_law HT.out HB.out hi hk hik)
      have HCA := Lib.hid (show os = z9 ++ z10 by rw [← HOS.out, HC.out.2.2.2.2, HBM.out, ← HZ9.out, ← HZ10.out])
      have HL9 := Lib.hid (show z9.length = ka from HR9.out.1)
      have hbk := bktB_ok HB.out
      have HBK := Lib.hid hbk
      clear HRD HK14 HC HB10 hkn' hkc k11 hbk
      obtain ⟨nd, hnd⟩ : ∃ z, n6 - ka = z := ⟨_, rfl⟩
      rw [hnd] at HR10
      simp only [hnd]
      have e93 : (n6 : Int) - (ka : Int) = (nd : Int) := by omega
      have HNK := Lib.hid (show n6 = ka + nd by omega)
      clear hnd hkn
      have k5_c0 := k5.cell 0; have k5_c1 := k5.cell 1; have k5_c2 := k5.cell 2; have k5_c3 := k5.cell 3; have k7_c0 := k7.cell 0; have k7_c1 := k7.cell 1; have k7_c2 := k7.cell 2; have k7_c3 := k7.cell 3; have k14_c0 := k14.cell 0; have k14_c1 := k14.cell 1; have k14_c2 := k14.cell 2; have k14_c3 := k14.cell 3; have k5_l := k5.lt; have k7_l := k7.lt; have k14_l := k14.lt
      go_wp2_with fail
      clear k5_c0 k5_c1 k5_c2 k5_c3 k7_c0 k7_c1 k7_c2 k7_c3 k14_c0 k14_c1 k14_c2 k14_c3 k5_l k7_l k14_l
      go_at_call 54; refine (impl_ValidBucket_b be true _ HVE.out).mono ?_; rintro e V ⟨rfl, hbn⟩
      have k5 := k5.below hbn k5.lt
      have HR := Lib.hid (HR.out.to hbn); have HO := Lib.hid (HO.out.to hbn); have HR9 := Lib.hid (HR9.out.to hbn); have HR10 := Lib.hid (HR10.out.to hbn)
      have HBL := Lib.hid (hb.trans (hbn.mono hb.size))
      have q0 := k5.cell 0; have q1 := k5.cell 1; have k5l := k5.lt
      clear hbn hb k7 k14 k5
      go_wp2
      go_loopw [17] (fun i wr => ∃ k q : Nat, k ≤ n6 ∧ i = .int .i64 k ∧ wr = V.drewN q) (fun i _ => n6 - (intOf i).toNat)
      case atStart => exact ⟨0, 0, by omega, rfl, rfl⟩
      case round =>
        obtain ⟨k, q, hk, rfl, rfl⟩ := hrel
        by_cases hlt : k < n6
        · have hlt' : decide ((k : Int) < (n6 : Int)) = true := decide_eq_true (by omega)
          obtain ⟨bx, ox, ti, ex, _, hti, dx⟩ := HR.out.at_ hlt
          obtain ⟨bo, oo, bz, eo, _, hbz, do_⟩ := HO.out.at_ hlt
          simp only [Option.some.injEq, Addr.mk.injEq, and_true] at ex
          obtain ⟨rfl, rfl⟩ := ex
          subst eo
          have cx : V.cell? ⟨g6, 0 + k, none⟩ = some (.int .i64 ti) := dx
          have cx' : V.cell? ⟨g6, k, none⟩ = some (.int .i64 ti) := by rw [Nat.zero_add] at cx; exact cx
          have co : V.cell? ⟨bo, oo + k, none⟩ = some (.bool bz) := do_
          have hi0 : (0 : Int) ≤ (k : Int) := by omega
          have hi1 : (k : Int) < (n6 : Int) := by omega
          have HTI := Lib.hid hti; have HBZ := Lib.hid hbz
          clear hti hbz dx do_
          by_cases hka : k < ka
          · have x1 : decide ((k : Int) < (ka : Int)) = true := decide_eq_true (by omega)
            have x2 : decide ((ka : Int) ≤ (k : Int)) = false := decide_eq_false (by omega)
            have x1' : decide (k < ka) = true := decide_eq_true hka
            have x2' : decide (ka ≤ k) = false := decide_eq_false (by omega)
            obtain ⟨b9, o9, y9, e9, _, hy9, d9⟩ := HR9.out.at_ hka
            subst e9
            have hy : y9 = bz := by
              have h1 := HBZ.out
              rw [HCA.out, List.getElem?_append_left (by rw [HL9.out]; exact hka), hy9] at h1
              injection h1
            subst hy
            have c9' : V.cell? ⟨b9, o9 + k, none⟩ = some (.bool y9) := d9
            have hj1 : (k : Int) < (ka : Int) := by omega
            clear hy9 d9
            go_wp2
            go_quiet (fail)
            go_wp2
            go_loopw [18, 19] (fun nv kv wi => ∃ l q' : Nat, k ≤ l ∧ l ≤ n6 ∧ kv = .int .i64 l ∧ nv = .int .i64 ((trueN ((os.drop k).take (l - k)) : Nat) : Int) ∧ wi = V.drewN q') (fun _ kv _ => n6 - (intOf kv).toNat)
            case atStart => exact ⟨k, q + nq, Nat.le_refl _, by omega, rfl, by simp [trueN], by rw [World.drewN_drewN]⟩
            case round =>
              obtain ⟨l, q', hl1, hl2, rfl, rfl, rfl⟩ := hrel
              by_cases hln : l < n6
              · have hln' : decide ((l : Int) < (n6 : Int)) = true := decide_eq_true (by omega)
                obtain ⟨bx2, ox2, tl, ex, _, htl, dl⟩ := HR.out.at_ hln
                obtain ⟨bo2, oo2, bl, eo, _, hbl, do2⟩ := HO.out.at_ hln
                simp only [Option.some.injEq, Addr.mk.injEq, and_true] at ex eo
                obtain ⟨rfl, rfl⟩ := ex
                obtain ⟨rfl, rfl⟩ := eo
                have cl : V.cell? ⟨g6, 0 + l, none⟩ = some (.int .i64 tl) := dl
                have cl' : V.cell? ⟨g6, l, none⟩ = some (.int .i64 tl) := by rw [Nat.zero_add] at cl; exact cl
                have cb : V.cell? ⟨bo, oo + l, none⟩ = some (.bool bl) := do2
                obtain ⟨hs1, hs2, hs3, hs4⟩ := HSP.out k l ti tl HTI.out htl hl1
                have hst := trueN_step os k l bl hbl hl1
                rw [HOS.out] at hs1
                rw [hst] at hs1
                obtain ⟨cn, hcn⟩ : ∃ x, trueN ((os.drop k).take (l - k)) = x := ⟨_, rfl⟩
                have hcb : cn ≤ 1048576 := by rw [← hcn]; refine Nat.le_trans (trueN_le _) ?_; simp; have := HOL.out; omega
                rw [hcn] at hst hs1
                simp only [hcn]
                have HST := Lib.hid hst
                have hl0 : (0 : Int) ≤ (l : Int) := by omega
                have hl3 : (l : Int) < (n6 : Int) := by omega
                have hbe := HBK.out.e1; have hbe2 := HBK.out.e2; have hbs1 := HBK.out.s1; have hbs2 := HBK.out.s2
                have q0' := div_small (tl - ti) b.ev (by omega) hbe
                have g0 : wrap64 (tl - ti) = tl - ti := IntWalk.wrap64_in _ (by omega)
                have g1 : IntKind.i64.wrap (tl - ti) = tl - ti := IntWalk.i64_in _ (by omega)
                have g2 : IntKind.i64.wrap ((tl - ti).tdiv b.ev) = (tl - ti) / b.ev := IntWalk.i64_quo _ _ (by omega)
                have g3 : wrap64 ((tl - ti).tdiv b.ev) = (tl - ti) / b.ev := g2w (by omega)
                have g4 : IntKind.i64.wrap (b.sz + (tl - ti) / b.ev) = b.sz + (tl - ti) / b.ev := IntWalk.i64_in _ (by omega)
                have g5 : wrap64 (b.sz + (tl - ti) / b.ev) = b.sz + (tl - ti) / b.ev := IntWalk.wrap64_in _ (by omega)
                have g6' : b.ev ≠ 0 := by omega
                have HS1 := Lib.hid hs1
                clear hst hcn dl do2 htl hbl hs1
                cases bl with
                | false =>
                  have hno : ¬ (b.sz + (tl - ti) / b.ev < (cn : Int)) := by have := HS1.out; simp at this; omega
                  have hno' : decide (b.sz + (tl - ti) / b.ev < (cn : Int)) = false := decide_eq_false hno
                  go_wp2
                  go_quiet (fail)
                  go_wp2
                  all_goals first | exact ⟨⟨l + 1, _, by omega, by omega, by go_num, by rw [HST.out]; go_num, rfl⟩, by simp [intOf]; omega⟩ | (go_roundw; case rel => exact ⟨l + 1, _, by omega, by omega, by go_num, by rw [HST.out]; go_num, rfl⟩; case measure => simp [intOf]; omega)
                | true =>
                  have hno : ¬ (b.sz + (tl - ti) / b.ev < (cn : Int) + 1) := by have := HS1.out; simp at this; omega
                  have hno' : decide (b.sz + (tl - ti) / b.ev < (cn : Int) + 1) = false := decide_eq_false hno
                  go_wp2
                  go_quiet (fail)
                  go_wp2
                  all_goals first | exact ⟨⟨l + 1, _, by omega, by omega, by go_num, by rw [HST.out]; go_num, rfl⟩, by simp [intOf]; omega⟩ | (go_roundw; case rel => exact ⟨l + 1, _, by omega, by omega, by go_num, by rw [HST.out]; go_num, rfl⟩; case measure => simp [intOf]; omega)
              · have hln' : decide ((l : Int) < (n6 : Int)) = false := decide_eq_false (by omega)
                go_wp2
                all_goals first | exact ⟨⟨k + 1, q', by omega, by go_num, rfl⟩, by simp [intOf]; omega⟩ | (go_roundw; case rel => exact ⟨k + 1, q', by omega, by go_num, rfl⟩; case measure => simp [intOf]; omega)
          · have x1 : decide ((k : Int) < (ka : Int)) = false := decide_eq_false (by omega)
            have x2 : decide ((ka : Int) ≤ (k : Int)) = true := decide_eq_true (by omega)
            have x1' : decide (k < ka) = false := decide_eq_false hka
            have x2' : decide (ka ≤ k) = true := decide_eq_true (by omega)
            obtain ⟨j, hj⟩ : ∃ j, k - ka = j := ⟨_, rfl⟩
            have ej : (k : Int) - (ka : Int) = (j : Int) := by omega
            have hjn : j < nd := by have := HNK.out; omega
            obtain ⟨b9, o9, y9, e9, _, hy9, d9⟩ := HR10.out.at_ hjn
            subst e9
            have hy : y9 = bz := by
              have h1 := HBZ.out
              rw [HCA.out, List.getElem?_append_right (by rw [HL9.out]; omega), HL9.out, hj, hy9] at h1
              injection h1
            subst hy
            have c9' : V.cell? ⟨b9, o9 + j, none⟩ = some (.bool y9) := d9
            have hj0 : (0 : Int) ≤ (j : Int) := by omega
            have hj1 : (j : Int) < (nd : Int) := by omega
            clear hy9 d9 hj
            go_wp2
            go_quiet (fail)
            go_wp2
            go_loopw [18, 19] (fun nv kv wi => ∃ l q' : Nat, k ≤ l ∧ l ≤ n6 ∧ kv = .int .i64 l ∧ nv = .int .i64 ((trueN ((os.drop k).take (l - k)) : Nat) : Int) ∧ wi = V.drewN q') (fun _ kv _ => n6 - (intOf kv).toNat)
            case atStart => exact ⟨k, q + nq, Nat.le_refl _, by omega, rfl, by simp [trueN], by rw [World.drewN_drewN]⟩
            case round =>
              obtain ⟨l, q', hl1, hl2, rfl, rfl, rfl⟩ := hrel
              by_cases hln : l < n6
              · have hln' : decide ((l : Int) < (n6 : Int)) = true := decide_eq_true (by omega)
                obtain ⟨bx2, ox2, tl, ex, _, htl, dl⟩ := HR.out.at_ hln
                obtain ⟨bo2, oo2, bl, eo, _, hbl, do2⟩ := HO.out.at_ hln
                simp only [Option.some.injEq, Addr.mk.injEq, and_true] at ex eo
                obtain ⟨rfl, rfl⟩ := ex
                obtain ⟨rfl, rfl⟩ := eo
                have cl : V.cell? ⟨g6, 0 + l, none⟩ = some (.int .i64 tl) := dl
                have cl' : V.cell? ⟨g6, l, none⟩ = some (.int .i64 tl) := by rw [Nat.zero_add] at cl; exact cl
                have cb : V.cell? ⟨bo, oo + l, none⟩ = some (.bool bl) := do2
                obtain ⟨hs1, hs2, hs3, hs4⟩ := HSP.out k l ti tl HTI.out htl hl1
                have hst := trueN_step os k l bl hbl hl1
                rw [HOS.out] at hs1
                rw [hst] at hs1
                obtain ⟨cn, hcn⟩ : ∃ x, trueN ((os.drop k).take (l - k)) = x := ⟨_, rfl⟩
                have hcb : cn ≤ 1048576 := by rw [← hcn]; refine Nat.le_trans (trueN_le _) ?_; simp; have := HOL.out; omega
                rw [hcn] at hst hs1
                simp only [hcn]
                have HST := Lib.hid hst
                have hl0 : (0 : Int) ≤ (l : Int) := by omega
                have hl3 : (l : Int) < (n6 : Int) := by omega
                have hbe := HBK.out.e1; have hbe2 := HBK.out.e2; have hbs1 := HBK.out.s1; have hbs2 := HBK.out.s2
                have q0' := div_small (tl - ti) b.ev (by omega) hbe
                have g0 : wrap64 (tl - ti) = tl - ti := IntWalk.wrap64_in _ (by omega)
                have g1 : IntKind.i64.wrap (tl - ti) = tl - ti := IntWalk.i64_in _ (by omega)
                have g2 : IntKind.i64.wrap ((tl - ti).tdiv b.ev) = (tl - ti) / b.ev := IntWalk.i64_quo _ _ (by omega)
                have g3 : wrap64 ((tl - ti).tdiv b.ev) = (tl - ti) / b.ev := g2w (by omega)
                have g4 : IntKind.i64.wrap (b.sz + (tl - ti) / b.ev) = b.sz + (tl - ti) / b.ev := IntWalk.i64_in _ (by omega)
                have g5 : wrap64 (b.sz + (tl - ti) / b.ev) = b.sz + (tl - ti) / b.ev := IntWalk.wrap64_in _ (by omega)
                have g6' : b.ev ≠ 0 := by omega
                have HS1 := Lib.hid hs1
                clear hst hcn dl do2 htl hbl hs1
                cases bl with
                | false =>
                  have hno : ¬ (b.sz + (tl - ti) / b.ev < (cn : Int)) := by have := HS1.out; simp at this; omega
                  have hno' : decide (b.sz + (tl - ti) / b.ev < (cn : Int)) = false := decide_eq_false hno
                  go_wp2
                  go_quiet (fail)
                  go_wp2
                  all_goals first | exact ⟨⟨l + 1, _, by omega, by omega, by go_num, by rw [HST.out]; go_num, rfl⟩, by simp [intOf]; omega⟩ | (go_roundw; case rel => exact ⟨l + 1, _, by omega, by omega, by go_num, by rw [HST.out]; go_num, rfl⟩; case measure => simp [intOf]; omega)
                | true =>
                  have hno : ¬ (b.sz + (tl - ti) / b.ev < (cn : Int) + 1) := by have := HS1.out; simp at this; omega
                  have hno' : decide (b.sz + (tl - ti) / b.ev < (cn : Int) + 1) = false := decide_eq_false hno
                  go_wp2
                  go_quiet (fail)
                  go_wp2
                  all_goals first | exact ⟨⟨l + 1, _, by omega, by omega, by go_num, by rw [HST.out]; go_num, rfl⟩, by simp [intOf]; omega⟩ | (go_roundw; case rel => exact ⟨l + 1, _, by omega, by omega, by go_num, by rw [HST.out]; go_num, rfl⟩; case measure => simp [intOf]; omega)
              · have hln' : decide ((l : Int) < (n6 : Int)) = false := decide_eq_false (by omega)
                go_wp2
                all_goals first | exact ⟨⟨k + 1, q', by omega, by go_num, rfl⟩, by simp [intOf]; omega⟩ | (go_roundw; case rel => exact ⟨k + 1, q', by omega, by go_num, rfl⟩; case measure => simp [intOf]; omega)
        · have hlt' : decide ((k : Int) < (n6 : Int)) = false := decide_eq_false (by omega)
          go_wp2
          go_ret
          exact ⟨rfl, HBL.out.trans ((drew_below ⟨q, rfl⟩).mono HBL.out.size)⟩
end Go.Proofs.Ytmdoddikaaaamab
