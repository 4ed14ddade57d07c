import Derived.Test.YtdpclbmcmgknjaaChecked
import Derived.WalkKit
import Derived.ProofKit
import Derived.OpenShut
import Derived.ShutString
import Derived.ChangeOld
import Derived.Below
import Derived.Lib.Hide
import Derived.Test.YtdpclbmcmgknjaaMsgT
import Derived.Test.YtdpclbmcmgknjaaStrs2
import Derived.Test.YtdpclbmcmgknjaaRows3
namespace Go.Proofs.Ytdpclbmcmgknjaa
open Go.ChangeShapes Go.WideShapes Go.ChangeAt Go.RowKit
open Go.ChangeMaps (open_string shut_string)
set_option linter.unusedVariables false
set_option maxRecDepth 100000
/-- a row that is none of the likes of some messages -/
def offL (v : Value) (rs : List Rm) : Prop := ∀ r ∈ rs, v.ownBlock = none ∨ v.ownBlock ≠ (Value.slice r.la r.ln r.lc).ownBlock
/-- the likes of some messages, whatever they are now -/
def LikesIn (w : World) (base : Nat) (rs : List Rm) : Prop := ∀ r ∈ rs, ∃ ys : List Int, ys.length = r.ln ∧ w.ownsRow base 2 1 (.slice r.la r.ln r.lc) r.ln (ys.map i64v)
theorem LikesIn.of_own {w : World} {base : Nat} {rs : List Rm} (h : LikesOwn w base rs) : LikesIn w base rs := fun r hr => ⟨r.m.likes, (h.at_ r hr).1, h.1 r hr⟩
theorem LikesIn.kept {w w' : World} {base : Nat} {rs : List Rm} {row : Option Nat} (h : LikesIn w base rs) (hg : w.grownBy w' row) (hn : ∀ r ∈ rs, (Value.slice r.la r.ln r.lc).ownBlock = none ∨ (Value.slice r.la r.ln r.lc).ownBlock ≠ row) : LikesIn w' base rs := fun r hr => by
  obtain ⟨ys, hl, ho⟩ := h r hr
  exact ⟨ys, hl, ho.kept hg (hn r hr)⟩
theorem LikesIn.call {w w' : World} {base : Nat} {rs : List Rm} (h : LikesIn w base rs) (hb : Below w.heap.size w w') : LikesIn w' base rs := fun r hr => by
  obtain ⟨ys, hl, ho⟩ := h r hr
  exact ⟨ys, hl, own_below ho hb (Nat.le_refl _)⟩
theorem pair_apartL {rs : List Rm} {k : Nat} {r : Rm} (h : rs.Pairwise fun r s => (Value.slice r.la r.ln r.lc).ownBlock = none ∨ (Value.slice r.la r.ln r.lc).ownBlock ≠ (Value.slice s.la s.ln s.lc).ownBlock) (hk : rs[k]? = some r) :
    ∀ s ∈ rs, s = r ∨ (Value.slice s.la s.ln s.lc).ownBlock = none ∨ (Value.slice s.la s.ln s.lc).ownBlock ≠ (Value.slice r.la r.ln r.lc).ownBlock := by
  intro s hs
  obtain ⟨j, hj⟩ := List.mem_iff_getElem?.1 hs
  obtain ⟨hkl, hk'⟩ := List.getElem?_eq_some_iff.1 hk
  obtain ⟨hjl, hj'⟩ := List.getElem?_eq_some_iff.1 hj
  rcases Nat.lt_trichotomy j k with h1 | h1 | h1
  · have := List.pairwise_iff_getElem.1 h j k hjl hkl h1
    rw [hk', hj'] at this
    exact .inr this
  · subst h1; rw [hk'] at hj'; exact .inl hj'.symm
  · have := List.pairwise_iff_getElem.1 h k j hkl hjl h1
    rw [hk', hj'] at this
    right
    rcases this with h2 | h2
    · by_cases e : (Value.slice s.la s.ln s.lc).ownBlock = none
      · exact .inl e
      · right; rw [h2]; exact e
    · exact .inr fun e => h2 e.symm
/-- what a marking of a log leaves of all else -/
def LooseL (w w' : World) (base : Nat) (rs : List Rm) : Prop := (∀ b1 e1 s1 v m zs, w.ownsRow b1 e1 s1 v m zs → e1 ≠ 105 → offL v rs → w'.ownsRow b1 e1 s1 v m zs) ∧ (∀ B w0, Below B w0 w → B ≤ base → B ≤ w.heap.size → Below B w0 w') ∧ w.heap.size ≤ w'.heap.size
theorem LooseL.refl (w : World) (base : Nat) (rs : List Rm) : LooseL w w base rs := ⟨fun _ _ _ _ _ _ h _ _ => h, fun _ _ h _ _ => h, Nat.le_refl _⟩
theorem LooseL.call {w w1 w2 : World} {base : Nat} {rs : List Rm} (h : LooseL w w1 base rs) (hb : Below w1.heap.size w1 w2) : LooseL w w2 base rs :=
  ⟨fun _ _ _ _ _ _ ho a b => own_below (h.1 _ _ _ _ _ _ ho a b) hb (Nat.le_refl _), fun B w0 h0 hB hW => (h.2.1 B w0 h0 hB hW).trans (hb.mono (Nat.le_trans hW h.2.2)), Nat.le_trans h.2.2 hb.size⟩
theorem LooseL.row {w w1 w2 : World} {base size n : Nat} {rs : List Rm} {v : Value} {xs : List Value} (h : LooseL w w1 base rs) (ho : w1.ownsRow base 105 size v n xs) (hg : w1.grownBy w2 v.ownBlock) : LooseL w w2 base rs := by
  refine ⟨fun b1 e1 s1 v1 m zs hz a b => ?_, fun B w0 h0 hB hW => below_own (h.2.1 B w0 h0 hB hW) ho hg hB (Nat.le_trans hW h.2.2), Nat.le_trans h.2.2 hg.size⟩
  have h1 := h.1 _ _ _ _ _ _ hz a b
  exact h1.kept hg (own_types2 h1 ho a)
theorem LooseL.likes {w w1 w2 : World} {base : Nat} {rs : List Rm} {r : Rm} (h : LooseL w w1 base rs) (hr : r ∈ rs)
    (hk : ∀ b1 e1 s1 v n1 zs, w1.ownsRow b1 e1 s1 v n1 zs → (v.ownBlock = none ∨ v.ownBlock ≠ (Value.slice r.la r.ln r.lc).ownBlock) → w2.ownsRow b1 e1 s1 v n1 zs)
    (hb : ∀ B w0, Below B w0 w1 → B ≤ base → B ≤ w1.heap.size → Below B w0 w2) (hs : w2.heap.size = w1.heap.size) : LooseL w w2 base rs :=
  ⟨fun _ _ _ _ _ _ hz a b => hk _ _ _ _ _ _ (h.1 _ _ _ _ _ _ hz a b) (b r hr), fun B w0 h0 hB hW => hb B w0 (h.2.1 B w0 h0 hB hW) hB (Nat.le_trans hW h.2.2), by rw [hs]; exact h.2.2⟩
theorem LikesIn.marked {w w' : World} {base k0 : Nat} {rs : List Rm} {r : Rm} (h : LikesIn w base rs) (hp : ∀ s ∈ rs, s = r ∨ (Value.slice s.la s.ln s.lc).ownBlock = none ∨ (Value.slice s.la s.ln s.lc).ownBlock ≠ (Value.slice r.la r.ln r.lc).ownBlock)
    (ho : w'.ownsRow base 2 1 (.slice r.la r.ln r.lc) r.ln ((marks k0 r.ln).map i64v)) (hk : ∀ b1 e1 s1 v n1 zs, w.ownsRow b1 e1 s1 v n1 zs → (v.ownBlock = none ∨ v.ownBlock ≠ (Value.slice r.la r.ln r.lc).ownBlock) → w'.ownsRow b1 e1 s1 v n1 zs) : LikesIn w' base rs := fun s hs => by
  rcases hp s hs with rfl | hn
  · exact ⟨_, marks_len _ _, ho⟩
  · obtain ⟨ys, hl, ho2⟩ := h s hs
    exact ⟨ys, hl, hk _ _ _ _ _ _ ho2 hn⟩
theorem row_three {w : World} {base e n c g k : Nat} {pre rest : List Value} {r : Rm} {v0 v1 v2 : Value} (h : w.ownsRow base e 8 (.slice (some ⟨g, 0, none⟩) n c) n (pre ++ (rmC r ++ rest))) (hd : pre.length = k * 8) :
    (((w.setCell ⟨g, k * 8, none⟩ v0).setCell ⟨g, k * 8 + 1, none⟩ v1).setCell ⟨g, k * 8 + 2, none⟩ v2).ownsRow base e 8 (.slice (some ⟨g, 0, none⟩) n c) n (pre ++ [v0, v1, v2] ++ ([.string r.m.text, .int .i64 r.m.edits, .bool r.m.gone, .int .i64 r.m.reply, .slice r.la r.ln r.lc] ++ rest)) ∧
      w.grownBy (((w.setCell ⟨g, k * 8, none⟩ v0).setCell ⟨g, k * 8 + 1, none⟩ v1).setCell ⟨g, k * 8 + 2, none⟩ v2) (some g) := by
  have := own_setCells [v0, v1, v2] (k * 8) w pre (rmC r ++ rest) h hd (by simp [rmC])
  simpa [World.setCells, rmC] using this
theorem calls_four {P : Program} {f : FuncId} {args : Array Value} {Q : Ending → World → Prop} {w : World} {base e n c g k : Nat} {pre rest : List Value} {a3 a4 a5 a6 l v3 v4 v5 v6 : Value} (h : w.ownsRow base e 8 (.slice (some ⟨g, 0, none⟩) n c) n (pre ++ ([a3, a4, a5, a6, l] ++ rest))) (hd : pre.length = k * 8 + 3)
    (hc : ∀ (W : World) (pre' : List Value), pre'.length = (k + 1) * 8 → W.ownsRow base e 8 (.slice (some ⟨g, 0, none⟩) n c) n (pre' ++ rest) → w.grownBy W (some g) → Calls P f args W Q) :
    Calls P f args ((((w.setCell ⟨g, k * 8 + 3, none⟩ v3).setCell ⟨g, k * 8 + 4, none⟩ v4).setCell ⟨g, k * 8 + 5, none⟩ v5).setCell ⟨g, k * 8 + 6, none⟩ v6) Q := by
  have := own_setCells [v3, v4, v5, v6] (k * 8 + 3) w pre ([a3, a4, a5, a6, l] ++ rest) h hd (by simp)
  simp only [World.setCells, List.length_cons, List.length_nil] at this
  refine hc _ (pre ++ [v3, v4, v5, v6, l]) (by simp [hd]; omega) ?_ this.2
  simpa using this.1
def likeSum (rs : List Rm) : Nat := (rs.map fun r => r.ln).sum
theorem likeSum_succ {rs : List Rm} {k : Nat} {r : Rm} (h : rs[k]? = some r) : likeSum (rs.take (k + 1)) = likeSum (rs.take k) + r.ln := by
  unfold likeSum
  rw [List.take_add_one, h]
  simp
theorem likeSum_le (rs : List Rm) (k : Nat) : likeSum (rs.take k) ≤ likeSum rs := by
  unfold likeSum
  conv => rhs; rw [← List.take_append_drop k rs]
  rw [List.map_append, List.sum_append]
  omega
set_option maxHeartbeats 3200000 in
theorem markMessageS_some (g n c k0 base : Nat) (rs : List Rm) (w : World) (h : LogOwn w base (some ⟨g, 0, none⟩) n c rs) (hz : likeSum rs ≤ 1048576) (hn : n ≤ 1048576) (hk0 : k0 ≤ 1048576) (hk1 : 0 < k0) :
    Calls Try.prog 121 #[.slice (some ⟨g, 0, none⟩) n c, .int .i64 k0] w fun e w' => ∃ zk : Int, e = .returned (.int .i64 zk) ∧ 0 < zk ∧ LooseL w w' base rs := by
  have HL := Lib.hid h.len
  have HP := Lib.hid h.2.2
  have hH := LikesIn.of_own h.2
  have hR := h.1
  clear h
  go_enter Try.func121, Try.ntmps121
  go_wp2
  go_loopw [1, 5] (fun q i wr => ∃ (k zn : Nat) (pre : List Value), k ≤ n ∧ i = .int .i64 k ∧ q = .int .i64 ((zn : Nat) : Int) ∧ 0 < zn ∧ Hid (zn ≤ k0 + 7 * k + likeSum (rs.take k)) ∧ Hid (pre.length = k * 8) ∧ wr.ownsRow base 105 8 (.slice (some ⟨g, 0, none⟩) n c) n (pre ++ (rs.drop k).flatMap rmC) ∧ LikesIn wr base rs ∧ LooseL w wr base rs) (fun _ i _ => n - (intOf i).toNat)
  case atStart => exact ⟨0, k0, [], by omega, rfl, rfl, hk1, Lib.hid (by omega), Lib.hid rfl, by simpa using hR, hH, LooseL.refl _ _ _⟩
  case round =>
    obtain ⟨k, zn, pre, hk, rfl, rfl, hz0, HZ, HD, hown, hlik, hloose⟩ := hrel
    clear hR hH
    by_cases hlt : k < n
    · obtain ⟨r, hr⟩ : ∃ r, rs[k]? = some r := ⟨_, List.getElem?_eq_getElem (by have := HL.out; omega)⟩
      have hdr : (rs.drop k).flatMap rmC = rmC r ++ (rs.drop (k + 1)).flatMap rmC := by
        obtain ⟨hkl, e⟩ := List.getElem?_eq_some_iff.1 hr
        rw [List.drop_eq_getElem_cons hkl, e, List.flatMap_cons]
      rw [hdr] at hown
      clear hdr
      have HS := Lib.hid (likeSum_succ hr)
      have HT := Lib.hid (likeSum_le rs (k + 1))
      have hzl : zn ≤ 16777216 := by have := HZ.out; have := likeSum_le rs k; omega
      have hz1 : (0 : Int) ≤ (zn : Int) := by omega
      have hz2 : (zn : Int) ≤ 16777216 := by omega
      have hrl : r.ln ≤ 1048576 := by have := HS.out; have := HT.out; omega
      have HR := Lib.hid hr
      have HM := Lib.hid (List.mem_of_getElem? hr)
      clear hr
      have HO := Lib.hid hown
      have HH := Lib.hid hlik
      have HG := Lib.hid hloose
      clear hown hlik hloose
      have HT3 := Lib.hid (row_three (v0 := .int .i64 (zn : Int)) (v1 := .int .i64 ((zn : Int) + 1)) (v2 := .int .i64 ((zn : Int) + 1 + 1)) HO.out HD.out)
      have ht := own_there HO.out (k * 8) 8 (by omega)
      obtain ⟨u0, h0⟩ := Option.isSome_iff_exists.1 (ht 0 (by omega)).1
      have f0 := (ht 0 (by omega)).2
      obtain ⟨u1, h1⟩ := Option.isSome_iff_exists.1 (ht 1 (by omega)).1
      have f1 := (ht 1 (by omega)).2
      obtain ⟨u2, h2⟩ := Option.isSome_iff_exists.1 (ht 2 (by omega)).1
      have f2 := (ht 2 (by omega)).2
      simp only [Nat.add_zero] at h0 f0
      clear ht
      go_wp2_with fail
      have HG := Lib.hid (HG.out.row HO.out HT3.out.2)
      have HH := Lib.hid (HH.out.kept HT3.out.2 fun s hs => by obtain ⟨ys, hl, ho⟩ := HH.out s hs; exact own_types2 ho HO.out (by decide))
      have HO := Lib.hid HT3.out.1
      clear h0 f0 h1 f1 h2 f2 HT3
      generalize ((wr.setCell ⟨g, k * 8, none⟩ (.int .i64 (zn : Int))).setCell ⟨g, k * 8 + 1, none⟩ (.int .i64 ((zn : Int) + 1))).setCell ⟨g, k * 8 + 2, none⟩ (.int .i64 ((zn : Int) + 1 + 1)) = w2 at *
      have e3 : (zn : Int) + 1 + 1 + 1 = ((zn + 3 : Nat) : Int) := by omega
      rw [e3]
      go_at_call 159; refine (markText_any (zn + 3) _ (by omega) (by omega)).mono ?_; rintro e w3 ⟨rfl, hb3⟩
      have HO := Lib.hid (own_below HO.out hb3 (Nat.le_refl _))
      have HH := Lib.hid (HH.out.call hb3)
      have HG := Lib.hid (HG.out.call hb3)
      clear hb3 e3
      have HD3 := Lib.hid (show (pre ++ [Value.int .i64 (zn : Int), .int .i64 ((zn : Int) + 1), .int .i64 ((zn : Int) + 1 + 1)]).length = k * 8 + 3 by simp [HD.out])
      have ht := own_there HO.out (k * 8) 8 (by omega)
      obtain ⟨u3, h3⟩ := Option.isSome_iff_exists.1 (ht 3 (by omega)).1
      have f3 := (ht 3 (by omega)).2
      obtain ⟨u4, h4⟩ := Option.isSome_iff_exists.1 (ht 4 (by omega)).1
      have f4 := (ht 4 (by omega)).2
      obtain ⟨u5, h5⟩ := Option.isSome_iff_exists.1 (ht 5 (by omega)).1
      have f5 := (ht 5 (by omega)).2
      obtain ⟨u6, h6⟩ := Option.isSome_iff_exists.1 (ht 6 (by omega)).1
      have f6 := (ht 6 (by omega)).2
      have h7 : w3.cell? ⟨g, k * 8 + 7, none⟩ = some (.slice r.la r.ln r.lc) := by
        rw [HO.out.cellAt _ (by omega), List.getElem?_append_right (by rw [HD3.out]; omega), HD3.out, show k * 8 + 7 - (k * 8 + 3) = 4 by omega]
        rfl
      clear ht
      have hy1 : (0 : Int) ≤ ((zn + 3 : Nat) : Int) := by omega
      have hy2 : ((zn + 3 : Nat) : Int) ≤ 16777220 := by omega
      go_wp2_with fail
      clear h3 f3 h4 f4 h5 f5 h6 f6 h7
      rw [show (zn : Int) + 3 + 1 + 1 + 1 + 1 = ((zn + 7 : Nat) : Int) by omega]
      go_at_call 37; refine calls_four HO.out HD3.out ?_; intro W4 pre' hpl hW hgW
      have HG := Lib.hid (HG.out.row HO.out hgW)
      have HH := Lib.hid (HH.out.kept hgW fun s hs => by obtain ⟨ys, hl, ho⟩ := HH.out s hs; exact own_types2 ho HO.out (by decide))
      obtain ⟨ys, hyl, hys⟩ := HH.out r HM.out
      refine (mark_any _ _ _ (zn + 7) _ _ _ hys (by omega) (by omega)).mono ?_; rintro e w5 ⟨rfl, hm, hkp, hbl, hsz⟩
      have HG := Lib.hid (HG.out.likes HM.out hkp hbl hsz)
      have HO := Lib.hid (hkp _ _ _ _ _ _ hW (own_types2 hW hys (by decide)))
      have HH := Lib.hid (HH.out.marked (pair_apartL HP.out HR.out) hm hkp)
      have HPL := Lib.hid hpl
      clear hW hgW hys hyl hm hkp hbl hsz hpl
      go_wp2
      go_roundw
      case rel => exact ⟨k + 1, zn + 7 + r.ln, pre', by omega, by go_num, rfl, by omega, Lib.hid (by have := HZ.out; have := HS.out; omega), HPL, HO.out, HH.out, HG.out⟩
      case measure => simp [intOf]; omega
    · go_wp2
      go_ret
      exact ⟨_, rfl, by omega, hloose⟩
theorem markMessageS_nil (k0 : Nat) (w : World) :
    Calls Try.prog 121 #[.slice none 0 0, .int .i64 k0] w fun e w' => e = .returned (.int .i64 k0) ∧ w = w' := by
  go_enter Try.func121, Try.ntmps121
  go_wp2
  refine wp_loop_rounds 1 ?_
  rw [rounds_succ]
  go_wp2
  go_ret
  exact ⟨rfl, rfl⟩
theorem LooseL.then {w w1 w2 : World} {base : Nat} {rs : List Rm} (h : LooseL w w1 base rs) (h' : LooseL w1 w2 base rs) : LooseL w w2 base rs :=
  ⟨fun _ _ _ _ _ _ ho a b => h'.1 _ _ _ _ _ _ (h.1 _ _ _ _ _ _ ho a b) a b, fun B w0 h0 hB hW => h'.2.1 _ _ (h.2.1 B w0 h0 hB hW) hB (Nat.le_trans hW h.2.2), Nat.le_trans h.2.2 h'.2.2⟩
set_option maxHeartbeats 800000 in
theorem markLog_loose (x : Int) (A : Option Addr) (n c k0 base : Nat) (rs : List Rm) (w : World) (h : LogOwn w base A n c rs) (hz : likeSum rs ≤ 1048576) (hn : n ≤ 1048576) (hk0 : k0 ≤ 1048576) (hk1 : 0 < k0) :
    Calls Try.prog 53 #[.agg #[.int .i64 x, .slice A n c], .int .i64 k0] w fun e w' => ∃ zk : Int, e = .returned (.int .i64 zk) ∧ 0 < zk ∧ LooseL w w' base rs := by
  rcases h.1.2 with ⟨hv, hn0⟩ | ⟨g, cap, cur, hv, _⟩
  · injection hv with h1 h2 h3
    subst h1; subst hn0; subst h3
    go_enter Try.func53, Try.ntmps53
    go_wp2_with fail
    obtain ⟨_, hb0⟩ := one_box w 38 #[.int .i64 x, .slice none 0 0]
    have hl := (LooseL.refl w base rs).call hb0
    generalize w.alloc (.cells #[.int .i64 x, .slice none 0 0] 38) = W at *
    go_at_call 121; refine (markMessageS_nil k0 _).mono ?_; rintro e w1 ⟨rfl, rfl⟩
    go_wp2
    go_ret
    exact ⟨_, rfl, by omega, hl⟩
  · injection hv with h1 h2 h3
    subst h1; subst h3; clear h2
    go_enter Try.func53, Try.ntmps53
    go_wp2_with fail
    obtain ⟨_, hb0⟩ := one_box w 38 #[.int .i64 x, .slice (some ⟨g, 0, none⟩) n c]
    have hl := (LooseL.refl w base rs).call hb0
    have h := h.below hb0 (Nat.le_refl _)
    generalize w.alloc (.cells #[.int .i64 x, .slice (some ⟨g, 0, none⟩) n c] 38) = W at *
    go_at_call 121; refine (markMessageS_some g n _ k0 base rs _ h hz hn hk0 hk1).mono ?_; rintro e w1 ⟨zk, rfl, hzk, hl1⟩
    go_wp2
    go_ret
    exact ⟨_, rfl, hzk, hl.then hl1⟩
end Go.Proofs.Ytdpclbmcmgknjaa
