import Derived.Test.YtdpclbmcmgknjaaChecked
import Derived.WalkKit
import Derived.ProofKit
import Derived.OpenShut
import Derived.ShutString
import Derived.ChangeOld
import Derived.Below
import Derived.Lib.Hide
import Derived.Test.YtdpclbmcmgknjaaLogK
import Derived.Test.YtdpclbmcmgknjaaMoveS
namespace Go.Proofs.Ytdpclbmcmgknjaa
open Go.ChangeShapes Go.WideShapes Go.ChangeAt Go.RowKit
open Go.ChangeMaps (open_string shut_string)
set_option linter.unusedVariables false
set_option maxRecDepth 100000
theorem mark_grown (A : Option Addr) (n c k0 base : Nat) (xs : List Int) (w : World) (h : w.ownsRow base 2 1 (.slice A n c) n (xs.map i64v)) (hn : n ≤ 1073741824) (hk0 : k0 ≤ 1099511627776) :
    Calls Try.prog 37 #[.slice A n c, .int .i64 k0] w fun e w' => e = .returned (.int .i64 ((k0 + n : Nat) : Int)) ∧
      w'.ownsRow base 2 1 (.slice A n c) n ((marks k0 n).map i64v) ∧ w.grownBy w' (Value.slice A n c).ownBlock ∧ w'.heap.size = w.heap.size := by
  rcases h.2 with ⟨hv, hn0⟩ | ⟨g, cap, cur, hv, hbg, _⟩
  · injection hv with h1 h2 h3
    subst h1; subst hn0; subst h3
    exact (markInt64S_nil k0 w).mono fun e w' ⟨he, hw⟩ => by subst hw; exact ⟨he, World.ownsRow_nil _ _ _ _, World.grownBy.refl _ _, rfl⟩
  · injection hv with h1 h2 h3
    subst h1
    exact (markInt64S_some g n c k0 base xs w h hn hk0).mono fun e w' ⟨he, ho, hg, hs⟩ => ⟨he, ho, hg, hs⟩
def LogSpan (lo hi : Nat) (A : Option Addr) (n c : Nat) (rs : List Rm) : Prop := Span lo hi (.slice A n c) ∧ ∀ r ∈ rs, Span lo hi (.slice r.la r.ln r.lc)
theorem LogOwn.span {w : World} {base n c : Nat} {A : Option Addr} {rs : List Rm} (h : LogOwn w base A n c rs) : LogSpan base w.heap.size A n c rs := ⟨span_own h.1, fun r hr => span_own (h.2.1 r hr)⟩
theorem LogOwn.moved {w w' : World} {base lo hi lo' hi' n c : Nat} {A : Option Addr} {rs : List Rm} (h : LogOwn w base A n c rs) (hm : Moved lo hi w w') (hp : LogSpan lo' hi' A n c rs) (hd : hi' ≤ lo ∨ hi ≤ lo') : LogOwn w' base A n c rs :=
  ⟨hm.own h.1 hp.1 hd, fun r hr => hm.own (h.2.1 r hr) (hp.2 r hr) hd, h.2.2⟩
set_option maxHeartbeats 3200000 in
theorem markMessageS_mov (g n c k0 base hi : Nat) (rs : List Rm) (w : World) (h : LogOwn w base (some ⟨g, 0, none⟩) n c rs) (hsp : LogSpan base hi (some ⟨g, 0, none⟩) n c rs) (hz : likeSum rs ≤ 1048576) (hn : n ≤ 1048576) (hk0 : k0 ≤ 4194304) (hk1 : 0 < k0) :
    Calls Try.prog 121 #[.slice (some ⟨g, 0, none⟩) n c, .int .i64 k0] w fun e w' => ∃ zk : Int, e = .returned (.int .i64 zk) ∧ 0 < zk ∧ Moved base hi w w' := by
  have HSP := Lib.hid hsp
  clear hsp
  have HL := Lib.hid h.len
  have HP := Lib.hid h.2.2
  have hH := LikesIn.of_own h.2
  have hR := h.1
  clear h
  go_enter Try.func121, Try.ntmps121
  go_wp2
  go_loopw [1, 5] (fun q i wr => ∃ (k zn : Nat) (pre : List Value), k ≤ n ∧ i = .int .i64 k ∧ q = .int .i64 ((zn : Nat) : Int) ∧ 0 < zn ∧ Hid (zn ≤ k0 + 7 * k + likeSum (rs.take k)) ∧ Hid (pre.length = k * 8) ∧ wr.ownsRow base 105 8 (.slice (some ⟨g, 0, none⟩) n c) n (pre ++ (rs.drop k).flatMap rmC) ∧ LikesIn wr base rs ∧ Moved base hi w wr) (fun _ i _ => n - (intOf i).toNat)
  case atStart => exact ⟨0, k0, [], by omega, rfl, rfl, hk1, Lib.hid (by omega), Lib.hid rfl, by simpa using hR, hH, Moved.refl _ _ _⟩
  case round =>
    obtain ⟨k, zn, pre, hk, rfl, rfl, hz0, HZ, HD, hown, hlik, hloose⟩ := hrel
    clear hR hH
    by_cases hlt : k < n
    · obtain ⟨r, hr⟩ : ∃ r, rs[k]? = some r := ⟨_, List.getElem?_eq_getElem (by have := HL.out; omega)⟩
      have hdr : (rs.drop k).flatMap rmC = rmC r ++ (rs.drop (k + 1)).flatMap rmC := by
        obtain ⟨hkl, e⟩ := List.getElem?_eq_some_iff.1 hr
        rw [List.drop_eq_getElem_cons hkl, e, List.flatMap_cons]
      rw [hdr] at hown
      clear hdr
      have HS := Lib.hid (likeSum_succ hr)
      have HT := Lib.hid (likeSum_le rs (k + 1))
      have hzl : zn ≤ 16777216 := by have := HZ.out; have := likeSum_le rs k; omega
      have hz1 : (0 : Int) ≤ (zn : Int) := by omega
      have hz2 : (zn : Int) ≤ 16777216 := by omega
      have hrl : r.ln ≤ 1048576 := by have := HS.out; have := HT.out; omega
      have HR := Lib.hid hr
      have HM := Lib.hid (List.mem_of_getElem? hr)
      clear hr
      have HO := Lib.hid hown
      have HH := Lib.hid hlik
      have HG := Lib.hid hloose
      clear hown hlik hloose
      have HT3 := Lib.hid (row_three (v0 := .int .i64 (zn : Int)) (v1 := .int .i64 ((zn : Int) + 1)) (v2 := .int .i64 ((zn : Int) + 1 + 1)) HO.out HD.out)
      have ht := own_there HO.out (k * 8) 8 (by omega)
      obtain ⟨u0, h0⟩ := Option.isSome_iff_exists.1 (ht 0 (by omega)).1
      have f0 := (ht 0 (by omega)).2
      obtain ⟨u1, h1⟩ := Option.isSome_iff_exists.1 (ht 1 (by omega)).1
      have f1 := (ht 1 (by omega)).2
      obtain ⟨u2, h2⟩ := Option.isSome_iff_exists.1 (ht 2 (by omega)).1
      have f2 := (ht 2 (by omega)).2
      simp only [Nat.add_zero] at h0 f0
      clear ht
      go_wp2_with fail
      have HG := Lib.hid (HG.out.trans (Moved.of_grown HT3.out.2 fun k hk => HSP.out.1 k hk))
      have HH := Lib.hid (HH.out.kept HT3.out.2 fun s hs => by obtain ⟨ys, hl, ho⟩ := HH.out s hs; exact own_types2 ho HO.out (by decide))
      have HO := Lib.hid HT3.out.1
      clear h0 f0 h1 f1 h2 f2 HT3
      generalize ((wr.setCell ⟨g, k * 8, none⟩ (.int .i64 (zn : Int))).setCell ⟨g, k * 8 + 1, none⟩ (.int .i64 ((zn : Int) + 1))).setCell ⟨g, k * 8 + 2, none⟩ (.int .i64 ((zn : Int) + 1 + 1)) = w2 at *
      have e3 : (zn : Int) + 1 + 1 + 1 = ((zn + 3 : Nat) : Int) := by omega
      rw [e3]
      go_at_call 159; refine (markText_any (zn + 3) _ (by omega) (by omega)).mono ?_; rintro e w3 ⟨rfl, hb3⟩
      have HO := Lib.hid (own_below HO.out hb3 (Nat.le_refl _))
      have HH := Lib.hid (HH.out.call hb3)
      have HG := Lib.hid (HG.out.trans (Moved.of_below hb3))
      clear hb3 e3
      have HD3 := Lib.hid (show (pre ++ [Value.int .i64 (zn : Int), .int .i64 ((zn : Int) + 1), .int .i64 ((zn : Int) + 1 + 1)]).length = k * 8 + 3 by simp [HD.out])
      have ht := own_there HO.out (k * 8) 8 (by omega)
      obtain ⟨u3, h3⟩ := Option.isSome_iff_exists.1 (ht 3 (by omega)).1
      have f3 := (ht 3 (by omega)).2
      obtain ⟨u4, h4⟩ := Option.isSome_iff_exists.1 (ht 4 (by omega)).1
      have f4 := (ht 4 (by omega)).2
      obtain ⟨u5, h5⟩ := Option.isSome_iff_exists.1 (ht 5 (by omega)).1
      have f5 := (ht 5 (by omega)).2
      obtain ⟨u6, h6⟩ := Option.isSome_iff_exists.1 (ht 6 (by omega)).1
      have f6 := (ht 6 (by omega)).2
      have h7 : w3.cell? ⟨g, k * 8 + 7, none⟩ = some (.slice r.la r.ln r.lc) := by
        rw [HO.out.cellAt _ (by omega), List.getElem?_append_right (by rw [HD3.out]; omega), HD3.out, show k * 8 + 7 - (k * 8 + 3) = 4 by omega]
        rfl
      clear ht
      have hy1 : (0 : Int) ≤ ((zn + 3 : Nat) : Int) := by omega
      have hy2 : ((zn + 3 : Nat) : Int) ≤ 16777220 := by omega
      go_wp2_with fail
      clear h3 f3 h4 f4 h5 f5 h6 f6 h7
      rw [show (zn : Int) + 3 + 1 + 1 + 1 + 1 = ((zn + 7 : Nat) : Int) by omega]
      go_at_call 37; refine calls_four HO.out HD3.out ?_; intro W4 pre' hpl hW hgW
      have HG := Lib.hid (HG.out.trans (Moved.of_grown hgW fun k hk => HSP.out.1 k hk))
      have HH := Lib.hid (HH.out.kept hgW fun s hs => by obtain ⟨ys, hl, ho⟩ := HH.out s hs; exact own_types2 ho HO.out (by decide))
      obtain ⟨ys, hyl, hys⟩ := HH.out r HM.out
      refine (mark_grown _ _ _ (zn + 7) _ _ _ hys (by omega) (by omega)).mono ?_; rintro e w5 ⟨rfl, hm, hgr, hsz⟩
      have hkp : ∀ b1 e1 s1 v n1 zs, W4.ownsRow b1 e1 s1 v n1 zs → (v.ownBlock = none ∨ v.ownBlock ≠ (Value.slice r.la r.ln r.lc).ownBlock) → w5.ownsRow b1 e1 s1 v n1 zs := fun _ _ _ _ _ _ hz hne => hz.kept hgr hne
      have HG := Lib.hid (HG.out.trans (Moved.of_grown hgr fun k hk => HSP.out.2 r HM.out k hk))
      have HO := Lib.hid (hkp _ _ _ _ _ _ hW (own_types2 hW hys (by decide)))
      have HH := Lib.hid (HH.out.marked (pair_apartL HP.out HR.out) hm hkp)
      have HPL := Lib.hid hpl
      clear hW hgW hys hyl hm hkp hgr hsz hpl
      go_wp2
      go_roundw
      case rel => exact ⟨k + 1, zn + 7 + r.ln, pre', by omega, by go_num, rfl, by omega, Lib.hid (by have := HZ.out; have := HS.out; omega), HPL, HO.out, HH.out, HG.out⟩
      case measure => simp [intOf]; omega
    · go_wp2
      go_ret
      exact ⟨_, rfl, by omega, hloose⟩
set_option maxHeartbeats 800000 in
theorem markLog_mov (x : Int) (A : Option Addr) (n c k0 base hi : Nat) (rs : List Rm) (w : World) (h : LogOwn w base A n c rs) (hsp : LogSpan base hi A n c rs) (hz : likeSum rs ≤ 1048576) (hn : n ≤ 1048576) (hk0 : k0 ≤ 4194304) (hk1 : 0 < k0) :
    Calls Try.prog 53 #[.agg #[.int .i64 x, .slice A n c], .int .i64 k0] w fun e w' => ∃ zk : Int, e = .returned (.int .i64 zk) ∧ 0 < zk ∧ Moved base hi w w' := by
  rcases h.1.2 with ⟨hv, hn0⟩ | ⟨g, cap, cur, hv, _⟩
  · injection hv with h1 h2 h3
    subst h1; subst hn0; subst h3
    go_enter Try.func53, Try.ntmps53
    go_wp2_with fail
    obtain ⟨_, hb0⟩ := one_box w 38 #[.int .i64 x, .slice none 0 0]
    have hl := Moved.of_below (lo := base) (hi := hi) hb0
    generalize w.alloc (.cells #[.int .i64 x, .slice none 0 0] 38) = W at *
    go_at_call 121; refine (markMessageS_nil k0 _).mono ?_; rintro e w1 ⟨rfl, rfl⟩
    go_wp2
    go_ret
    exact ⟨_, rfl, by omega, hl⟩
  · injection hv with h1 h2 h3
    subst h1; subst h3; clear h2
    go_enter Try.func53, Try.ntmps53
    go_wp2_with fail
    obtain ⟨_, hb0⟩ := one_box w 38 #[.int .i64 x, .slice (some ⟨g, 0, none⟩) n c]
    have hl := Moved.of_below (lo := base) (hi := hi) hb0
    have h := h.below hb0 (Nat.le_refl _)
    generalize w.alloc (.cells #[.int .i64 x, .slice (some ⟨g, 0, none⟩) n c] 38) = W at *
    go_at_call 121; refine (markMessageS_mov g n _ k0 base hi rs _ h hsp hz hn hk0 hk1).mono ?_; rintro e w1 ⟨zk, rfl, hzk, hl1⟩
    go_wp2
    go_ret
    exact ⟨_, rfl, hzk, hl.trans hl1⟩
def likeLen (ms : List Mg) : Nat := (ms.map fun m => m.likes.length).sum
theorem likeSum_mgs {w : World} {B n : Nat} {A : Option Addr} {rs : List Rm} (h : LogAt w B A n rs) : likeSum rs = likeLen (mgs rs) := by
  unfold likeSum likeLen mgs
  rw [List.map_map]
  congr 1
  exact List.map_congr_left fun r hr => ((h.2 r hr).1).symm
theorem likeSum_sz (rs : List Rm) : likeSum rs ≤ (rs.map rmSz).sum := by
  unfold likeSum
  induction rs with
  | nil => simp
  | cons r rs ih => simp [rmSz] at ih ⊢; omega
theorem likeLen_le {w : World} {B n : Nat} {A : Option Addr} {rs : List Rm} (h : LogAt w B A n rs) (hs : logSize rs ≤ 1048576) : likeLen (mgs rs) ≤ 1048576 := by
  rw [← likeSum_mgs h]
  have h1 := likeSum_sz rs
  unfold logSize szTo at hs
  rw [List.take_length] at hs
  omega
end Go.Proofs.Ytdpclbmcmgknjaa
