import Derived.Test.YtmnmmjobplbflaaChecked
import Derived.WalkKit
import Derived.ProofKit
import Derived.OpenShut
import Derived.ShutString
import Derived.ChangeOld
import Derived.Below
import Derived.Lib.Hide
import Derived.Test.YtmnmmjobplbflaaZPostT
import Derived.Test.YtmnmmjobplbflaaZStrs2
namespace Go.Proofs.Ytmnmmjobplbflaa
open Go.ChangeShapes Go.WideShapes Go.ChangeAt Go.RowKit
open Go.ChangeMaps (open_string shut_string)
set_option linter.unusedVariables false
set_option maxRecDepth 100000
/-- what a box holds, whatever it is now -/
def HeldIn (w : World) (base : Nat) (rs : List Rb) : Prop := (∀ r ∈ rs, ∃ ys : List Bn, ys.length = r.ln ∧ w.ownsRow base 74 2 (.slice r.la r.ln r.lc) r.ln (ys.flatMap bnC))
theorem HeldIn.of_own {w : World} {base : Nat} {rs : List Rb} (h : HeldOwn w base rs) : HeldIn w base rs := fun r hr => ⟨r.b.held, (h.at_ r hr).1, h.1 r hr⟩
theorem HeldIn.kept {w w' : World} {base : Nat} {rs : List Rb} {row : Option Nat} (h : HeldIn w base rs) (hg : w.grownBy w' row) (hn : ∀ r ∈ rs, (Value.slice r.la r.ln r.lc).ownBlock = none ∨ (Value.slice r.la r.ln r.lc).ownBlock ≠ row) : HeldIn w' base rs := fun r hr => by
  obtain ⟨ys, hl, ho⟩ := h r hr
  exact ⟨ys, hl, ho.kept hg (hn r hr)⟩
/-- one row of parcels marked: each row is what it was, or that one -/
theorem HeldIn.marked {w w' : World} {base k0 : Nat} {rs : List Rb} {r : Rb} (h : HeldIn w base rs) (hr : r ∈ rs) (hg : w.grownBy w' (Value.slice r.la r.ln r.lc).ownBlock)
    (ho : w'.ownsRow base 74 2 (.slice r.la r.ln r.lc) r.ln ((marksP k0 r.ln).flatMap bnC)) (hp : ∀ s ∈ rs, s = r ∨ (Value.slice s.la s.ln s.lc).ownBlock = none ∨ (Value.slice s.la s.ln s.lc).ownBlock ≠ (Value.slice r.la r.ln r.lc).ownBlock) : HeldIn w' base rs := fun s hs => by
  rcases hp s hs with rfl | hn
  · exact ⟨_, marksP_len _ _, ho⟩
  · obtain ⟨ys, hl, ho2⟩ := h s hs
    exact ⟨ys, hl, ho2.kept hg hn⟩
theorem pair_apart {rs : List Rb} {k : Nat} {r : Rb} (h : rs.Pairwise fun r s => (Value.slice r.la r.ln r.lc).ownBlock = none ∨ (Value.slice r.la r.ln r.lc).ownBlock ≠ (Value.slice s.la s.ln s.lc).ownBlock) (hk : rs[k]? = some r) :
    ∀ s ∈ rs, s = r ∨ (Value.slice s.la s.ln s.lc).ownBlock = none ∨ (Value.slice s.la s.ln s.lc).ownBlock ≠ (Value.slice r.la r.ln r.lc).ownBlock := by
  intro s hs
  obtain ⟨j, hj⟩ := List.mem_iff_getElem?.1 hs
  obtain ⟨hkl, hk'⟩ := List.getElem?_eq_some_iff.1 hk
  obtain ⟨hjl, hj'⟩ := List.getElem?_eq_some_iff.1 hj
  rcases Nat.lt_trichotomy j k with h1 | h1 | h1
  · have := List.pairwise_iff_getElem.1 h j k hjl hkl h1
    rw [hk', hj'] at this
    exact .inr this
  · subst h1; rw [hk'] at hj'; exact .inl hj'.symm
  · have := List.pairwise_iff_getElem.1 h k j hkl hjl h1
    rw [hk', hj'] at this
    right
    rcases this with h2 | h2
    · by_cases e : (Value.slice s.la s.ln s.lc).ownBlock = none
      · exact .inl e
      · right; rw [h2]; exact e
    · exact .inr fun e => h2 e.symm
/-- what a marking of posts leaves of all else -/
def Loose (w w' : World) (base : Nat) : Prop := (∀ b1 e1 s1 v m zs, w.ownsRow b1 e1 s1 v m zs → e1 ≠ 62 → e1 ≠ 74 → w'.ownsRow b1 e1 s1 v m zs) ∧ (∀ B w0, Below B w0 w → B ≤ base → B ≤ w.heap.size → Below B w0 w') ∧ w.heap.size ≤ w'.heap.size ∧ (∀ g t cs, Blk w g t cs → t ≠ 62 → t ≠ 74 → Blk w' g t cs)
theorem Loose.refl (w : World) (base : Nat) : Loose w w base := ⟨fun _ _ _ _ _ _ h _ _ => h, fun _ _ h _ _ => h, Nat.le_refl _, fun _ _ _ h _ _ => h⟩
theorem Loose.call {w w1 w2 : World} {base : Nat} (h : Loose w w1 base) (hb : Below w1.heap.size w1 w2) : Loose w w2 base :=
  ⟨fun _ _ _ _ _ _ ho a b => own_below (h.1 _ _ _ _ _ _ ho a b) hb (Nat.le_refl _), fun B w0 h0 hB hW => (h.2.1 B w0 h0 hB hW).trans (hb.mono (Nat.le_trans hW h.2.2.1)), Nat.le_trans h.2.2.1 hb.size, fun g t cs hk a b => (h.2.2.2 g t cs hk a b).below hb (h.2.2.2 g t cs hk a b).lt⟩
theorem Loose.grown {w w1 w2 : World} {base e size n : Nat} {v : Value} {xs : List Value} (h : Loose w w1 base) (ho : w1.ownsRow base e size v n xs) (he : e = 62 ∨ e = 74) (hg : w1.grownBy w2 v.ownBlock) : Loose w w2 base := by
  refine ⟨fun b1 e1 s1 v1 m zs hz a b => ?_, fun B w0 h0 hB hW => below_own (h.2.1 B w0 h0 hB hW) ho hg hB (Nat.le_trans hW h.2.2.1), Nat.le_trans h.2.2.1 hg.size, fun g t cs hk a b => ?_⟩
  · have h1 := h.1 _ _ _ _ _ _ hz a b
    exact h1.kept hg (own_types2 h1 ho (by rcases he with rfl | rfl <;> assumption))
  · have h1 := h.2.2.2 g t cs hk a b
    exact h1.grown hg (blk_apart h1 ho (by rcases he with rfl | rfl <;> assumption))
def boxSum (bs : List Bx) : Nat := (bs.map fun b => b.held.length).sum
theorem boxSum_succ {bs : List Bx} {k : Nat} {b : Bx} (h : bs[k]? = some b) : boxSum (bs.take (k + 1)) = boxSum (bs.take k) + b.held.length := by
  unfold boxSum
  rw [List.take_add_one, h]
  simp
theorem boxSum_le (bs : List Bx) (k : Nat) : boxSum (bs.take k) ≤ boxSum bs := by
  unfold boxSum
  conv => rhs; rw [← List.take_append_drop k bs]
  rw [List.map_append, List.sum_append]
  omega
theorem boxSum_of {w : World} {B n : Nat} {A : Option Addr} {rs : List Rb} (h : PostAt w B A n rs) : boxSum (bxs rs) + n ≤ postSize rs := by
  have hl := h.len
  have hh := h.2
  clear h
  unfold postSize boxSum bxs
  rw [← hl]
  clear hl
  have : (rs.map Rb.b |>.map fun b => b.held.length).sum ≤ szToB rs rs.length := by
    unfold szToB
    rw [List.take_length]
    induction rs with
    | nil => simp
    | cons r t ih =>
      have h1 := ih fun s hs => hh s (List.mem_cons_of_mem _ hs)
      have h2 := (hh r List.mem_cons_self).1
      simp only [List.map_cons, List.sum_cons, rbSz] at h1 ⊢
      omega
  omega
theorem own_three {w : World} {base e n c g k : Nat} {ds : List Rb} {r : Rb} {rest : List Value} {v0 v1 v2 : Value} (h : w.ownsRow base e 4 (.slice (some ⟨g, 0, none⟩) n c) n (ds.flatMap rbC ++ (rbC r ++ rest))) (hd : ds.length = k) :
    (((w.setCell ⟨g, k * 4, none⟩ v0).setCell ⟨g, k * 4 + 1, none⟩ v1).setCell ⟨g, k * 4 + 2, none⟩ v2).ownsRow base e 4 (.slice (some ⟨g, 0, none⟩) n c) n (ds.flatMap rbC ++ ([v0, v1, v2, .slice r.la r.ln r.lc] ++ rest)) ∧
      w.grownBy (((w.setCell ⟨g, k * 4, none⟩ v0).setCell ⟨g, k * 4 + 1, none⟩ v1).setCell ⟨g, k * 4 + 2, none⟩ v2) (some g) := by
  have := own_setCells [v0, v1, v2] (k * 4) w (ds.flatMap rbC) (rbC r ++ rest) h (by rw [flat_len rbC_len, hd]) (by simp [rbC])
  simpa [World.setCells, rbC] using this
set_option maxHeartbeats 1600000 in
theorem markBoxS_some (g n c k0 base : Nat) (rs : List Rb) (w : World) (h : PostOwn w base (some ⟨g, 0, none⟩) n c rs) (hz : boxSum (bxs rs) ≤ 1048576) (hn : n ≤ 1048576) (hk0 : k0 ≤ 1048576) (hk1 : 0 < k0) :
    Calls Try.prog 46 #[.slice (some ⟨g, 0, none⟩) n c, .int .i64 k0] w fun e w' => ∃ zk : Int, e = .returned (.int .i64 zk) ∧ 0 < zk ∧ Loose w w' base := by
  have HL := Lib.hid h.len
  have HA := Lib.hid h.at_.2
  have HP := Lib.hid h.2.2
  have hH := HeldIn.of_own h.2
  have hR := h.1
  clear h
  go_enter Try.func46, Try.ntmps46
  go_wp2
  go_loopw [1, 5] (fun q i wr => ∃ (k zn : Nat) (ds : List Rb), k ≤ n ∧ i = .int .i64 k ∧ q = .int .i64 ((zn : Nat) : Int) ∧ 0 < zn ∧ Hid (zn ≤ k0 + 3 * k + 2 * boxSum ((bxs rs).take k)) ∧ Hid (ds.length = k) ∧ wr.ownsRow base 62 4 (.slice (some ⟨g, 0, none⟩) n c) n (ds.flatMap rbC ++ (rs.drop k).flatMap rbC) ∧ HeldIn wr base rs ∧ Loose w wr base) (fun _ i _ => n - (intOf i).toNat)
  case atStart => exact ⟨0, k0, [], by omega, rfl, rfl, hk1, Lib.hid (by omega), Lib.hid rfl, by simpa using hR, hH, Loose.refl _ _⟩
  case round =>
    obtain ⟨k, zn, ds, hk, rfl, rfl, hz0, HZ, HD, hown, hheld, hloose⟩ := hrel
    clear hR hH
    by_cases hlt : k < n
    · obtain ⟨r, hr⟩ : ∃ r, rs[k]? = some r := ⟨_, List.getElem?_eq_getElem (by have := HL.out; omega)⟩
      have hdr : (rs.drop k).flatMap rbC = rbC r ++ (rs.drop (k + 1)).flatMap rbC := by
        obtain ⟨hkl, e⟩ := List.getElem?_eq_some_iff.1 hr
        rw [List.drop_eq_getElem_cons hkl, e, List.flatMap_cons]
      rw [hdr] at hown
      clear hdr
      have HB := Lib.hid (show r.ln = r.b.held.length from (HA.out r (List.mem_of_getElem? hr)).1.symm)
      have HS := Lib.hid (boxSum_succ (bxs_at hr))
      have HT := Lib.hid (boxSum_le (bxs rs) (k + 1))
      have hzl : zn ≤ 8388608 := by have := HZ.out; have := boxSum_le (bxs rs) k; omega
      have hz1 : (0 : Int) ≤ (zn : Int) := by omega
      have hz2 : (zn : Int) ≤ 8388608 := by omega
      have hrl : r.ln ≤ 1048576 := by have := HB.out; have := HS.out; have := HT.out; omega
      have HR := Lib.hid hr
      clear hr
      have HO := Lib.hid hown
      have HH := Lib.hid hheld
      have HG := Lib.hid hloose
      clear hown hheld hloose
      go_wp2_with fail
      go_at_call 50; refine (markText_any zn _ hz0 (by omega)).mono ?_; rintro e w1 ⟨rfl, hb1⟩
      have HO := Lib.hid (own_below HO.out hb1 (Nat.le_refl _))
      have HH := Lib.hid (show HeldIn w1 base rs from fun s hs => by obtain ⟨ys, hl, ho⟩ := HH.out s hs; exact ⟨ys, hl, own_below ho hb1 (Nat.le_refl _)⟩)
      have HG := Lib.hid (HG.out.call hb1)
      clear hb1
      have HT3 := Lib.hid (own_three (v0 := .string (mt zn)) (v1 := .int .i64 ((zn : Int) + 1)) (v2 := .int .i64 ((zn : Int) + 1 + 1)) HO.out HD.out)
      have ht := own_there HO.out (k * 4) 4 (by omega)
      obtain ⟨u0, h0⟩ := Option.isSome_iff_exists.1 (ht 0 (by omega)).1
      have f0 := (ht 0 (by omega)).2
      obtain ⟨u1, h1⟩ := Option.isSome_iff_exists.1 (ht 1 (by omega)).1
      have f1 := (ht 1 (by omega)).2
      obtain ⟨u2, h2⟩ := Option.isSome_iff_exists.1 (ht 2 (by omega)).1
      have f2 := (ht 2 (by omega)).2
      have h3 : w1.cell? ⟨g, k * 4 + 3, none⟩ = some (.slice r.la r.ln r.lc) := by
        rw [HO.out.cellAt _ (by omega), List.getElem?_append_right (by rw [flat_len rbC_len, HD.out]; omega), flat_len rbC_len, HD.out, show k * 4 + 3 - k * 4 = 3 by omega]
        rfl
      simp only [Nat.add_zero] at h0 f0
      clear ht
      go_wp2_with fail
      have HG := Lib.hid (HG.out.grown HO.out (.inl rfl) HT3.out.2)
      have HH := Lib.hid (HH.out.kept HT3.out.2 fun s hs => by obtain ⟨ys, hl, ho⟩ := HH.out s hs; exact own_types2 ho HO.out (by decide))
      have HO := Lib.hid HT3.out.1
      clear h0 f0 h1 f1 h2 f2 h3 HT3
      generalize ((w1.setCell ⟨g, k * 4, none⟩ (.string (mt zn))).setCell ⟨g, k * 4 + 1, none⟩ (.int .i64 ((zn : Int) + 1))).setCell ⟨g, k * 4 + 2, none⟩ (.int .i64 ((zn : Int) + 1 + 1)) = w2 at *
      have e3 : (zn : Int) + 1 + 1 + 1 = ((zn + 3 : Nat) : Int) := by omega
      rw [e3]
      obtain ⟨ys, hyl, hys⟩ := HH.out r (List.mem_of_getElem? HR.out)
      have HY := Lib.hid hys
      clear hys hyl
      go_at_call 31; refine (markParcelS_any _ _ _ (zn + 3) _ _ _ HY.out hrl (by omega)).mono ?_; rintro e w3 ⟨rfl, hp3, hg3, hs3⟩
      have HG := Lib.hid (HG.out.grown HY.out (.inr rfl) hg3)
      have HO := Lib.hid (HO.out.kept hg3 (own_types2 HO.out HY.out (by decide)))
      have HH := Lib.hid (HH.out.marked (List.mem_of_getElem? HR.out) hg3 hp3 (pair_apart HP.out HR.out))
      clear hp3 hg3 hs3 HY e3
      go_wp2
      go_roundw
      case rel => exact ⟨k + 1, zn + 3 + r.ln * 2, ds ++ [⟨⟨mt zn, (zn : Int) + 1, (zn : Int) + 1 + 1, []⟩, r.la, r.ln, r.lc⟩], by omega, by go_num, rfl, by omega, Lib.hid (by have := HZ.out; have := HS.out; have := HB.out; omega), Lib.hid (by have := HD.out; simp; omega), by simpa [rbC] using HO.out, HH.out, HG.out⟩
      case measure => simp [intOf]; omega
    · go_wp2
      go_ret
      exact ⟨_, rfl, by omega, hloose⟩
theorem markBoxS_nil (k0 : Nat) (w : World) :
    Calls Try.prog 46 #[.slice none 0 0, .int .i64 k0] w fun e w' => e = .returned (.int .i64 k0) ∧ w = w' := by
  go_enter Try.func46, Try.ntmps46
  go_wp2
  refine wp_loop_rounds 1 ?_
  rw [rounds_succ]
  go_wp2
  go_ret
  exact ⟨rfl, rfl⟩
set_option maxHeartbeats 800000 in
theorem markPost_loose (x : Int) (A : Option Addr) (n c k0 base : Nat) (rs : List Rb) (w : World) (h : PostOwn w base A n c rs) (hz : boxSum (bxs rs) ≤ 1048576) (hn : n ≤ 1048576) (hk0 : k0 ≤ 1048576) (hk1 : 0 < k0) :
    Calls Try.prog 18 #[.agg #[.int .i64 x, .slice A n c], .int .i64 k0] w fun e w' => ∃ zk : Int, e = .returned (.int .i64 zk) ∧ 0 < zk ∧ Loose w w' base := by
  rcases h.1.2 with ⟨hv, hn0⟩ | ⟨g, cap, cur, hv, _⟩
  · injection hv with h1 h2 h3
    subst h1; subst hn0; subst h3
    go_enter Try.func18, Try.ntmps18
    go_wp2_with fail
    obtain ⟨_, hb0⟩ := one_box w 29 #[.int .i64 x, .slice none 0 0]
    have hl := (Loose.refl w base).call hb0
    generalize w.alloc (.cells #[.int .i64 x, .slice none 0 0] 29) = W at *
    go_at_call 46; refine (markBoxS_nil k0 _).mono ?_; rintro e w1 ⟨rfl, rfl⟩
    go_wp2
    go_ret
    exact ⟨_, rfl, by omega, hl⟩
  · injection hv with h1 h2 h3
    subst h1; subst h3; clear h2
    go_enter Try.func18, Try.ntmps18
    go_wp2_with fail
    obtain ⟨_, hb0⟩ := one_box w 29 #[.int .i64 x, .slice (some ⟨g, 0, none⟩) n c]
    have hl := (Loose.refl w base).call hb0
    have h := h.below hb0 (Nat.le_refl _)
    generalize w.alloc (.cells #[.int .i64 x, .slice (some ⟨g, 0, none⟩) n c] 29) = W at *
    go_at_call 46; refine (markBoxS_some g n _ k0 base rs _ h hz hn hk0 hk1).mono ?_; rintro e w1 ⟨zk, rfl, hzk, hl1⟩
    have hl2 : Loose w w1 base := ⟨fun _ _ _ _ _ _ ho a b => hl1.1 _ _ _ _ _ _ (hl.1 _ _ _ _ _ _ ho a b) a b, fun B w0 h0 hB hW => hl1.2.1 _ _ (hl.2.1 B w0 h0 hB hW) hB (Nat.le_trans hW hl.2.2.1), Nat.le_trans hl.2.2.1 hl1.2.2.1, fun g t cs hk a b => hl1.2.2.2 _ _ _ (hl.2.2.2 g t cs hk a b) a b⟩
    go_wp2
    go_ret
    exact ⟨_, rfl, hzk, hl2⟩
end Go.Proofs.Ytmnmmjobplbflaa
