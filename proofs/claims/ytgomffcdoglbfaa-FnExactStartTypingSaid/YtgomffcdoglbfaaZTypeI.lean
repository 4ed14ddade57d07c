import Derived.Test.YtgomffcdoglbfaaChecked
import Derived.WalkKit
import Derived.ProofKit
import Derived.OpenShut
import Derived.ShutString
import Derived.ChangeOld
import Derived.Below
import Derived.Lib.Hide
import Derived.StillTailTactics
import Derived.Maps.OwnSet
import Derived.Maps.OwnOps
import Derived.Shelf.Abstract
import Derived.Deep.RegionHeld3
import Derived.Test.YtgomffcdoglbfaaZAtI
import Derived.Test.YtgomffcdoglbfaaJp
namespace Go.Proofs.Ytgomffcdoglbfaa
open Go.ChangeShapes Go.WideShapes Go.ChangeAt Go.RowKit
open Go.ChangeMaps (open_string shut_string)
set_option linter.unusedVariables false
open Go.Maps
set_option maxRecDepth 100000
theorem isOver_any (gc : Nat) (at_ u : Int) (b : Bool) (hb : decide (u ≤ at_) = b) (w : World) (h : Blk w gc 2 #[.int .i64 at_]) :
    Calls Try.prog 87 #[.func (.func 108) #[] #[.pointer (some ⟨gc, 0, none⟩)], .int .i64 u] w fun e w' => e = .returned (.bool b) ∧ w' = w := by
  go_enter Try.func87, Try.ntmps87
  go_wp2_with (go_at_call 108; refine (clock_any _ _ _ h).mono ?_; rintro e w5 ⟨rfl, rfl⟩)
  go_ret
  simp
set_option maxHeartbeats 6400000 in
theorem type_turns (gm : Nat) (t at_ : Int) (hs ts ks : List Bn) (w : World) (hm : Blk w gm 2 #[.int .i64 t]) (wft : (Lit.int .i64 t).wf = true) (ho : presB hs ts ks = true) (hat : tickB at_ = true) :
    TurnsAt 86 #[.pointer (some ⟨gm, 0, none⟩)] at_ (liveB hs t at_) ⟨hs, tellB ts t (at_ + 6), ks⟩ hs ts ks w := by
  intro w' base G gc hb hB hw hG kc
  obtain ⟨g1, N1, xs, g2, N2, ys, g3, N3, zs, hA, e1, e2, e3, b1, b2, b3⟩ := hG
  have HO := Lib.hid (presOk ho)
  have km := hm.below hb hm.lt
  have HE := Lib.hid (And.intro e1 (And.intro e2 e3))
  have ht0 : 0 ≤ at_ ∧ at_ ≤ 1000000 := by simpa [tickB] using hat
  obtain ⟨ht1, ht2⟩ := ht0
  clear hm e2 e3 ho hat
  show Calls Try.prog 86 #[.pointer (some ⟨G, 0, none⟩), .func (.func 108) #[] #[.pointer (some ⟨gc, 0, none⟩)], .pointer (some ⟨gm, 0, none⟩)] w' _
  have hD : GathAt w'.drew base G g1 N1 xs g2 N2 ys g3 N3 zs := hA.below (Below.refl _ _).drew
  have hbD : Below base w' w'.drew := (Below.refl _ _).drew
  have zD : base ≤ w'.drew.heap.size := hw
  have kmD : Blk w'.drew gm 2 #[.int .i64 t] := km
  have kcD : Blk w'.drew gc 2 #[.int .i64 at_] := kc
  have l0 := hA.blk.cell 0; have lt0 := hA.blk.lt; have m0 := km.cell 0; have mt0 := km.lt
  clear hA km kc
  have cG : w'.drew.cell? ⟨G, 0, none⟩ = some (.map (some g1)) := hD.blk.cell 0
  have cm : w'.drew.cell? ⟨gm, 0, none⟩ = some (.int .i64 t) := kmD.cell 0
  cases hf : findW xs t with
  | none =>
    have hy := live_none (at_ := at_) hf e1 ht1
    rw [hy]
    have hlk := ((look_tabT kInt Try.underlying107 Try.underlying2 (zeroC w'.drew) hD.w1.own t wft).2 hf).2
    have hov : decide ((0 : Int) ≤ at_) = true := decide_eq_true ht1
    clear hf e1 hy
    go_enter Try.func86, Try.ntmps86
    go_wp2_with fail
    go_region_held3 (fun w' => w'.cell? ⟨G, 0, none⟩ = some (.map (some g1)) ∧ w'.cell? ⟨gm, 0, none⟩ = some (.int .i64 t)) (exact ⟨cG, cm⟩) ((first | (go_at_call 88; refine (last_nil _).mono ?_; rintro e w4 ⟨rfl, rfl⟩) | (go_at_call 87; refine (isOver_any _ _ _ _ hov _ kcD).mono ?_; rintro e w5 ⟨rfl, rfl⟩)))
    all_goals go_wp2
    all_goals go_ret
    all_goals first | exact ⟨rfl, (fun h => by cases h), hbD⟩ | exact ⟨rfl, hbD⟩ | exact hbD
  | some x =>
    obtain ⟨hx, _⟩ := findW_mem hf
    have hlk := ((look_tabT kInt Try.underlying107 Try.underlying2 (zeroC w'.drew) hD.w1.own t wft).1 x hf).2
    simp only [wtV] at hlk
    have hch := (hD.w1.chan x hx).2
    have hcb := (hD.w1.chan x hx).1
    have hy := live_some (at_ := at_) hf e1
    rw [hy]
    clear hf e1 hy
    have HX := Lib.hid hx
    clear hx
    have hcm : ∀ k' ∈ [x.ch], k' ∈ wblk g1 xs := fun k' hk' => by simp at hk'; subst hk'; exact List.mem_cons_of_mem _ (List.mem_map_of_mem HX.out)
    have HCM := Lib.hid hcm
    clear hcm
    by_cases hov0 : x.til ≤ at_
    · have hov : decide (x.til ≤ at_) = true := decide_eq_true hov0
      rw [decide_eq_false (show ¬ at_ < x.til by omega)]
      go_enter Try.func86, Try.ntmps86
      go_wp2_with fail
      go_region_held3 (fun w' => w'.cell? ⟨G, 0, none⟩ = some (.map (some g1)) ∧ w'.cell? ⟨gm, 0, none⟩ = some (.int .i64 t)) (first | exact ⟨cG4, cm4⟩ | exact ⟨cG, cm⟩) ((first | (go_at_call 88; refine (last_some x.ch x.til _ hch).mono ?_; rintro e w4 ⟨rfl, hc4, hs4⟩; have kc4 := hs4.blk kcD (fun hm => hD.w1.not_blk kcD (HCM.out _ hm)); have cG4 := (hs4.blk hD.blk (fun hm => hD.w1.not_blk hD.blk (HCM.out _ hm))).cell 0; have cm4 := (hs4.blk kmD (fun hm => hD.w1.not_blk kmD (HCM.out _ hm))).cell 0) | (go_at_call 87; refine (isOver_any _ _ _ _ hov _ kc4).mono ?_; rintro e w5 ⟨rfl, rfl⟩)))
      have hbF := hs4.below hbD zD (fun k hk => (hD.w1.lt k (HCM.out k hk)).1)
      go_wp2
      all_goals go_ret
      all_goals first | exact ⟨rfl, (fun h => by cases h), hbF⟩ | exact ⟨rfl, hbF⟩ | exact hbF
    · have hov : decide (x.til ≤ at_) = false := decide_eq_false hov0
      rw [decide_eq_true (show at_ < x.til by omega)]
      go_enter Try.func86, Try.ntmps86
      go_wp2_with fail
      go_region_held3 (fun w' => w'.cell? ⟨G, 0, none⟩ = some (.map (some g1)) ∧ w'.cell? ⟨gm, 0, none⟩ = some (.int .i64 t)) (first | exact ⟨cG4, cm4⟩ | exact ⟨cG, cm⟩) ((first | (go_at_call 88; refine (last_some x.ch x.til _ hch).mono ?_; rintro e w4 ⟨rfl, hc4, hs4⟩; have kc4 := hs4.blk kcD (fun hm => hD.w1.not_blk kcD (HCM.out _ hm)); have cG4 := (hs4.blk hD.blk (fun hm => hD.w1.not_blk hD.blk (HCM.out _ hm))).cell 0; have cm4 := (hs4.blk kmD (fun hm => hD.w1.not_blk kmD (HCM.out _ hm))).cell 0; have km4 := hs4.blk kmD (fun hm => hD.w1.not_blk kmD (HCM.out _ hm)); have hW4 := watch_last hD.w1 HX.out hs4 hc4; have hG4 := hD.put1 hW4 (hs4.more fun k' hk' _ => HCM.out k' hk') (fun k hk => .inl hk); have hbF := hs4.below hbD zD (fun k hk => (hD.w1.lt k (HCM.out k hk)).1); have z4 := Nat.le_trans zD hs4.size; have p0 := hG4.blk.cell 1; have pt0 := hG4.blk.lt; have o0 := km4.cell 0; have ot0 := km4.lt) | (go_at_call 87; refine (isOver_any _ _ _ _ hov _ kc4).mono ?_; rintro e w5 ⟨rfl, rfl⟩)))
      clear l0 lt0 m0 mt0 cG cm cG4 cm4
      go_wp2_with fail
      have hG5 : GathAt w5.drew base G g1 N1 xs g2 N2 ys g3 N3 zs := hG4.below (Below.refl _ _).drew
      have hb5 : Below base w' w5.drew := hbF.drew
      have z5 : base ≤ w5.drew.heap.size := z4
      have kc5 : Blk w5.drew gc 2 #[.int .i64 at_] := kc4
      have km5 : Blk w5.drew gm 2 #[.int .i64 t] := km4
      have cG5 : w5.drew.cell? ⟨G, 1, none⟩ = some (.map (some g2)) := hG5.blk.cell 1
      have cm5 : w5.drew.cell? ⟨gm, 0, none⟩ = some (.int .i64 t) := km5.cell 0
      clear p0 pt0 o0 ot0
      go_region_held3 (fun w' => w'.cell? ⟨G, 1, none⟩ = some (.map (some g2)) ∧ w'.cell? ⟨gm, 0, none⟩ = some (.int .i64 t)) (first | exact ⟨cG7, cm7⟩ | exact ⟨cG5, cm5⟩) ((first
        | (go_at_call 108; refine (clock_any _ _ _ kc5).mono ?_; rintro e w6 ⟨rfl, rfl⟩)
        | (go_at_call 74; refine (tell_any base g2 N2 ys t _ _ hG5.w2 z5 (by omega) wft).mono ?_; rintro e w7 ⟨rfl, us', N'', hN'', hwA, hwe, hst, hnb⟩; have cG7 := (hst.blk hG5.blk (hG5.w2.not_blk hG5.blk)).cell 1; have cm7 := (hst.blk km5 (hG5.w2.not_blk km5)).cell 0)))
      have hw1 : IntKind.i64.wrap (at_ + 6) = at_ + 6 := IntWalk.i64_in _ (by omega)
      rw [hw1] at hwe
      clear hw1 cG5 cm5 cG7 cm7
      have hG := hG5.put2 hwA hst hnb
      have hbE := hst.below hb5 z5 (fun k hk => (hG5.all k (gblk_2 hk)).1)
      have HF := Lib.hid (show Gath 1000 w7 base G hs (tellB ts t (at_ + 6)) ks from ⟨_, _, xs, _, _, us', _, _, zs, hG, HE.out.1, by rw [hwe, HE.out.2.1], HE.out.2.2, by omega, by omega, by omega⟩)
      clear hG5 hwA hwe hst hnb hG
      go_wp2
      go_ret
      have o1 := HO.out.l1; have o2 := HO.out.l2; have o3 := HO.out.l3
      exact ⟨rfl, (fun _ => ⟨HF.out, ⟨HO.out.f1, HO.out.f2.tell wft, HO.out.f3⟩, by show hs.length ≤ 1000; omega, by have := tellB_len ts t (at_ + 6); show (tellB ts t (at_ + 6)).length ≤ 1000; omega, by show ks.length ≤ 1000; omega⟩), hbE⟩
set_option maxHeartbeats 3200000 in
theorem impl_StartTyping_any (A1 A2 A3 : Option Addr) (n1 c1 n2 c2 n3 c3 : Nat) (hs ts ks : List Bn) (t : Int) (at_ : Int) (w : World) (h : PresAt w w.heap.size A1 n1 A2 n2 A3 n3 hs ts ks) (hn : n1 + n2 + n3 ≤ 1048576) (wft : (Lit.int .i64 t).wf = true) :
    Calls Try.prog 41 #[.agg #[.slice A1 n1 c1, .slice A2 n2 c2, .slice A3 n3 c3], .int .i64 t, .int .i64 at_] w fun e w' => PresOut (giveR (okR hs ts ks (tickB at_ && liveB hs t at_) ⟨hs, tellB ts t (at_ + 6), ks⟩) ⟨hs, tellB ts t (at_ + 6), ks⟩) (okR hs ts ks (tickB at_ && liveB hs t at_) ⟨hs, tellB ts t (at_ + 6), ks⟩) w e w' := by
  go_enter Try.func41, Try.ntmps41
  obtain ⟨k0, km, hb0⟩ := two_boxes w 31 2 #[.slice A1 n1 c1, .slice A2 n2 c2, .slice A3 n3 c3] #[.int .i64 t]
  obtain ⟨k1, hb1⟩ := one_box ((w.alloc (.cells #[.slice A1 n1 c1, .slice A2 n2 c2, .slice A3 n3 c3] 31)).alloc (.cells #[.int .i64 t] 2)) 31 #[.slice none 0 0, .slice none 0 0, .slice none 0 0]
  have k0 := k0.below hb1 k0.lt; have km := km.below hb1 km.lt
  have hb0 := hb0.trans (hb1.mono hb0.size)
  have h := h.to hb0
  clear hb1
  simp only [szA] at k1
  have l0 := k0.cell 0; have l1 := k0.cell 1; have l2 := k0.cell 2; have klt := k0.lt
  go_wp2_with fail
  clear l0 l1 l2 klt
  generalize ((w.alloc (.cells #[.slice A1 n1 c1, .slice A2 n2 c2, .slice A3 n3 c3] 31)).alloc (.cells #[.int .i64 t] 2)).alloc (.cells #[.slice none 0 0, .slice none 0 0, .slice none 0 0] 31) = W at *
  have cc := changedAt_any 86 #[.pointer (some ⟨w.heap.size + 1, 0, none⟩)] (enters_of Try.func86 (by kernel_rfl) rfl) at_ (liveB hs t at_) ⟨hs, tellB ts t (at_ + 6), ks⟩ _ _ _ n1 c1 n2 c2 n3 c3 hs ts ks W h hn (fun hp hq => type_turns _ t at_ hs ts ks W km wft hp hq)
  go_at_call 72; refine cc.mono ?_; rintro e w2 ⟨B1, m1, d1, B2, m2, d2, B3, m3, d3, rfl, hO, hb2, hn2⟩
  have zW := k1.lt
  have k1 := k1.below hb2 k1.lt
  have hb0 := hb0.trans (hb2.mono hb0.size)
  have r0 := k1.cell 0; have r1 := k1.cell 1; have r2 := k1.cell 2; have f0 := k1.frozen 0; have f1 := k1.frozen 1; have f2 := k1.frozen 2
  go_wp2
  exact bodyPost_ret (v := .tuple #[.agg #[.slice B1 m1 d1, .slice B2 m2 d2, .slice B3 m3 d3], .bool (okR hs ts ks (tickB at_ && liveB hs t at_) ⟨hs, tellB ts t (at_ + 6), ks⟩)]) (by simp [results, Try.results41, go_sem, r0, r1, r2]) rfl ⟨_, _, _, _, _, _, _, _, _, rfl, (hO.set3 (by omega) _ _ _ _ _ _).mono (by omega), below_set3 hb0 (by omega) _ _ _ _ _ _, hn2⟩
end Go.Proofs.Ytgomffcdoglbfaa
