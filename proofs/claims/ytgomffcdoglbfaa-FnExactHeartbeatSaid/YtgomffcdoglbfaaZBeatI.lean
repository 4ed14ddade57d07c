import Derived.Test.YtgomffcdoglbfaaChecked
import Derived.WalkKit
import Derived.ProofKit
import Derived.OpenShut
import Derived.ShutString
import Derived.ChangeOld
import Derived.Below
import Derived.Lib.Hide
import Derived.StillTailTactics
import Derived.Maps.OwnSet
import Derived.Maps.OwnOps
import Derived.Shelf.Abstract
import Derived.Deep.RegionHeld3
import Derived.Test.YtgomffcdoglbfaaZAtI
import Derived.Test.YtgomffcdoglbfaaJp
namespace Go.Proofs.Ytgomffcdoglbfaa
open Go.ChangeShapes Go.WideShapes Go.ChangeAt Go.RowKit
open Go.ChangeMaps (open_string shut_string)
set_option linter.unusedVariables false
open Go.Maps
set_option maxRecDepth 100000
set_option maxHeartbeats 6400000 in
theorem beat_turns (gm gd : Nat) (t at_ d : Int) (hs ts ks : List Bn) (w : World) (hm : Blk w gm 2 #[.int .i64 t]) (hv : Blk w gd 2 #[.int .i64 d]) (wft : (Lit.int .i64 t).wf = true) (ho : presB hs ts ks = true) (hat : tickB at_ = true) :
    TurnsAt 73 #[.pointer (some ⟨gd, 0, none⟩), .pointer (some ⟨gm, 0, none⟩)] at_ (durB d) ⟨tellB hs t (at_ + d), ts, ks⟩ hs ts ks w := by
  intro w' base G gc hb hB hw hG kc
  obtain ⟨g1, N1, xs, g2, N2, ys, g3, N3, zs, hA, e1, e2, e3, b1, b2, b3⟩ := hG
  have HO := Lib.hid (presOk ho)
  have km := hm.below hb hm.lt
  have kd := hv.below hb hv.lt
  have HE := Lib.hid (And.intro e1 (And.intro e2 e3))
  have ht0 : 0 ≤ at_ ∧ at_ ≤ 1000000 := by simpa [tickB] using hat
  obtain ⟨ht1, ht2⟩ := ht0
  clear hm hv e1 e2 e3 ho hat
  show Calls Try.prog 73 #[.pointer (some ⟨G, 0, none⟩), .func (.func 108) #[] #[.pointer (some ⟨gc, 0, none⟩)], .pointer (some ⟨gd, 0, none⟩), .pointer (some ⟨gm, 0, none⟩)] w' _
  have l1 := kd.cell 0; have lt1 := kd.lt
  by_cases h0 : d < 1
  · have hy : durB d = false := by simp [durB]; omega
    rw [hy]
    have h0' : decide (d < 1) = true := decide_eq_true h0
    go_enter Try.func73, Try.ntmps73
    go_wp2
    all_goals go_ret
    all_goals first | exact ⟨rfl, (fun h => by cases h), Below.refl _ _⟩ | exact ⟨rfl, Below.refl _ _⟩ | exact Below.refl _ _
  · by_cases h1 : 1000 < d
    · have hy : durB d = false := by simp [durB]; omega
      rw [hy]
      have h0' : decide (d < 1) = false := decide_eq_false h0
      have h1' : decide (1000 < d) = true := decide_eq_true h1
      go_enter Try.func73, Try.ntmps73
      go_wp2
      all_goals go_ret
      all_goals first | exact ⟨rfl, (fun h => by cases h), Below.refl _ _⟩ | exact ⟨rfl, Below.refl _ _⟩ | exact Below.refl _ _
    · have hy : durB d = true := by simp [durB]; omega
      rw [hy]
      have h0' : decide (d < 1) = false := decide_eq_false h0
      have h1' : decide (1000 < d) = false := decide_eq_false h1
      go_enter Try.func73, Try.ntmps73
      go_wp2_with fail
      have hD : GathAt w'.drew base G g1 N1 xs g2 N2 ys g3 N3 zs := hA.below (Below.refl _ _).drew
      have hbD : Below base w' w'.drew := (Below.refl _ _).drew
      have zD : base ≤ w'.drew.heap.size := hw
      have kmD : Blk w'.drew gm 2 #[.int .i64 t] := km
      have kdD : Blk w'.drew gd 2 #[.int .i64 d] := kd
      have kcD : Blk w'.drew gc 2 #[.int .i64 at_] := kc
      clear l1 lt1 km kd kc hA
      have cG : w'.drew.cell? ⟨G, 0, none⟩ = some (.map (some g1)) := hD.blk.cell 0
      have cm : w'.drew.cell? ⟨gm, 0, none⟩ = some (.int .i64 t) := kmD.cell 0
      have cd : w'.drew.cell? ⟨gd, 0, none⟩ = some (.int .i64 d) := kdD.cell 0
      go_region_held3 (fun w' => w'.cell? ⟨G, 0, none⟩ = some (.map (some g1)) ∧ w'.cell? ⟨gm, 0, none⟩ = some (.int .i64 t) ∧ w'.cell? ⟨gd, 0, none⟩ = some (.int .i64 d)) (first | exact ⟨cG3, cm3, cd3⟩ | exact ⟨cG, cm, cd⟩) ((first
        | (go_at_call 108; refine (clock_any _ _ _ kcD).mono ?_; rintro e w5 ⟨rfl, rfl⟩)
        | (go_at_call 74; refine (tell_any base g1 N1 xs t _ _ hD.w1 zD (by omega) wft).mono ?_; rintro e w3 ⟨rfl, us', N'', hN'', hwA, hwe, hst, hnb⟩; have cG3 := (hst.blk hD.blk (hD.w1.not_blk hD.blk)).cell 0; have cm3 := (hst.blk kmD (hD.w1.not_blk kmD)).cell 0; have cd3 := (hst.blk kdD (hD.w1.not_blk kdD)).cell 0)))
      have hw1 : IntKind.i64.wrap (at_ + d) = at_ + d := IntWalk.i64_in _ (by omega)
      rw [hw1] at hwe
      clear hw1
      have hG := hD.put1 hwA hst hnb
      have hbF := hst.below hbD zD (fun k hk => (hD.all k (gblk_1 hk)).1)
      have HF := Lib.hid (show Gath 1000 w3 base G (tellB hs t (at_ + d)) ts ks from ⟨_, _, us', _, _, ys, _, _, zs, hG, by rw [hwe, HE.out.1], HE.out.2.1, HE.out.2.2, by omega, by omega, by omega⟩)
      clear hD hwA hwe hst hnb hG cG3 cm3 cd3 cG cm cd kmD kdD kcD
      go_wp2
      go_ret
      have o1 := HO.out.l1; have o2 := HO.out.l2; have o3 := HO.out.l3
      exact ⟨rfl, (fun _ => ⟨HF.out, ⟨HO.out.f1.tell wft, HO.out.f2, HO.out.f3⟩, by have := tellB_len hs t (at_ + d); show (tellB hs t (at_ + d)).length ≤ 1000; omega, by show ts.length ≤ 1000; omega, by show ks.length ≤ 1000; omega⟩), hbF⟩
set_option maxHeartbeats 3200000 in
theorem impl_Heartbeat_any (A1 A2 A3 : Option Addr) (n1 c1 n2 c2 n3 c3 : Nat) (hs ts ks : List Bn) (t : Int) (at_ : Int) (d : Int) (w : World) (h : PresAt w w.heap.size A1 n1 A2 n2 A3 n3 hs ts ks) (hn : n1 + n2 + n3 ≤ 1048576) (wft : (Lit.int .i64 t).wf = true) :
    Calls Try.prog 34 #[.agg #[.slice A1 n1 c1, .slice A2 n2 c2, .slice A3 n3 c3], .int .i64 t, .int .i64 at_, .int .i64 d] w fun e w' => PresOut (giveR (okR hs ts ks (tickB at_ && durB d) ⟨tellB hs t (at_ + d), ts, ks⟩) ⟨tellB hs t (at_ + d), ts, ks⟩) (okR hs ts ks (tickB at_ && durB d) ⟨tellB hs t (at_ + d), ts, ks⟩) w e w' := by
  go_enter Try.func34, Try.ntmps34
  obtain ⟨k0, km, hb0⟩ := two_boxes w 31 2 #[.slice A1 n1 c1, .slice A2 n2 c2, .slice A3 n3 c3] #[.int .i64 t]
  obtain ⟨kn, k1, hb1⟩ := two_boxes ((w.alloc (.cells #[.slice A1 n1 c1, .slice A2 n2 c2, .slice A3 n3 c3] 31)).alloc (.cells #[.int .i64 t] 2)) 2 31 #[.int .i64 d] #[.slice none 0 0, .slice none 0 0, .slice none 0 0]
  have k0 := k0.below hb1 k0.lt; have km := km.below hb1 km.lt
  have hb0 := hb0.trans (hb1.mono hb0.size)
  have h := h.to hb0
  clear hb1
  simp only [szA] at kn k1
  have l0 := k0.cell 0; have l1 := k0.cell 1; have l2 := k0.cell 2; have klt := k0.lt
  go_wp2_with fail
  clear l0 l1 l2 klt
  generalize (((w.alloc (.cells #[.slice A1 n1 c1, .slice A2 n2 c2, .slice A3 n3 c3] 31)).alloc (.cells #[.int .i64 t] 2)).alloc (.cells #[.int .i64 d] 2)).alloc (.cells #[.slice none 0 0, .slice none 0 0, .slice none 0 0] 31) = W at *
  have cc := changedAt_any 73 #[.pointer (some ⟨w.heap.size + 1 + 1, 0, none⟩), .pointer (some ⟨w.heap.size + 1, 0, none⟩)] (enters_of Try.func73 (by kernel_rfl) rfl) at_ (durB d) ⟨tellB hs t (at_ + d), ts, ks⟩ _ _ _ n1 c1 n2 c2 n3 c3 hs ts ks W h hn (fun hp hq => beat_turns _ _ t at_ d hs ts ks W km kn wft hp hq)
  go_at_call 72; refine cc.mono ?_; rintro e w2 ⟨B1, m1, d1, B2, m2, d2, B3, m3, d3, rfl, hO, hb2, hn2⟩
  have zW := k1.lt
  have k1 := k1.below hb2 k1.lt
  have hb0 := hb0.trans (hb2.mono hb0.size)
  have r0 := k1.cell 0; have r1 := k1.cell 1; have r2 := k1.cell 2; have f0 := k1.frozen 0; have f1 := k1.frozen 1; have f2 := k1.frozen 2
  go_wp2
  exact bodyPost_ret (v := .tuple #[.agg #[.slice B1 m1 d1, .slice B2 m2 d2, .slice B3 m3 d3], .bool (okR hs ts ks (tickB at_ && durB d) ⟨tellB hs t (at_ + d), ts, ks⟩)]) (by simp [results, Try.results34, go_sem, r0, r1, r2]) rfl ⟨_, _, _, _, _, _, _, _, _, rfl, (hO.set3 (by omega) _ _ _ _ _ _).mono (by omega), below_set3 hb0 (by omega) _ _ _ _ _ _, hn2⟩
end Go.Proofs.Ytgomffcdoglbfaa
