import Derived.Test.YtgomffcdoglbfaaChecked
import Derived.WalkKit
import Derived.ProofKit
import Derived.OpenShut
import Derived.ShutString
import Derived.ChangeOld
import Derived.Below
import Derived.Lib.Hide
import Derived.StillTailTactics
import Derived.Maps.OwnSet
import Derived.Maps.OwnOps
import Derived.Shelf.Abstract
import Derived.Test.YtgomffcdoglbfaaZChgP
import Derived.Test.YtgomffcdoglbfaaZMsgV
namespace Go.Proofs.Ytgomffcdoglbfaa
open Go.ChangeShapes Go.WideShapes Go.ChangeAt Go.RowKit
open Go.ChangeMaps (open_string shut_string)
set_option linter.unusedVariables false
open Go.Maps
set_option maxRecDepth 100000
theorem szA (w : World) (x : Obj) : (w.alloc x).heap.size = w.heap.size + 1 := by simp
set_option maxHeartbeats 3200000 in
theorem readUp_turns (gm gn : Nat) (t m : Int) (hs ts ks : List Bn) (w : World) (hm : Blk w gm 2 #[.int .i64 t]) (hv : Blk w gn 2 #[.int .i64 m]) (wft : (Lit.int .i64 t).wf = true) (ho : presB hs ts ks = true) :
    Turns 79 #[.pointer (some ⟨gn, 0, none⟩), .pointer (some ⟨gm, 0, none⟩)] (amtB m) ⟨hs, ts, tellB ks t m⟩ hs ts ks w := by
  intro w' base G hb hB hw hG
  obtain ⟨g1, N1, xs, g2, N2, ys, g3, N3, zs, hA, e1, e2, e3, b1, b2, b3⟩ := hG
  have HO := Lib.hid (presOk ho)
  have km := hm.below hb hm.lt
  have kn := hv.below hb hv.lt
  have HE := Lib.hid (And.intro e1 (And.intro e2 e3))
  have HALL := Lib.hid hA.all
  clear hm hv e1 e2 e3 ho
  show Calls Try.prog 79 #[.pointer (some ⟨G, 0, none⟩), .pointer (some ⟨gn, 0, none⟩), .pointer (some ⟨gm, 0, none⟩)] w' _
  go_enter Try.func79, Try.ntmps79
  have l0 := km.cell 0; have l1 := kn.cell 0; have lt0 := km.lt; have lt1 := kn.lt
  have q0 := hA.blk.cell 2; have ql := hA.blk.lt
  cases ta : amtB m with
  | false =>
    go_wp2_with (go_at_call 59; refine (isAmount_b _ _ _ ta).mono ?_; rintro e w6 ⟨rfl, rfl⟩)
    all_goals go_ret
    all_goals exact ⟨rfl, (fun h => by cases h), Below.refl _ _⟩
  | true =>
    go_wp2_with (go_at_call 59; refine (isAmount_b _ _ _ ta).mono ?_; rintro e w6 ⟨rfl, rfl⟩)
    have hD : GathAt w'.drew base G g1 N1 xs g2 N2 ys g3 N3 zs := hA.below (Below.refl _ _).drew
    have hbD : Below base w' w'.drew := (Below.refl _ _).drew
    have zD : base ≤ w'.drew.heap.size := hw
    go_still_tail 6, (by kernel_rfl)
    go_wp2_with fail
    clear l0 l1 lt0 lt1 q0 ql km kn hA
    generalize w'.drew = V at *
    go_at_call 74; refine (tell_any base g3 N3 zs t m _ hD.w3 zD (by omega) wft).mono ?_; rintro e w3 ⟨rfl, us', N'', hN'', hwA, hwe, hst, hnb⟩
    have hG := hD.put3 hwA hst hnb
    have hbF := hst.below hbD zD (fun k hk => (hD.all k (gblk_3 hk)).1)
    have HF := Lib.hid (show Gath 1000 w3 base G hs ts (tellB ks t m) from ⟨_, _, xs, _, _, ys, _, _, us', hG, HE.out.1, HE.out.2.1, by rw [hwe, HE.out.2.2], by omega, by omega, by omega⟩)
    clear hD hwA hwe hst hnb hG
    go_wp2
    go_ret
    have o1 := HO.out.l1; have o2 := HO.out.l2; have o3 := HO.out.l3
    first | exact ⟨rfl, ⟨HF.out, ⟨HO.out.f1, HO.out.f2, HO.out.f3.tell wft⟩, by show hs.length ≤ 1000; omega, by show ts.length ≤ 1000; omega, by have := tellB_len ks t m; show (tellB ks t m).length ≤ 1000; omega⟩, hbF⟩ | exact ⟨rfl, fun _ => ⟨HF.out, ⟨HO.out.f1, HO.out.f2, HO.out.f3.tell wft⟩, by show hs.length ≤ 1000; omega, by show ts.length ≤ 1000; omega, by have := tellB_len ks t m; show (tellB ks t m).length ≤ 1000; omega⟩, hbF⟩
set_option maxHeartbeats 3200000 in
theorem impl_ReadUpTo_any (A1 A2 A3 : Option Addr) (n1 c1 n2 c2 n3 c3 : Nat) (hs ts ks : List Bn) (t : Int) (m : Int) (w : World) (h : PresAt w w.heap.size A1 n1 A2 n2 A3 n3 hs ts ks) (hn : n1 + n2 + n3 ≤ 1048576) (wft : (Lit.int .i64 t).wf = true) :
    Calls Try.prog 37 #[.agg #[.slice A1 n1 c1, .slice A2 n2 c2, .slice A3 n3 c3], .int .i64 t, .int .i64 m] w fun e w' => PresOut (giveR (okR hs ts ks (amtB m) ⟨hs, ts, tellB ks t m⟩) ⟨hs, ts, tellB ks t m⟩) (okR hs ts ks (amtB m) ⟨hs, ts, tellB ks t m⟩) w e w' := by
  go_enter Try.func37, Try.ntmps37
  obtain ⟨k0, km, hb0⟩ := two_boxes w 31 2 #[.slice A1 n1 c1, .slice A2 n2 c2, .slice A3 n3 c3] #[.int .i64 t]
  obtain ⟨kn, k1, hb1⟩ := two_boxes ((w.alloc (.cells #[.slice A1 n1 c1, .slice A2 n2 c2, .slice A3 n3 c3] 31)).alloc (.cells #[.int .i64 t] 2)) 2 31 #[.int .i64 m] #[.slice none 0 0, .slice none 0 0, .slice none 0 0]
  have k0 := k0.below hb1 k0.lt; have km := km.below hb1 km.lt
  have hb0 := hb0.trans (hb1.mono hb0.size)
  have h := h.to hb0
  clear hb1
  simp only [szA] at kn k1
  have l0 := k0.cell 0; have l1 := k0.cell 1; have l2 := k0.cell 2; have klt := k0.lt
  go_wp2_with fail
  clear l0 l1 l2 klt
  generalize (((w.alloc (.cells #[.slice A1 n1 c1, .slice A2 n2 c2, .slice A3 n3 c3] 31)).alloc (.cells #[.int .i64 t] 2)).alloc (.cells #[.int .i64 m] 2)).alloc (.cells #[.slice none 0 0, .slice none 0 0, .slice none 0 0] 31) = W at *
  have cc := changedPresence_any 79 #[.pointer (some ⟨w.heap.size + 1 + 1, 0, none⟩), .pointer (some ⟨w.heap.size + 1, 0, none⟩)] (enters_of Try.func79 (by kernel_rfl) rfl) (amtB m) ⟨hs, ts, tellB ks t m⟩ _ _ _ n1 c1 n2 c2 n3 c3 hs ts ks W h hn (fun hp => readUp_turns _ _ t m hs ts ks W km kn wft hp)
  go_at_call 78; refine cc.mono ?_; rintro e w2 ⟨B1, m1, d1, B2, m2, d2, B3, m3, d3, rfl, hO, hb2, hn2⟩
  have zW := k1.lt
  have k1 := k1.below hb2 k1.lt
  have hb0 := hb0.trans (hb2.mono hb0.size)
  have r0 := k1.cell 0; have r1 := k1.cell 1; have r2 := k1.cell 2; have f0 := k1.frozen 0; have f1 := k1.frozen 1; have f2 := k1.frozen 2
  go_wp2
  exact bodyPost_ret (v := .tuple #[.agg #[.slice B1 m1 d1, .slice B2 m2 d2, .slice B3 m3 d3], .bool (okR hs ts ks (amtB m) ⟨hs, ts, tellB ks t m⟩)]) (by simp [results, Try.results37, go_sem, r0, r1, r2]) rfl ⟨_, _, _, _, _, _, _, _, _, rfl, (hO.set3 (by omega) _ _ _ _ _ _).mono (by omega), below_set3 hb0 (by omega) _ _ _ _ _ _, hn2⟩
end Go.Proofs.Ytgomffcdoglbfaa
