import Derived.Test.YtkidgfnbllnbcaaChecked
import Derived.WalkKit
import Derived.ProofKit
import Derived.OpenShut
import Derived.ShutString
import Derived.ChangeOld
import Derived.Below
import Derived.Lib.Hide
import Derived.Test.YtkidgfnbllnbcaaRoomO
namespace Go.Proofs.Ytkidgfnbllnbcaa
open Go.ChangeShapes Go.WideShapes Go.ChangeAt Go.RowKit
open Go.ChangeMaps (open_string shut_string)
set_option linter.unusedVariables false
set_option maxRecDepth 100000
def newS (p at_ : Int) (o : Bool) : ROut := if (idB p && tickB at_) = true then ⟨o, [⟨p, 3, at_, 0⟩], [], [], true⟩ else rNo
theorem room_one (p at_ : Int) : roomB [⟨p, 3, at_, 0⟩] [] [] = (idB p && tickB at_) := by
  simp [roomB, membersB, invitesB, bansB, mids, iids, bids, memB, risesB, mbB, roleB, ownB, idB, tickB]
  rw [Bool.and_comm]
theorem own_one (w : World) (p at_ : Int) (base : Nat) (hb : base ≤ w.heap.size) : RoomOwn (w.alloc (.cells #[.int .i64 p, .int .i64 3, .int .i64 at_, .int .i64 0] 58)) base (some ⟨w.heap.size, 0, none⟩) 1 1 none 0 0 none 0 0 [⟨p, 3, at_, 0⟩] [] [] :=
  RoomOwn.mono ⟨World.ownsRow_lit w #[.int .i64 p, .int .i64 3, .int .i64 at_, .int .i64 0] 1 (Nat.le_refl _) (by decide) rfl, World.ownsRow_nil _ _ _ _, World.ownsRow_nil _ _ _ _⟩ hb
set_option maxHeartbeats 800000 in
theorem impl_NewRoom_any (p at_ : Int) (o : Bool) (w : World) :
    Calls Try.prog 16 #[.int .i64 p, .int .i64 at_, .bool o] w fun e w' => RoomOut (newS p at_ o) w e w' := by
  have HB := Lib.hid (room_one p at_)
  have HE := Lib.hid (show newS p at_ o = if (idB p && tickB at_) = true then ⟨o, [⟨p, 3, at_, 0⟩], [], [], true⟩ else rNo from rfl)
  go_enter Try.func16, Try.ntmps16
  go_wp2_with fail
  obtain ⟨k0, hb0⟩ := one_box w 33 #[.bool false, .slice none 0 0, .slice none 0 0, .slice none 0 0]
  have ho := own_one (w.alloc (.cells #[.bool false, .slice none 0 0, .slice none 0 0, .slice none 0 0] 33)) p at_ _ (Nat.le_refl _)
  have hbA := hb0.alloc hb0.size (.cells #[.int .i64 p, .int .i64 3, .int .i64 at_, .int .i64 0] 58)
  have k0 := k0.alloc (.cells #[.int .i64 p, .int .i64 3, .int .i64 at_, .int .i64 0] 58)
  have e1 : (w.alloc (.cells #[.bool false, .slice none 0 0, .slice none 0 0, .slice none 0 0] 33)).heap.size = w.heap.size + 1 := by simp
  rw [e1] at ho
  generalize ((w.alloc (.cells #[.bool false, .slice none 0 0, .slice none 0 0, .slice none 0 0] 33)).alloc (.cells #[.int .i64 p, .int .i64 3, .int .i64 at_, .int .i64 0] 58)) = W at *
  clear hb0 e1
  cases hv : (idB p && tickB at_) with
  | true =>
    go_at_call 51; refine (ifValid_yes _ _ _ _ _ _ _ _ _ _ _ _ _ _ ho.at_ (by omega) (HB.out.trans hv)).mono ?_; rintro e w1 ⟨rfl, hb1⟩
    have k0 := k0.below hb1 k0.lt
    have ho := ho.below hb1 (Nat.le_refl _)
    have hbA := hbA.trans (hb1.mono hbA.size)
    clear hb1
    have r0 := k0.cell 0; have r1 := k0.cell 1; have r2 := k0.cell 2; have r3 := k0.cell 3
    have f0 := k0.frozen 0; have f1 := k0.frozen 1; have f2 := k0.frozen 2; have f3 := k0.frozen 3
    go_wp2
    refine bodyPost_ret (v := .tuple #[.agg #[.bool o, .slice (some ⟨w.heap.size + 1, 0, none⟩) 1 1, .slice none 0 0, .slice none 0 0], .bool true]) (by simp [results, Try.results16, go_sem, r0, r1, r2, r3]) rfl ?_
    rw [HE.out, hv, if_pos rfl]
    exact ⟨_, _, _, _, _, _, _, _, _, rfl, (ho.set4 (Nat.lt_succ_self _) _ _ _ _ _ _ _ _).mono (Nat.le_succ _), below_set4 hbA (Nat.le_refl _) _ _ _ _ _ _ _ _, by omega⟩
  | false =>
    go_at_call 51; refine (ifValid_no _ _ _ _ _ _ _ _ _ _ _ _ _ _ ho.at_ (by omega) (HB.out.trans hv)).mono ?_; rintro e w1 ⟨rfl, hb1⟩
    have k0 := k0.below hb1 k0.lt
    have hbA := hbA.trans (hb1.mono hbA.size)
    clear hb1 ho
    have r0 := k0.cell 0; have r1 := k0.cell 1; have r2 := k0.cell 2; have r3 := k0.cell 3
    have f0 := k0.frozen 0; have f1 := k0.frozen 1; have f2 := k0.frozen 2; have f3 := k0.frozen 3
    go_wp2
    refine bodyPost_ret (v := .tuple #[.agg #[.bool false, .slice none 0 0, .slice none 0 0, .slice none 0 0], .bool false]) (by simp [results, Try.results16, go_sem, r0, r1, r2, r3]) rfl ?_
    rw [HE.out, hv, if_neg (by simp)]
    exact roomOut_no (below_set4 hbA (Nat.le_refl _) _ _ _ _ _ _ _ _)
set_option maxHeartbeats 800000 in
theorem spec_NewRoom_any (p at_ : Int) (o : Bool) (w : World) :
    Calls Try.prog 15 #[.int .i64 p, .int .i64 at_, .bool o] w fun e w' => RoomOut (newS p at_ o) w e w' := by
  have HE := Lib.hid (show newS p at_ o = if (idB p && tickB at_) = true then ⟨o, [⟨p, 3, at_, 0⟩], [], [], true⟩ else rNo from rfl)
  cases v0 : idB p with
  | false =>
    rw [v0, if_neg (by simp)] at HE
    go_enter Try.func15, Try.ntmps15
    go_wp2_with (first | (go_at_call 49; refine (l02Id_b _ _ _ v0).mono ?_; rintro e w' ⟨rfl, rfl⟩))
    refine bodyPost_ret (v := .tuple #[.agg #[.bool false, .slice none 0 0, .slice none 0 0, .slice none 0 0], .bool false]) (by simp [results, Try.results15, go_sem]) rfl ?_
    rw [HE.out]
    exact roomOut_no ((Below.refl _ _).alloc (Nat.le_refl _) _)
  | true =>
  cases v1 : tickB at_ with
  | false =>
    rw [v0, v1, if_neg (by simp)] at HE
    go_enter Try.func15, Try.ntmps15
    go_wp2_with (first | (go_at_call 49; refine (l02Id_b _ _ _ v0).mono ?_; rintro e w' ⟨rfl, rfl⟩) | (go_at_call 50; refine (l02Tick_b _ _ _ v1).mono ?_; rintro e w' ⟨rfl, rfl⟩))
    refine bodyPost_ret (v := .tuple #[.agg #[.bool false, .slice none 0 0, .slice none 0 0, .slice none 0 0], .bool false]) (by simp [results, Try.results15, go_sem]) rfl ?_
    rw [HE.out]
    exact roomOut_no ((Below.refl _ _).alloc (Nat.le_refl _) _)
  | true =>
    go_enter Try.func15, Try.ntmps15
    go_wp2_with (first | (go_at_call 49; refine (l02Id_b _ _ _ v0).mono ?_; rintro e w' ⟨rfl, rfl⟩) | (go_at_call 50; refine (l02Tick_b _ _ _ v1).mono ?_; rintro e w' ⟨rfl, rfl⟩))
    refine bodyPost_ret (v := .tuple #[.agg #[.bool o, .slice (some ⟨w.heap.size + 1, 0, none⟩) 1 1, .slice none 0 0, .slice none 0 0], .bool true]) (by simp [results, Try.results15, go_sem]) rfl ?_
    rw [HE.out, v0, v1, Bool.and_self, if_pos rfl]
    have hb0 := (one_box w 33 #[.bool o, .slice (some ⟨w.heap.size + 1, 0, none⟩) 1 1, .slice none 0 0, .slice none 0 0]).2
    have ho := own_one (w.alloc (.cells #[.bool o, .slice (some ⟨w.heap.size + 1, 0, none⟩) 1 1, .slice none 0 0, .slice none 0 0] 33)) p at_ w.heap.size hb0.size
    have e1 : (w.alloc (.cells #[.bool o, .slice (some ⟨w.heap.size + 1, 0, none⟩) 1 1, .slice none 0 0, .slice none 0 0] 33)).heap.size = w.heap.size + 1 := by simp
    rw [e1] at ho
    exact ⟨_, _, _, _, _, _, _, _, _, rfl, ho, hb0.alloc hb0.size _, by omega⟩
end Go.Proofs.Ytkidgfnbllnbcaa
