import Derived.Test.YtmnmmjobplbflaaGreatDoorChecked
import Derived.WalkKit
import Derived.ProofKit
import Derived.OpenShut
import Derived.ShutString
import Derived.ChangeOld
import Derived.Below
import Derived.Lib.Hide
import Derived.Deep.QuietTactic
import Derived.BigQuiet
import Derived.Lib.SmallJoins
import Derived.Test.YtmnmmjobplbflaaGreatDoorZRankD
import Derived.Test.YtmnmmjobplbflaaGreatDoorJs
import Derived.Test.YtmnmmjobplbflaaGreatDoorZValidI
import Derived.Test.YtmnmmjobplbflaaGreatDoorZListedC
import Derived.Test.YtmnmmjobplbflaaGreatDoorJh
namespace Go.Proofs.YtmnmmjobplbflaaGreatDoor
open Go.ChangeShapes Go.WideShapes Go.ChangeAt Go.RowKit
open Go.ChangeMaps (open_string shut_string)
set_option linter.unusedVariables false
set_option maxRecDepth 100000
def rkL (ms : List Mb) : List Int := (rankL ms.length ms).map Mb.id
/-- the members by their ranks, and whether the room is one -/
def RankOut (r : Bool) (ms : List Mb) (w : World) (e : Ending) (w' : World) : Prop :=
  ∃ A n c zs, e = .returned (.tuple #[.slice A n c, .bool r]) ∧ zs = (if r = true then rkL ms else []) ∧ w'.ownsRow w.heap.size 2 1 (.slice A n c) n (zs.map i64v) ∧ Below w.heap.size w w'
theorem rkL_len (ms : List Mb) : (rkL ms).length ≤ ms.length := by
  have h : ∀ n (l : List Mb), (rankL n l).length ≤ n := by
    intro n
    induction n with
    | zero => intro l; simp [rankL]
    | succ n ih =>
      intro l
      rw [rankL]
      cases bestM l with
      | none => simp
      | some m => simp; exact ih _
  unfold rkL
  rw [List.length_map]
  exact h _ _
set_option maxHeartbeats 1600000 in
theorem impl_RanksOf_any (o : Bool) (A1 A2 A3 : Option Addr) (n1 c1 n2 c2 n3 c3 : Nat) (ms : List Mb) (vs : List Iv) (bs : List Bn) (w : World)
    (h : RoomAt w w.heap.size A1 n1 A2 n2 A3 n3 ms vs bs) (hn : n1 + n2 + n3 ≤ 1048576) :
    Calls Tryz.prog 15 #[.agg #[.bool o, .slice A1 n1 c1, .slice A2 n2 c2, .slice A3 n3 c3]] w fun e w' => RankOut (roomB ms vs bs) ms w e w' := by
  go_enter Tryz.func15, Tryz.ntmps15
  go_wp2_with fail
  obtain ⟨k0, hb0⟩ := one_box w 28 #[.bool o, .slice A1 n1 c1, .slice A2 n2 c2, .slice A3 n3 c3]
  generalize w.alloc (.cells #[.bool o, .slice A1 n1 c1, .slice A2 n2 c2, .slice A3 n3 c3] 28) = W at *
  have h := (h.below hb0).more hb0.size
  have HL1 := Lib.hid h.1.1
  cases hb : roomB ms vs bs with
  | false =>
    go_at_call 12; refine (impl_ValidRoom_any _ _ _ _ _ _ _ _ _ _ _ _ _ _ h hn).mono ?_; rw [hb]; rintro e w1 ⟨rfl, hb1⟩
    have hb0 := hb0.trans (hb1.mono hb0.size)
    go_wp2
    all_goals exact bodyPost_ret (v := .tuple #[.slice none 0 0, .bool false]) (by simp [results, Tryz.results15, go_sem]) rfl (by rw [hb]; exact ⟨none, 0, 0, [], rfl, by simp, World.ownsRow_nil _ _ _ _, hb0⟩)
  | true =>
    have HV := Lib.hid (roomB_iff.1 hb)
    have HB := Lib.hid hb
    go_at_call 12; refine (impl_ValidRoom_any _ _ _ _ _ _ _ _ _ _ _ _ _ _ h hn).mono ?_; rw [hb]; rintro e w1 ⟨rfl, hb1⟩
    have h1 := (h.to hb1).1
    have k0 := k0.below hb1 k0.lt
    have hb0 := hb0.trans (hb1.mono hb0.size)
    have hW := hb0.size
    clear hb1 h hb
    have l1 := k0.cell 1
    have klt := k0.lt
    go_wp2_with fail
    go_at_call 46; refine (ranked_any _ _ _ _ _ (by omega) h1).mono ?_; rintro e w2 ⟨v, ys, rfl, hp, hs, ho2, hb2⟩
    obtain ⟨A, c, rfl⟩ : ∃ A c, v = .slice A n1 c := by
      rcases ho2.2 with ⟨hv, h0⟩ | ⟨g, cap, cur, hv, _⟩
      · exact ⟨none, 0, by rw [hv, h0]⟩
      · exact ⟨_, _, hv⟩
    have HP := Lib.hid hp
    have HS := Lib.hid hs
    have hb0 := hb0.trans (hb2.mono hW)
    have hr := SRow.of_own_any mbC_len (by omega) ho2
    clear hp hs ho2 hb2 h1
    go_wp2_with fail
    go_at_call 38; refine (idsOfM_any _ _ _ _ _ hr (by omega)).mono ?_; rintro e w3 ⟨g, c', rfl, ho3, hb3⟩
    have HZ := Lib.hid (show mids ys = rkL ms by
      unfold rkL
      have e := HP.out.length_eq
      rw [← e, rankL_sorted ys ms (rise_ne HV.out.r1) HP.out HS.out]
      rfl)
    have hb4 := hb0.trans (hb3.mono hb0.size)
    have ho4 := World.ownsRow.mono ho3 hb0.size
    go_wp2
    refine bodyPost_ret (v := .tuple #[.slice (some ⟨g, 0, none⟩) n1 c', .bool true]) (by simp [results, Tryz.results15, go_sem]) rfl ?_
    rw [HB.out]
    exact ⟨_, _, _, _, rfl, by rw [if_pos rfl], by rw [← HZ.out]; exact ho4, hb4⟩
end Go.Proofs.YtmnmmjobplbflaaGreatDoor
