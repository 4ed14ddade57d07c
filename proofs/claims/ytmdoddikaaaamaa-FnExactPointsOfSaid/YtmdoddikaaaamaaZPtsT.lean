import Derived.Test.YtmdoddikaaaamaaChecked
import Derived.WalkKit
import Derived.ProofKit
import Derived.OpenShut
import Derived.ShutString
import Derived.ChangeOld
import Derived.Below
import Derived.Lib.Hide
import Derived.Test.YtmdoddikaaaamaaZPtsO
import Derived.Test.YtmdoddikaaaamaaZPtsS
import Derived.Test.YtmdoddikaaaamaaZStrS
import Derived.Test.YtmdoddikaaaamaaZMembersC
import Derived.Test.YtmdoddikaaaamaaZMsgV
namespace Go.Proofs.Ytmdoddikaaaamaa
open Go.ChangeShapes Go.WideShapes Go.ChangeAt Go.RowKit
open Go.ChangeMaps (open_string shut_string)
set_option linter.unusedVariables false
set_option maxRecDepth 100000
theorem span_in (n : Int) : decide (1 ≤ n ∧ n ≤ 1000000) = spanB n := by unfold spanB; by_cases h1 : 1 ≤ n <;> by_cases h2 : n ≤ 1000000 <;> simp [h1, h2]
set_option maxHeartbeats 6400000 in
theorem spec_PointsOf_any (A : Option Addr) (n c : Nat) (xs : List Iv) (mem at_ fade : Int) (w : World) (h : SRow 3 ivC w w.heap.size A n xs) (hn : n ≤ 1048576) :
    Calls Try.prog 54 #[.slice A n c, .int .i64 mem, .int .i64 at_, .int .i64 fade] w fun e w' => e = .returned (.tuple #[.int .i64 (ptsR mem at_ fade xs), .bool (ptsOk mem at_ fade xs)]) ∧ Below w.heap.size w w' := by
  go_enter Try.func54, Try.ntmps54
  go_wp2_with fail
  cases hs : strikesB xs with
  | false =>
    have HN := Lib.hid (ptsOk_off (mem := mem) (at_ := at_) (fade := fade) (xs := xs) (by rw [hs]; rfl))
    go_at_call 72; refine (l06Strikes_any _ _ _ xs _ h hn).mono ?_; rw [show rowG 64 skB skF xs = false from hs]; rintro e w1 ⟨rfl, hb1⟩
    go_wp2
    all_goals exact bodyPost_ret (v := .tuple #[.int .i64 0, .bool false]) (by simp [results, Try.results54, go_sem]) rfl ⟨pts_ret HN.out (ptsOk_no HN.out), hb1⟩
  | true =>
    go_at_call 72; refine (l06Strikes_any _ _ _ xs _ h hn).mono ?_; rw [show rowG 64 skB skF xs = true from hs]; rintro e w1 ⟨rfl, hb1⟩
    cases hm : idB mem with
    | false =>
      have HN := Lib.hid (ptsOk_out (at_ := at_) (fade := fade) (xs := xs) hm)
      go_wp2_with (go_at_call 78; refine (l02Id_b mem _ _ hm).mono ?_; rintro e w2 ⟨rfl, rfl⟩)
      all_goals exact bodyPost_ret (v := .tuple #[.int .i64 0, .bool false]) (by simp [results, Try.results54, go_sem]) rfl ⟨pts_ret HN.out (ptsOk_no HN.out), hb1⟩
    | true =>
      cases ha : tickB at_ with
      | false =>
        have HN := Lib.hid (ptsOk_off (mem := mem) (at_ := at_) (fade := fade) (xs := xs) (by rw [ha]; simp))
        go_wp2_with (first | (go_at_call 78; refine (l02Id_b mem _ _ hm).mono ?_; rintro e w2 ⟨rfl, rfl⟩) | (go_at_call 79; refine (l02Tick_b at_ _ _ ha).mono ?_; rintro e w2 ⟨rfl, rfl⟩))
        all_goals exact bodyPost_ret (v := .tuple #[.int .i64 0, .bool false]) (by simp [results, Try.results54, go_sem]) rfl ⟨pts_ret HN.out (ptsOk_no HN.out), hb1⟩
      | true =>
        cases hf : spanB fade with
        | false =>
          have HN := Lib.hid (ptsOk_off (mem := mem) (at_ := at_) (fade := fade) (xs := xs) (by rw [hf]; simp))
          have hfd := (span_in fade).trans hf
          go_wp2_with (first | (go_at_call 78; refine (l02Id_b mem _ _ hm).mono ?_; rintro e w2 ⟨rfl, rfl⟩) | (go_at_call 79; refine (l02Tick_b at_ _ _ ha).mono ?_; rintro e w2 ⟨rfl, rfl⟩) | (go_at_call 61; refine (l00In_b fade 1 1000000 _ _ hfd).mono ?_; rintro e w2 ⟨rfl, rfl⟩))
          all_goals exact bodyPost_ret (v := .tuple #[.int .i64 0, .bool false]) (by simp [results, Try.results54, go_sem]) rfl ⟨pts_ret HN.out (ptsOk_no HN.out), hb1⟩
        | true =>
          have HY := Lib.hid (ptsOk_on (mem := mem) (at_ := at_) (fade := fade) (xs := xs) (by rw [hs, ha, hf]; rfl) hm)
          have hfd := (span_in fade).trans hf
          have h1 := h.to hb1
          go_wp2_with (first | (go_at_call 78; refine (l02Id_b mem _ _ hm).mono ?_; rintro e w2 ⟨rfl, rfl⟩) | (go_at_call 79; refine (l02Tick_b at_ _ _ ha).mono ?_; rintro e w2 ⟨rfl, rfl⟩) | (go_at_call 61; refine (l00In_b fade 1 1000000 _ _ hfd).mono ?_; rintro e w2 ⟨rfl, rfl⟩) | (go_at_call 80; refine (l06Points_any _ _ _ xs mem at_ fade _ h1 hs ha hf).mono ?_; rintro e w2 ⟨rfl, hb2⟩))
          exact bodyPost_ret (v := .tuple #[.int .i64 (ptsL mem at_ fade xs), .bool true]) (by simp [results, Try.results54, go_sem]) rfl ⟨pts_ret HY.out (ptsOk_yes HY.out), hb1.trans (hb2.mono hb1.size)⟩
end Go.Proofs.Ytmdoddikaaaamaa
