import Derived.Test.YtmdoddikaaaamaaChecked
import Derived.WalkKit
import Derived.ProofKit
import Derived.OpenShut
import Derived.ShutString
import Derived.ChangeOld
import Derived.Below
import Derived.Lib.Hide
import Derived.Test.YtmdoddikaaaamaaZPtsA
import Derived.Test.YtmdoddikaaaamaaZPtsO
namespace Go.Proofs.Ytmdoddikaaaamaa
open Go.ChangeShapes Go.WideShapes Go.ChangeAt Go.RowKit
open Go.ChangeMaps (open_string shut_string)
set_option linter.unusedVariables false
set_option maxRecDepth 100000
set_option maxHeartbeats 6400000 in
theorem impl_PointsOf_any (A : Option Addr) (n c : Nat) (xs : List Iv) (mem at_ fade : Int) (w : World) (h : SRow 3 ivC w w.heap.size A n xs) (hn : n ≤ 1048576) :
    Calls Try.prog 55 #[.slice A n c, .int .i64 mem, .int .i64 at_, .int .i64 fade] w fun e w' => e = .returned (.tuple #[.int .i64 (ptsR mem at_ fade xs), .bool (ptsOk mem at_ fade xs)]) ∧ Below w.heap.size w w' := by
  go_enter Try.func55, Try.ntmps55
  go_wp2_with fail
  go_at_call 81; refine (pointsAt_any _ _ _ xs at_ fade _ h hn).mono ?_
  rintro e w1 ⟨he, hb1⟩
  cases hk : (strikesB xs && (tickB at_ && spanB fade)) with
  | false =>
    rw [hk] at he
    simp only [Bool.false_eq_true, if_false] at he
    subst he
    have HN := Lib.hid (ptsOk_off (mem := mem) hk)
    clear hk h
    go_wp2
    exact bodyPost_ret (v := .tuple #[.int .i64 0, .bool false]) (by simp [results, Try.results55, go_sem]) rfl ⟨pts_ret HN.out (ptsOk_no HN.out), hb1⟩
  | true =>
    rw [hk] at he
    simp only [if_true] at he
    obtain ⟨g, N, rfl, hg, hown⟩ := he
    have HK := Lib.hid hk
    clear hk h
    cases hm : idB mem with
    | false =>
      have HN := Lib.hid (ptsOk_out (at_ := at_) (fade := fade) (xs := xs) hm)
      go_wp2_with (go_at_call 82; refine (isMember_b mem _ _ hm).mono ?_; rintro e w2 ⟨rfl, rfl⟩)
      exact bodyPost_ret (v := .tuple #[.int .i64 0, .bool false]) (by simp [results, Try.results55, go_sem]) rfl ⟨pts_ret HN.out (ptsOk_no HN.out), hb1⟩
    | true =>
      have HY := Lib.hid (ptsOk_on HK.out hm)
      have hlk := look_num kInt Try.underlying92 Try.underlying2 (zeroN w1) hown mem (wf_id hm)
      rw [lk0_tal] at hlk
      go_wp2_with (go_at_call 82; refine (isMember_b mem _ _ hm).mono ?_; rintro e w2 ⟨rfl, rfl⟩)
      exact bodyPost_ret (v := .tuple #[.int .i64 (ptsL mem at_ fade xs), .bool true]) (by simp [results, Try.results55, go_sem]) rfl ⟨pts_ret HY.out (ptsOk_yes HY.out), hb1⟩
end Go.Proofs.Ytmdoddikaaaamaa
