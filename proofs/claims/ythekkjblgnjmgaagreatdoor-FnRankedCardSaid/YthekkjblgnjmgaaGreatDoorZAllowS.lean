import Derived.Test.YthekkjblgnjmgaaGreatDoorChecked
import Derived.WalkKit
import Derived.ProofKit
import Derived.OpenShut
import Derived.ShutString
import Derived.ChangeOld
import Derived.Below
import Derived.Lib.Hide
import Derived.Deep.QuietTactic
import Derived.BigQuiet
import Derived.BigGuardPart
import Derived.Test.YthekkjblgnjmgaaGreatDoorJh
import Derived.Test.YthekkjblgnjmgaaGreatDoorZMayC
import Derived.Test.YthekkjblgnjmgaaGreatDoorZIsRoomC
namespace Go.Proofs.YthekkjblgnjmgaaGreatDoor
open Go.ChangeShapes Go.WideShapes Go.ChangeAt Go.RowKit
open Go.ChangeMaps (open_string shut_string)
set_option linter.unusedVariables false
set_option maxRecDepth 100000
theorem find_at {ms : List Mb} {K : Nat} {t : Int} (hK : (mids ms)[K]? = some t) (hf : NotIn (mids ms) t K) : ∃ m, ms[K]? = some m ∧ findM ms t = some m ∧ m.id = t := by
  simp only [mids, List.getElem?_map, Option.map_eq_some_iff] at hK
  obtain ⟨m, hm, hid⟩ := hK
  refine ⟨m, hm, ?_, hid⟩
  obtain ⟨hlt, he⟩ := List.getElem?_eq_some_iff.1 hm
  unfold findM
  rw [List.find?_eq_some_iff_getElem]
  refine ⟨by simpa using hid, K, hlt, he, fun j hj => ?_⟩
  have := hf j (ms[j].id) hj (by simp [mids, List.getElem?_eq_getElem (show j < ms.length by omega)])
  simpa using this
theorem allow_none {ms : List Mb} {t a at_ : Int} (h : findM ms t = none) : allowB ms t a at_ = false := by simp [allowB, h]
theorem allow_some {ms : List Mb} {t a at_ : Int} {m : Mb} (h : findM ms t = some m) (ht : tickB at_ = true) : allowB ms t a at_ = (mayB m.role a && (decide (m.quiet ≤ at_) || decide (a = 0))) := by simp [allowB, h, ht]
set_option maxHeartbeats 800000 in
theorem spec_RoleOf_any (o : Bool) (A1 A2 A3 : Option Addr) (n1 c1 n2 c2 n3 c3 : Nat) (ms : List Mb) (vs : List Iv) (bs : List Bn) (t : Int) (w : World)
    (h : RoomAt w w.heap.size A1 n1 A2 n2 A3 n3 ms vs bs) (hn : n1 + n2 + n3 ≤ 1048576) :
    Calls Tryz.prog 16 #[.agg #[.bool o, .slice A1 n1 c1, .slice A2 n2 c2, .slice A3 n3 c3], .int .i64 t] w fun e w' => e = .returned (.tuple #[.int .i64 (if roomB ms vs bs = true then roleAt ms t else 0), .bool (roomB ms vs bs && decide (t ∈ mids ms))]) ∧ Below w.heap.size w w' := by
  go_enter Tryz.func16, Tryz.ntmps16
  go_wp2_with fail
  obtain ⟨k0, hb0⟩ := one_box w 28 #[.bool o, .slice A1 n1 c1, .slice A2 n2 c2, .slice A3 n3 c3]
  have h := h.to hb0
  generalize w.alloc (.cells #[.bool o, .slice A1 n1 c1, .slice A2 n2 c2, .slice A3 n3 c3] 28) = W at *
  cases hb : roomB ms vs bs with
  | false =>
    go_at_call 61; refine (l02Is_any _ _ _ _ _ _ _ _ _ _ _ _ _ _ _ (k0.cell 1) (k0.cell 2) (k0.cell 3) h hn).mono ?_; rw [hb]; rintro e w' ⟨rfl, q, rfl⟩
    have hb0 := hb0.trans (Below.mono (drew_below ⟨q, rfl⟩) hb0.size)
    go_wp2
    all_goals exact bodyPost_ret (v := .tuple #[.int .i64 0, .bool false]) (by simp [results, Tryz.results16, go_sem]) rfl ⟨by first | rfl | (rw [hb]; rfl) | (simp [hb]; done), hb0⟩
  | true =>
    go_at_call 61; refine (l02Is_any _ _ _ _ _ _ _ _ _ _ _ _ _ _ _ (k0.cell 1) (k0.cell 2) (k0.cell 3) h hn).mono ?_; rw [hb]; rintro e w' ⟨rfl, q, rfl⟩
    have hb0 := hb0.trans (Below.mono (drew_below ⟨q, rfl⟩) hb0.size)
    have k0 := k0.drewN q
    have h1 := h.1.drewN q
    generalize W.drewN q = W1 at *
    have hp := k0.cell 1
    by_cases hm : t ∈ mids ms
    · obtain ⟨K, hK, hf⟩ := first_at hm
      obtain ⟨m, hz, hF, _⟩ := find_at hK hf
      have hKn : K < n1 := by rw [← h1.1]; exact (List.getElem?_eq_some_iff.1 hz).1
      have hk0 : (0 : Int) ≤ (K : Int) := by omega
      have hk1 : (K : Int) < (n1 : Int) := by omega
      obtain ⟨b, off, z, rfl, _, hz', c0, c1, c2, c3⟩ := h1.atm hKn
      rw [hz] at hz'
      injection hz' with hz'
      subst hz'
      have HK := Lib.hid hK; have HN := Lib.hid hf
      have HA := Lib.hid (show roleAt ms t = m.role by simp [roleAt, hF])
      have HT := Lib.hid hm
      clear hK hf hz hm
      go_wp2_with (go_at_call 62; refine (l02Find_at _ _ _ _ _ _ _ _ hp h1 (by omega) K HK.out HN.out).mono ?_; rintro e w' ⟨rfl, rfl⟩)
      go_quiet ((first | (go_at_call 62; exact l02Find_qat _ _ _ _ _ _ _ _ hp h1 (by omega) K HK.out HN.out _)))
      go_wp2
      all_goals exact bodyPost_ret (v := .tuple #[.int .i64 m.role, .bool true]) (by simp [results, Tryz.results16, go_sem]) rfl ⟨by first | (rw [HA.out, decide_eq_true HT.out]; done) | simp [HA.out, hb, decide_eq_true HT.out], hb0.trans (Below.mono (drew_below ⟨_, rfl⟩) hb0.size)⟩
    · have HN := Lib.hid hm
      have HA := Lib.hid (show roleAt ms t = 0 by simp [roleAt, findM_none.2 hm])
      clear hm
      go_wp2_with (go_at_call 62; refine (l02Find_no _ _ _ _ _ _ _ _ hp h1 (by omega) HN.out).mono ?_; rintro e w' ⟨rfl, rfl⟩)
      all_goals exact bodyPost_ret (v := .tuple #[.int .i64 0, .bool false]) (by simp [results, Tryz.results16, go_sem]) rfl ⟨by first | (rw [decide_eq_false HN.out]; done) | (rw [HA.out, decide_eq_false HN.out]; done) | simp [HA.out, hb, decide_eq_false HN.out], hb0⟩
end Go.Proofs.YthekkjblgnjmgaaGreatDoor
