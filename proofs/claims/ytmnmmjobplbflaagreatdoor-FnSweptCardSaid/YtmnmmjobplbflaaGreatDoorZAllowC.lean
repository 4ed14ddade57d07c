import Derived.Test.YtmnmmjobplbflaaGreatDoorChecked
import Derived.WalkKit
import Derived.ProofKit
import Derived.OpenShut
import Derived.ShutString
import Derived.ChangeOld
import Derived.Below
import Derived.Lib.Hide
import Derived.Test.YtmnmmjobplbflaaGreatDoorZMemC
import Derived.Test.YtmnmmjobplbflaaGreatDoorZAllowS
namespace Go.Proofs.YtmnmmjobplbflaaGreatDoor
open Go.ChangeShapes Go.WideShapes Go.ChangeAt Go.RowKit
open Go.ChangeMaps (open_string shut_string)
set_option linter.unusedVariables false
open Go.Maps
set_option maxRecDepth 100000
set_option maxHeartbeats 1600000 in
theorem impl_IsAllowed_any (o : Bool) (A1 A2 A3 : Option Addr) (n1 c1 n2 c2 n3 c3 : Nat) (ms : List Mb) (vs : List Iv) (bs : List Bn) (t ac at_ : Int) (a : Addr) (w : World)
    (h : RoomAt w w.heap.size A1 n1 A2 n2 A3 n3 ms vs bs) (hn : n1 + n2 + n3 ≤ 1048576) (he : ErrN w a) (hw : (Lit.int .i64 t).wf = true) :
    Calls Tryz.prog 18 #[.agg #[.bool o, .slice A1 n1 c1, .slice A2 n2 c2, .slice A3 n3 c3], .int .i64 t, .int .i64 ac, .int .i64 at_] w fun e w' => e = .returned (.bool (roomB ms vs bs && allowB ms t ac at_)) ∧ Below w.heap.size w w' := by
  go_enter Tryz.func18, Tryz.ntmps18
  go_wp2_with fail
  obtain ⟨k0, hb0⟩ := one_box w 28 #[.bool o, .slice A1 n1 c1, .slice A2 n2 c2, .slice A3 n3 c3]
  generalize w.alloc (.cells #[.bool o, .slice A1 n1 c1, .slice A2 n2 c2, .slice A3 n3 c3] 28) = W at *
  have h := (h.below hb0).more hb0.size
  have he := he.below hb0
  have HL1 := Lib.hid h.1.1; have HL2 := Lib.hid h.2.1.1; have HL3 := Lib.hid h.2.2.1
  cases hb : roomB ms vs bs with
  | false =>
    go_at_call 12; refine (impl_ValidRoom_any _ _ _ _ _ _ _ _ _ _ _ _ _ _ h hn).mono ?_; rw [hb]; rintro e w1 ⟨rfl, hb1⟩
    have hb0 := hb0.trans (hb1.mono hb0.size)
    go_wp2
    all_goals go_ret
    exact ⟨ret_bool (by rw [hb]; rfl), hb0⟩
  | true =>
    have hv := roomB_iff.1 hb
    go_at_call 12; refine (impl_ValidRoom_any _ _ _ _ _ _ _ _ _ _ _ _ _ _ h hn).mono ?_; rw [hb]; rintro e w1 ⟨rfl, hb1⟩
    have h := h.to hb1
    have he := he.below hb1
    have k0 := k0.below hb1 k0.lt
    have hb0 := hb0.trans (hb1.mono hb0.size)
    clear hb1
    cases ht : tickB at_ with
    | false =>
      have HA := Lib.hid (show allowB ms t ac at_ = false by simp [allowB, ht])
      go_wp2_with (go_at_call 50; refine (isTick_b _ _ _ ht).mono ?_; rintro e w' ⟨rfl, rfl⟩)
      all_goals go_ret
      exact ⟨ret_bool (by rw [HA.out, hb]; rfl), hb0⟩
    | true =>
      have l0 := k0.cell 0; have l1 := k0.cell 1; have l2 := k0.cell 2; have l3 := k0.cell 3
      go_wp2_with (go_at_call 50; refine (isTick_b _ _ _ ht).mono ?_; rintro e w' ⟨rfl, rfl⟩)
      go_at_call 30; refine (bookOf_any _ _ _ _ _ _ _ _ _ _ _ _ _ _ h (by have := hv.l1; have := hv.l2; have := hv.l3; have := HL1.out; have := HL2.out; have := HL3.out; omega) hv.facts).mono ?_; rintro e w2 ⟨g, rfl, hB, hb1⟩
      have he := he.below hb1
      have hb0 := hb0.trans (hb1.mono hb0.size)
      clear hb1 l0 l1 l2 l3
      go_wp2_with fail
      obtain ⟨hy, hno⟩ := member_any g _ _ _ _ _ _ t a _ hB hw
      cases hf : findM ms t with
      | none =>
        have HA := Lib.hid (allow_none (a := ac) (at_ := at_) hf)
        go_at_call 31; refine (hno hf he).mono ?_; rintro e w3 ⟨rfl, hb1⟩
        have hb0 := hb0.trans (hb1.mono hb0.size)
        have hb0 := hb0.alloc hb0.size (.cells #[.int .i64 0, .int .i64 0, .int .i64 0, .int .i64 0] 66)
        clear hb1 hy hno
        go_wp2
        all_goals go_ret
        exact ⟨ret_bool (by rw [HA.out, hb]; rfl), hb0⟩
      | some m =>
        have HA := Lib.hid (allow_some (a := ac) hf ht)
        go_at_call 31; refine (hy m hf).mono ?_; rintro e w3 ⟨rfl, hb1⟩
        have hb0 := hb0.trans (hb1.mono hb0.size)
        have hb0 := hb0.alloc hb0.size (.cells #[.int .i64 m.id, .int .i64 m.role, .int .i64 m.since, .int .i64 m.quiet] 66)
        clear hb1 hy hno
        cases hm : mayB m.role ac with
        | false =>
          go_wp2_with (go_at_call 51; refine (impl_RoleMay_any _ _ _).mono ?_; rw [hm]; rintro e w' ⟨rfl, rfl⟩)
          all_goals go_ret
          exact ⟨ret_bool (by rw [HA.out, hb, hm]; rfl), hb0⟩
        | true =>
          by_cases hq : m.quiet ≤ at_
          · have hq' : decide (m.quiet ≤ at_) = true := decide_eq_true hq
            go_wp2_with (go_at_call 51; refine (impl_RoleMay_any _ _ _).mono ?_; rw [hm]; rintro e w' ⟨rfl, rfl⟩)
            all_goals go_ret
            exact ⟨ret_bool (by rw [HA.out, hb, hm, hq']; rfl), hb0⟩
          · have hq' : decide (m.quiet ≤ at_) = false := decide_eq_false hq
            go_wp2_with (go_at_call 51; refine (impl_RoleMay_any _ _ _).mono ?_; rw [hm]; rintro e w' ⟨rfl, rfl⟩)
            all_goals go_ret
            exact ⟨ret_bool (by rw [HA.out, hb, hm, hq']; first | rfl | (simp; done) | (by_cases hz : ac = 0 <;> simp [hz])), hb0⟩
end Go.Proofs.YtmnmmjobplbflaaGreatDoor
