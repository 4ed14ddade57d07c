import Derived.Test.YtdpclbmcmgknjabDoorChecked
import Derived.WalkKit
import Derived.ProofKit
import Derived.OpenShut
import Derived.ShutString
import Derived.ChangeOld
import Derived.Below
import Derived.Lib.Hide
import Derived.Deep.QuietTactic
import Derived.BigQuiet
import Derived.Laws.StructEq
import Derived.RegionTactic
import Derived.BigRegion
import Derived.Shelf.Abstract
import Derived.Test.YtdpclbmcmgknjabDoorZEvtI
import Derived.Test.YtdpclbmcmgknjabDoorZCalmQ
namespace Go.Proofs.YtdpclbmcmgknjabDoor
open Go.ChangeShapes Go.WideShapes Go.ChangeAt Go.RowKit
open Go.ChangeMaps (open_string shut_string)
set_option linter.unusedVariables false
set_option maxRecDepth 100000
def sameEv (a b : Ev) : Bool := a.kd == b.kd && (a.nu == b.nu && (a.mb == b.mb && (a.tk == b.tk && (a.tx.toList == b.tx.toList && a.rp == b.rp))))
theorem neqV (a b : Ev) (w : World) : (binOp .neq 27 (.agg #[.int .i64 a.kd, .int .i64 a.nu, .int .i64 a.mb, .int .i64 a.tk, .string a.tx, .int .i64 a.rp]) (.agg #[.int .i64 b.kd, .int .i64 b.nu, .int .i64 b.mb, .int .i64 b.tk, .string b.tx, .int .i64 b.rp])).run Tryd.prog w = .ok (.bool (!sameEv a b)) w := by
  have u2 := Tryd.underlying2
  have u9 := Tryd.underlying9
  have hS : Tryd.prog.underlying 27 = some (.struct (Tryd.prog.fieldsOf 27)) := by kernel_rfl
  have hp : Tryd.prog.stoodInHeld 27 = false := by kernel_rfl
  rw [run_neq_struct, show (10000 : Nat) = 9999 + 1 from rfl, run_equalIn_agg w 9999 27 _ _ hS hp]
  simp only [Program.fieldsOf, Tryd.underlying27]
  go_simp
  unfold sameEv
  by_cases h1 : a.kd = b.kd <;> by_cases h2 : a.nu = b.nu <;> by_cases h3 : a.mb = b.mb <;> by_cases h4 : a.tk = b.tk <;> by_cases h5 : a.tx.toList = b.tx.toList <;> by_cases h6 : a.rp = b.rp <;> simp [h1, h2, h3, h4, h5, h6, Result.andThen]
theorem implText_b (s : ByteArray) (b : Bool) (w : World) (hs : s.size ≤ 1048576) (h : textB s = b) : Calls Tryd.prog 28 #[.string s] w fun e w' => e = .returned (.bool b) ∧ w = w' := by
  rw [← h]; exact impl_IsText_any s w (by unfold maxLen; omega)
set_option maxHeartbeats 12800000 in
theorem impl_ValidEvent_gen (e X : Ev) (T : TypeId) (V : Value) (fid : FuncId) (hen : Enters Tryd.prog fid) (w : World) (hs : e.tx.size ≤ 1048576)
    (hhap : ∀ W, Calls Tryd.prog 24 #[.agg #[.int .i64 e.kd, .int .i64 e.nu, .int .i64 e.mb, .int .i64 e.tk, .string e.tx, .int .i64 e.rp]] W fun v W' => v = .returned (.tuple #[.iface T V, .bool true]) ∧ Below W.heap.size W W')
    (hm : ∀ w : World, (method 247 T V "loop.example/g01202/impl.event").run Tryd.prog w = .ok (fid, V) w)
    (hev : ∀ W, Calls Tryd.prog fid #[V] W fun v W' => v = .returned (.agg #[.int .i64 X.kd, .int .i64 X.nu, .int .i64 X.mb, .int .i64 X.tk, .string X.tx, .int .i64 X.rp]) ∧ Below W.heap.size W W')
    (r : Bool) (h : (sameEv X e && (numB e.nu && (idB e.mb && (tickB e.tk && (textB e.tx && (decide (0 ≤ e.rp) && decide (e.rp < e.nu))))))) = r) :
    Calls Tryd.prog 14 #[.agg #[.int .i64 e.kd, .int .i64 e.nu, .int .i64 e.mb, .int .i64 e.tk, .string e.tx, .int .i64 e.rp]] w fun v w' => v = .returned (.bool r) ∧ Below w.heap.size w w' := by
  have hgd : Tryd.prog.eqGuardType Tryd.prog.depth 27 = false := by kernel_rfl
  have HH := Lib.hid h; clear h
  unfold Enters at hen
  go_enter Tryd.func14, Tryd.ntmps14
  go_wp2_with fail
  obtain ⟨kb, hb0⟩ := one_box w 27 #[.int .i64 e.kd, .int .i64 e.nu, .int .i64 e.mb, .int .i64 e.tk, .string e.tx, .int .i64 e.rp]
  generalize w.alloc (.cells #[.int .i64 e.kd, .int .i64 e.nu, .int .i64 e.mb, .int .i64 e.tk, .string e.tx, .int .i64 e.rp] 27) = W0 at *
  go_at_call 24; refine (hhap _).mono ?_; rintro v w1 ⟨rfl, hb1⟩
  have kb := kb.below hb1 kb.lt
  have hb0 := hb0.trans (hb1.mono hb0.size)
  clear hb1 hhap
  go_wp2_with fail
  have g0 : ∀ s : Gr w1, s.u.cell? ⟨w.heap.size, 0, none⟩ = some (.int .i64 e.kd) := fun s => (s.hb.cell (p := ⟨w.heap.size, 0, none⟩) kb.lt).trans (kb.cell 0)
  have g1 : ∀ s : Gr w1, s.u.cell? ⟨w.heap.size, 1, none⟩ = some (.int .i64 e.nu) := fun s => (s.hb.cell (p := ⟨w.heap.size, 1, none⟩) kb.lt).trans (kb.cell 1)
  have g2 : ∀ s : Gr w1, s.u.cell? ⟨w.heap.size, 2, none⟩ = some (.int .i64 e.mb) := fun s => (s.hb.cell (p := ⟨w.heap.size, 2, none⟩) kb.lt).trans (kb.cell 2)
  have g3 : ∀ s : Gr w1, s.u.cell? ⟨w.heap.size, 3, none⟩ = some (.int .i64 e.tk) := fun s => (s.hb.cell (p := ⟨w.heap.size, 3, none⟩) kb.lt).trans (kb.cell 3)
  have g4 : ∀ s : Gr w1, s.u.cell? ⟨w.heap.size, 4, none⟩ = some (.string e.tx) := fun s => (s.hb.cell (p := ⟨w.heap.size, 4, none⟩) kb.lt).trans (kb.cell 4)
  have g5 : ∀ s : Gr w1, s.u.cell? ⟨w.heap.size, 5, none⟩ = some (.int .i64 e.rp) := fun s => (s.hb.cell (p := ⟨w.heap.size, 5, none⟩) kb.lt).trans (kb.cell 5)
  cases tq : sameEv X e with
  | false =>
    have hq : ∀ W : World, (binOp .neq 27 (.agg #[.int .i64 X.kd, .int .i64 X.nu, .int .i64 X.mb, .int .i64 X.tk, .string X.tx, .int .i64 X.rp]) (.agg #[.int .i64 e.kd, .int .i64 e.nu, .int .i64 e.mb, .int .i64 e.tk, .string e.tx, .int .i64 e.rp])).run Tryd.prog W = .ok (.bool true) W := fun W => by rw [neqV, tq]; rfl
    obtain rfl : r = false := by rw [← HH.out]; simp [tq]
    clear HH
    refine wp_region_calm (w0 := w1) (by kernel_rfl) (by kernel_rfl) (Below.refl _ _).drew ?_
    repeat (go_big_quiet_step ((go_at_fn fid; exact calm_of (hev _))))
    refine wpQuiet_nil ?_
    intro _ hw'
    obtain ⟨s7, hw''⟩ := hw'
    subst hw''
    have hb8 := hb0.trans (s7.hb.mono hb0.size)
    go_wp2
    go_ret
    exact ⟨rfl, hb8⟩
  | true =>
    have hq : ∀ W : World, (binOp .neq 27 (.agg #[.int .i64 X.kd, .int .i64 X.nu, .int .i64 X.mb, .int .i64 X.tk, .string X.tx, .int .i64 X.rp]) (.agg #[.int .i64 e.kd, .int .i64 e.nu, .int .i64 e.mb, .int .i64 e.tk, .string e.tx, .int .i64 e.rp])).run Tryd.prog W = .ok (.bool false) W := fun W => by rw [neqV, tq]; rfl
    cases t0 : numB e.nu with
    | false =>
      obtain rfl : r = false := by rw [← HH.out]; simp [tq, t0]
      clear HH
      refine wp_region_calm (w0 := w1) (by kernel_rfl) (by kernel_rfl) (Below.refl _ _).drew ?_
      repeat (go_big_quiet_step ((go_at_fn fid; exact calm_of (hev _))))
      refine wpQuiet_nil ?_
      intro _ hw'
      obtain ⟨s7, hw''⟩ := hw'
      subst hw''
      have k7 := kb.below s7.hb kb.lt
      have c1 := k7.cell 1; have c2 := k7.cell 2; have c3 := k7.cell 3; have c4 := k7.cell 4; have c5 := k7.cell 5; have lt7 := k7.lt
      have hb8 := hb0.trans (s7.hb.mono hb0.size)
      clear g0 g1 g2 g3 g4 g5 hq hev hm kb k7
      go_wp2_with (first | (go_at_call 25; refine (isNumber_b _ _ _ t0).mono ?_; rintro v w9 ⟨rfl, rfl⟩))
      go_ret
      exact ⟨rfl, hb8⟩
    | true =>
      cases t1 : idB e.mb with
      | false =>
        obtain rfl : r = false := by rw [← HH.out]; simp [tq, t0, t1]
        clear HH
        refine wp_region_calm (w0 := w1) (by kernel_rfl) (by kernel_rfl) (Below.refl _ _).drew ?_
        repeat (go_big_quiet_step ((go_at_fn fid; exact calm_of (hev _))))
        refine wpQuiet_nil ?_
        intro _ hw'
        obtain ⟨s7, hw''⟩ := hw'
        subst hw''
        have k7 := kb.below s7.hb kb.lt
        have c1 := k7.cell 1; have c2 := k7.cell 2; have c3 := k7.cell 3; have c4 := k7.cell 4; have c5 := k7.cell 5; have lt7 := k7.lt
        have hb8 := hb0.trans (s7.hb.mono hb0.size)
        clear g0 g1 g2 g3 g4 g5 hq hev hm kb k7
        go_wp2_with (first | (go_at_call 25; refine (isNumber_b _ _ _ t0).mono ?_; rintro v w9 ⟨rfl, rfl⟩) | (go_at_call 26; refine (isMember_b _ _ _ t1).mono ?_; rintro v w9 ⟨rfl, rfl⟩))
        go_ret
        exact ⟨rfl, hb8⟩
      | true =>
        cases t2 : tickB e.tk with
        | false =>
          obtain rfl : r = false := by rw [← HH.out]; simp [tq, t0, t1, t2]
          clear HH
          refine wp_region_calm (w0 := w1) (by kernel_rfl) (by kernel_rfl) (Below.refl _ _).drew ?_
          repeat (go_big_quiet_step ((go_at_fn fid; exact calm_of (hev _))))
          refine wpQuiet_nil ?_
          intro _ hw'
          obtain ⟨s7, hw''⟩ := hw'
          subst hw''
          have k7 := kb.below s7.hb kb.lt
          have c1 := k7.cell 1; have c2 := k7.cell 2; have c3 := k7.cell 3; have c4 := k7.cell 4; have c5 := k7.cell 5; have lt7 := k7.lt
          have hb8 := hb0.trans (s7.hb.mono hb0.size)
          clear g0 g1 g2 g3 g4 g5 hq hev hm kb k7
          go_wp2_with (first | (go_at_call 25; refine (isNumber_b _ _ _ t0).mono ?_; rintro v w9 ⟨rfl, rfl⟩) | (go_at_call 26; refine (isMember_b _ _ _ t1).mono ?_; rintro v w9 ⟨rfl, rfl⟩) | (go_at_call 27; refine (isTick_b _ _ _ t2).mono ?_; rintro v w9 ⟨rfl, rfl⟩))
          go_ret
          exact ⟨rfl, hb8⟩
        | true =>
          cases t3 : textB e.tx with
          | false =>
            obtain rfl : r = false := by rw [← HH.out]; simp [tq, t0, t1, t2, t3]
            clear HH
            refine wp_region_calm (w0 := w1) (by kernel_rfl) (by kernel_rfl) (Below.refl _ _).drew ?_
            repeat (go_big_quiet_step ((go_at_fn fid; exact calm_of (hev _))))
            refine wpQuiet_nil ?_
            intro _ hw'
            obtain ⟨s7, hw''⟩ := hw'
            subst hw''
            have k7 := kb.below s7.hb kb.lt
            have c1 := k7.cell 1; have c2 := k7.cell 2; have c3 := k7.cell 3; have c4 := k7.cell 4; have c5 := k7.cell 5; have lt7 := k7.lt
            have hb8 := hb0.trans (s7.hb.mono hb0.size)
            clear g0 g1 g2 g3 g4 g5 hq hev hm kb k7
            go_wp2_with (first | (go_at_call 25; refine (isNumber_b _ _ _ t0).mono ?_; rintro v w9 ⟨rfl, rfl⟩) | (go_at_call 26; refine (isMember_b _ _ _ t1).mono ?_; rintro v w9 ⟨rfl, rfl⟩) | (go_at_call 27; refine (isTick_b _ _ _ t2).mono ?_; rintro v w9 ⟨rfl, rfl⟩) | (go_at_call 28; refine (implText_b _ _ _ hs t3).mono ?_; rintro v w9 ⟨rfl, rfl⟩))
            go_ret
            exact ⟨rfl, hb8⟩
          | true =>
            cases t4 : decide (0 ≤ e.rp) with
            | false =>
              obtain rfl : r = false := by rw [← HH.out]; simp [tq, t0, t1, t2, t3, t4]
              clear HH
              refine wp_region_calm (w0 := w1) (by kernel_rfl) (by kernel_rfl) (Below.refl _ _).drew ?_
              repeat (go_big_quiet_step ((go_at_fn fid; exact calm_of (hev _))))
              refine wpQuiet_nil ?_
              intro _ hw'
              obtain ⟨s7, hw''⟩ := hw'
              subst hw''
              have k7 := kb.below s7.hb kb.lt
              have c1 := k7.cell 1; have c2 := k7.cell 2; have c3 := k7.cell 3; have c4 := k7.cell 4; have c5 := k7.cell 5; have lt7 := k7.lt
              have hb8 := hb0.trans (s7.hb.mono hb0.size)
              clear g0 g1 g2 g3 g4 g5 hq hev hm kb k7
              go_wp2_with (first | (go_at_call 25; refine (isNumber_b _ _ _ t0).mono ?_; rintro v w9 ⟨rfl, rfl⟩) | (go_at_call 26; refine (isMember_b _ _ _ t1).mono ?_; rintro v w9 ⟨rfl, rfl⟩) | (go_at_call 27; refine (isTick_b _ _ _ t2).mono ?_; rintro v w9 ⟨rfl, rfl⟩) | (go_at_call 28; refine (implText_b _ _ _ hs t3).mono ?_; rintro v w9 ⟨rfl, rfl⟩))
              go_ret
              exact ⟨by first | rfl | exact ret_bool t4 | simp_all, hb8⟩
            | true =>
              cases t5 : decide (e.rp < e.nu) with
              | false =>
                obtain rfl : r = false := by rw [← HH.out]; simp [tq, t0, t1, t2, t3, t4, t5]
                clear HH
                refine wp_region_calm (w0 := w1) (by kernel_rfl) (by kernel_rfl) (Below.refl _ _).drew ?_
                repeat (go_big_quiet_step ((go_at_fn fid; exact calm_of (hev _))))
                refine wpQuiet_nil ?_
                intro _ hw'
                obtain ⟨s7, hw''⟩ := hw'
                subst hw''
                have k7 := kb.below s7.hb kb.lt
                have c1 := k7.cell 1; have c2 := k7.cell 2; have c3 := k7.cell 3; have c4 := k7.cell 4; have c5 := k7.cell 5; have lt7 := k7.lt
                have hb8 := hb0.trans (s7.hb.mono hb0.size)
                clear g0 g1 g2 g3 g4 g5 hq hev hm kb k7
                go_wp2_with (first | (go_at_call 25; refine (isNumber_b _ _ _ t0).mono ?_; rintro v w9 ⟨rfl, rfl⟩) | (go_at_call 26; refine (isMember_b _ _ _ t1).mono ?_; rintro v w9 ⟨rfl, rfl⟩) | (go_at_call 27; refine (isTick_b _ _ _ t2).mono ?_; rintro v w9 ⟨rfl, rfl⟩) | (go_at_call 28; refine (implText_b _ _ _ hs t3).mono ?_; rintro v w9 ⟨rfl, rfl⟩))
                go_ret
                exact ⟨by first | rfl | exact ret_bool t5 | simp_all, hb8⟩
              | true =>
                obtain rfl : r = true := by rw [← HH.out]; simp [tq, t0, t1, t2, t3, t4, t5]
                clear HH
                refine wp_region_calm (w0 := w1) (by kernel_rfl) (by kernel_rfl) (Below.refl _ _).drew ?_
                repeat (go_big_quiet_step ((go_at_fn fid; exact calm_of (hev _))))
                refine wpQuiet_nil ?_
                intro _ hw'
                obtain ⟨s7, hw''⟩ := hw'
                subst hw''
                have k7 := kb.below s7.hb kb.lt
                have c1 := k7.cell 1; have c2 := k7.cell 2; have c3 := k7.cell 3; have c4 := k7.cell 4; have c5 := k7.cell 5; have lt7 := k7.lt
                have hb8 := hb0.trans (s7.hb.mono hb0.size)
                clear g0 g1 g2 g3 g4 g5 hq hev hm kb k7
                go_wp2_with (first | (go_at_call 25; refine (isNumber_b _ _ _ t0).mono ?_; rintro v w9 ⟨rfl, rfl⟩) | (go_at_call 26; refine (isMember_b _ _ _ t1).mono ?_; rintro v w9 ⟨rfl, rfl⟩) | (go_at_call 27; refine (isTick_b _ _ _ t2).mono ?_; rintro v w9 ⟨rfl, rfl⟩) | (go_at_call 28; refine (implText_b _ _ _ hs t3).mono ?_; rintro v w9 ⟨rfl, rfl⟩))
                go_ret
                exact ⟨rfl, hb8⟩
end Go.Proofs.YtdpclbmcmgknjabDoor
