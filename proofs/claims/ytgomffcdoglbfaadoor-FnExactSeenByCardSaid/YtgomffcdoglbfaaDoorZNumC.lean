import Derived.Test.YtgomffcdoglbfaaDoorChecked
import Derived.WalkKit
import Derived.ProofKit
import Derived.OpenShut
import Derived.ShutString
import Derived.ChangeOld
import Derived.Below
import Derived.Lib.Hide
import Derived.Shelf.Abstract
import Derived.Test.YtgomffcdoglbfaaDoorZCopyC
import Derived.Test.YtgomffcdoglbfaaDoorZSeenS
namespace Go.Proofs.YtgomffcdoglbfaaDoor
open Go.ChangeShapes Go.WideShapes Go.ChangeAt Go.RowKit
open Go.ChangeMaps (open_string shut_string)
set_option linter.unusedVariables false
set_option maxRecDepth 100000
/-- a closure that tells of a message whether it is meant -/
def Means (fid : FuncId) (caps : Array Value) (p : Mg → Bool) (qs : List Rm) (w : World) : Prop :=
  ∀ (w' : World) (z : Rm), z ∈ qs → Below w.heap.size w w' → Calls Tryd.prog fid (#[.agg #[.int .i64 z.m.num, .int .i64 z.m.sdr, .int .i64 z.m.tick, .string z.m.text, .int .i64 z.m.edits, .bool z.m.gone, .int .i64 z.m.reply, .slice z.la z.ln z.lc]] ++ caps) w' fun e w'' => e = .returned (.bool (p z.m)) ∧ Below w'.heap.size w' w''
set_option maxHeartbeats 3200000 in
theorem numbers_any (fid : FuncId) (caps : Array Value) (hen : Enters Tryd.prog fid) (p : Mg → Bool) (g base : Nat) (x : Int) (A : Option Addr) (n c : Nat) (qs : List Rm) (w : World) (h : CopyAt w g base x A n c qs) (hn : n ≤ 1048576) (hc : Means fid caps p qs w) :
    Calls Tryd.prog 65 #[.pointer (some ⟨g, 0, none⟩), .func (.func fid) #[] caps] w fun e w' => ∃ A' n' c', e = .returned (.slice A' n' c') ∧ w'.ownsRow w.heap.size 2 1 (.slice A' n' c') n' ((pickL p (mgs qs)).map i64v) ∧ Below w.heap.size w w' := by
  obtain ⟨i0, hi, hz0, hz1, hz2⟩ := info_parts Tryd.info_i64
  have hA := h.2.2.at_
  have kg := h.2.1
  have HL := Lib.hid hA.len
  have HLM := Lib.hid (show (mgs qs).length = n by rw [mgs_len, hA.len])
  have l1 := kg.cell 1
  have kgl := kg.lt
  unfold Enters at hen
  clear h
  go_enter Tryd.func65, Tryd.ntmps65
  go_wp2
  go_loopw [5, 13] (fun v i wr => ∃ (k : Nat) (u : Value), k ≤ n ∧ i = .int .i64 k ∧ v = u ∧ wr.ownsRow w.heap.size 2 1 u (pickL p ((mgs qs).take k)).length ((pickL p ((mgs qs).take k)).map i64v) ∧ Below w.heap.size w wr) (fun _ i _ => n - (intOf i).toNat)
  case atStart => exact ⟨0, _, by omega, rfl, rfl, World.ownsRow_nil _ _ _ _, Below.refl _ _⟩
  case round =>
    obtain ⟨k, u, hk, rfl, rfl, hown, hbel⟩ := hrel
    by_cases hlt : k < n
    · have hlt' : decide ((k : Int) < (n : Int)) = true := decide_eq_true (by omega)
      obtain ⟨b, off, z, rfl, hb, hz, _, c0, c1, c2, c3, c4, c5, c6, c7⟩ := (hA.below hbel).atr hlt
      have HZ := Lib.hid (mgs_at hz)
      have hzm := List.mem_of_getElem? hz
      have hkl := pick_le (p := p) (ms := mgs qs) (k := k)
      have hown0 := hown
      have hbel0 := hbel
      clear hz hown hbel l1
      go_wp2_with fail
      obtain ⟨km, hbm⟩ := one_box wr 44 #[.int .i64 z.m.num, .int .i64 z.m.sdr, .int .i64 z.m.tick, .string z.m.text, .int .i64 z.m.edits, .bool z.m.gone, .int .i64 z.m.reply, .slice z.la z.ln z.lc]
      have hown0 := own_below hown0 hbm (Nat.le_refl _)
      have hbel0 := hbel0.trans (hbm.mono hbel0.size)
      clear hbm c0 c1 c2 c3 c4 c5 c6 c7
      generalize wr.heap.size = gm at *
      generalize wr.alloc (.cells #[.int .i64 z.m.num, .int .i64 z.m.sdr, .int .i64 z.m.tick, .string z.m.text, .int .i64 z.m.edits, .bool z.m.gone, .int .i64 z.m.reply, .slice z.la z.ln z.lc] 44) = U at *
      have cc := hc U z hzm hbel0
      have m0 := km.cell 0; have m1 := km.cell 1; have m2 := km.cell 2; have m3 := km.cell 3; have m4 := km.cell 4; have m5 := km.cell 5; have m6 := km.cell 6; have m7 := km.cell 7
      have kml := km.lt
      go_wp2_with fail
      clear m0 m1 m2 m3 m4 m5 m6 m7
      cases hp : p z.m with
      | true =>
        rw [hp] at cc
        go_at_fn fid; refine cc.mono ?_; rintro e w5 ⟨rfl, hb5⟩
        have HT := Lib.hid (pick_yes HZ.out hp)
        have HL2 := Lib.hid (pick_len HZ.out hp)
        have hown5 := own_below hown0 hb5 (Nat.le_refl _)
        have hbel5 := hbel0.trans (hb5.mono hbel0.size)
        have m0 := (km.below hb5 km.lt).cell 0
        clear hown0 hbel0 hb5 km kml cc
        have hbs := hbel5.size
        go_wp2_with (at_builtin; refine wpList_append_own _ rfl _ _ 26 rfl w.heap.size 2 i0 (.int .i64 0) 1 8 Tryd.underlying26 hi hz0 hz1 hz2 rfl (by decide) _ _ _ rfl (hown5.alloc _) ⟨w5.heap.size, 0, none⟩ 1 1 [.int .i64 z.m.num] rfl rfl (cell_newY _ _ _ _ rfl) (by intro u hu; simp at hu; subst hu; rfl) (by unfold maxLen; omega) (by omega) (by simp; omega) ?_; intro v' w6 hown' hgrow _)
        have hbel' : Below w.heap.size w w6 := (hbel5.alloc hbel5.size _).grown hgrow (by simp; omega) (fun g hg => (hown5.lt g hg).1)
        clear hgrow hown5 hbel5
        go_roundw
        case rel => exact ⟨k + 1, v', by omega, by go_num, rfl, by rw [HL2.out, HT.out, List.map_append]; exact hown', hbel'⟩
        case measure => simp [intOf]; omega
      | false =>
        rw [hp] at cc
        go_at_fn fid; refine cc.mono ?_; rintro e w5 ⟨rfl, hb5⟩
        have HT := Lib.hid (pick_no HZ.out hp)
        have hown5 := own_below hown0 hb5 (Nat.le_refl _)
        have hbel5 := hbel0.trans (hb5.mono hbel0.size)
        clear hown0 hbel0 hb5 km kml cc
        go_wp2
        go_roundw
        case rel => exact ⟨k + 1, _, by omega, by go_num, rfl, by rw [HT.out]; exact hown5, hbel5⟩
        case measure => simp [intOf]; omega
    · have hlt' : decide ((k : Int) < (n : Int)) = false := decide_eq_false (by omega)
      rw [List.take_of_length_le (by have := HLM.out; omega)] at hown
      have HO := Lib.hid hown
      clear hown
      rcases HO.out.2 with ⟨hv, hv0⟩ | ⟨g', cap', cur', hv, _⟩
      · subst hv
        go_wp2
        go_ret
        exact ⟨_, _, _, rfl, by have := HO.out; rwa [hv0] at this, hbel⟩
      · subst hv
        go_wp2
        go_ret
        exact ⟨_, _, _, rfl, HO.out, hbel⟩
end Go.Proofs.YtgomffcdoglbfaaDoor
