import Derived.Test.YtbamhnbmddopgaaDoorChecked
import Derived.WalkKit
import Derived.ProofKit
import Derived.OpenShut
import Derived.ShutString
import Derived.ChangeOld
import Derived.Below
import Derived.Lib.Hide
import Derived.Test.YtbamhnbmddopgaaDoorDecS
import Derived.Test.YtbamhnbmddopgaaDoorDecQ
namespace Go.Proofs.YtbamhnbmddopgaaDoor
open Go.ChangeShapes Go.WideShapes Go.ChangeAt Go.RowKit
open Go.ChangeMaps (open_string shut_string)
set_option linter.unusedVariables false
theorem svL_bd (l : List UInt8) (k : Nat) (h : k ≤ l.length) (h11 : k ≤ 11) : vTo l k ≤ 99999999999 := by
  have h1 := vTo_bd l k h
  have h2 : 10 ^ k ≤ 10 ^ 11 := Nat.pow_le_pow_right (by omega) h11
  have h3 : (10 : Nat) ^ 11 = 100000000000 := by decide
  omega
theorem toList_ne {a b : ByteArray} (h : ¬ a = b) : (a.toList == b.toList) = false := by
  rw [beq_eq_false_iff_ne]
  intro e
  rw [ByteArray.toList_eq, ByteArray.toList_eq] at e
  apply h
  have ext : ∀ a b : ByteArray, a.data = b.data → a = b := fun a b h => by cases a; cases b; simp_all
  exact ext a b (Array.ext' e)
def vStepD := vstep
theorem vstep_yes (a : Nat) (b : UInt8) (h : 48 ≤ b.toNat ∧ b.toNat ≤ 57) : vstep a b = 10 * a + (b.toNat - 48) := by unfold vstep; rw [if_pos h]
theorem vstep_no (a : Nat) (b : UInt8) (h : ¬ (48 ≤ b.toNat ∧ b.toNat ≤ 57)) : vstep a b = a := by unfold vstep; rw [if_neg h]
def RdNo (w : World) (e : Ending) (w' : World) : Prop := e = .returned (.tuple #[.int .i64 0, .bool false]) ∧ Below w.heap.size w w'
def RdYes (w : World) (n : Int) (e : Ending) (w' : World) : Prop := e = .returned (.tuple #[.int .i64 n, .bool true]) ∧ Below w.heap.size w w'
/-- what the model answers: of what its loop reads, or no -/
def RdIs (w : World) (s : ByteArray) (m : Int) (e : Ending) (w' : World) : Prop :=
  ((-1000000000 ≤ m ∧ m ≤ 1000000000) ∧ strOfNums (decL m) = s → RdYes w m e w') ∧ (¬ ((-1000000000 ≤ m ∧ m ≤ 1000000000) ∧ strOfNums (decL m) = s) → RdNo w e w')
theorem list_at (s : ByteArray) (k : Nat) (h : k < s.size) : s.data.toList[k]? = some s[k] := by
  rw [List.getElem?_eq_getElem (by simpa using h)]
  simp [ByteArray.getElem_eq_getElem_data]
set_option maxHeartbeats 1600000 in
set_option maxRecDepth 100000 in
theorem l01Value_go (s : ByteArray) (w : World) (h1 : 1 ≤ s.size) (h2 : s.size ≤ 11) :
    Calls Tryd.prog 42 #[.string s] w fun e w' => RdIs w s (svL s.data.toList) e w' := by
  have HL := Lib.hid (show s.data.toList.length = s.size by simp)
  generalize hm : svL s.data.toList = m
  have HM := Lib.hid hm
  clear hm
  go_enter Tryd.func42, Tryd.ntmps42
  go_wp2
  go_loopw [4, 5] (fun v i wr => ∃ k : Nat, k ≤ s.size ∧ i = .int .i64 k ∧ v = .int .i64 (vTo s.data.toList k) ∧ wr = w) (fun _ i _ => s.size - (intOf i).toNat)
  case atStart => exact ⟨0, by omega, rfl, rfl, rfl⟩
  case round =>
    obtain ⟨k, hk, rfl, rfl, rfl⟩ := hrel
    have hvb := svL_bd s.data.toList k (by rw [HL.out]; exact hk) (by omega)
    by_cases hkn : k < s.size
    · have HS := Lib.hid (vTo_succ s.data.toList k _ (list_at s k hkn))
      have hb : s[k].toNat < 256 := s[k].toNat_lt
      by_cases hd : 48 ≤ s[k].toNat ∧ s[k].toNat ≤ 57
      · have HV := Lib.hid (show vStepD (vTo s.data.toList k) s[k] = _ from vstep_yes _ _ hd)
        obtain ⟨hd1, hd2⟩ := hd
        go_wp2
        go_roundw
        case rel => exact ⟨k + 1, by omega, by go_num, by rw [HS.out]; refine congrArg (Value.int IntKind.i64) ?_; rw [show vstep (vTo s.data.toList k) s[k] = _ from HV.out]; omega, by first | rfl | trivial⟩
        case measure => simp [intOf]; omega
      · have HV := Lib.hid (show vStepD (vTo s.data.toList k) s[k] = _ from vstep_no _ _ hd)
        rcases (show s[k].toNat < 48 ∨ 57 < s[k].toNat by omega) with hd1 | hd1
        all_goals
          clear hd
          go_wp2
          go_roundw
          case rel => exact ⟨k + 1, by omega, by go_num, by rw [HS.out]; refine congrArg (Value.int IntKind.i64) ?_; rw [show vstep (vTo s.data.toList k) s[k] = _ from HV.out], by first | rfl | trivial⟩
          case measure => simp [intOf]; omega
    · have hke : k = s.size := by omega
      have hv0 : m = if s[0].toNat = 45 then -((vTo s.data.toList k : Nat) : Int) else ((vTo s.data.toList k : Nat) : Int) := by
        rw [← HM.out]
        unfold svL
        rw [HL.out, ← hke, list_at s 0 (by omega)]
        have e : (some s[0] = some (45 : UInt8)) = (s[0].toNat = 45) := by
          simp only [Option.some.injEq, eq_iff_iff]
          constructor
          · intro h; rw [h]; rfl
          · intro h; exact UInt8.toNat_inj.1 h
        simp only [e]
      generalize vTo s.data.toList k = v at *
      clear HM
      have hb0 : s[0].toNat < 256 := s[0].toNat_lt
      have h0s : 0 < s.size := by omega
      by_cases h45 : s[0].toNat = 45
      · rw [if_pos h45] at hv0
        subst hv0
        by_cases hr : -1000000000 ≤ (-(v : Int)) ∧ (-(v : Int)) ≤ 1000000000
        · by_cases he : strOfNums (decL (-(v : Int))) = s
          · have HE := Lib.hid he
            clear he
            go_wp2_with (first | (go_at_call 60; refine (l00In_yes _ _ _ _ hr).mono ?_; rintro e w' ⟨rfl, rfl⟩) | (go_at_call 61; refine (l01Dec_any _ (by omega) (by omega) _).mono ?_; rintro e w1 ⟨he1, hb1⟩; rw [HE.out] at he1; subst he1))
            go_ret2
            exact ⟨fun _ => ⟨rfl, hb1⟩, fun h => absurd ⟨hr, HE.out⟩ h⟩
          · have hbe := toList_ne he
            go_wp2_with (first | (go_at_call 60; refine (l00In_yes _ _ _ _ hr).mono ?_; rintro e w' ⟨rfl, rfl⟩) | (go_at_call 61; refine (l01Dec_any _ (by omega) (by omega) _).mono ?_; rintro e w1 ⟨rfl, hb1⟩))
            go_ret2
            exact ⟨fun h => absurd h.2 he, fun _ => ⟨rfl, hb1⟩⟩
        · go_wp2_with (go_at_call 60; refine (l00In_no _ _ _ _ hr).mono ?_; rintro e w' ⟨rfl, rfl⟩)
          go_ret2
          exact ⟨fun h => absurd h.1 hr, fun _ => ⟨rfl, Below.refl _ _⟩⟩
      · rw [if_neg h45] at hv0
        subst hv0
        by_cases hr : -1000000000 ≤ (v : Int) ∧ (v : Int) ≤ 1000000000
        · by_cases he : strOfNums (decL (v : Int)) = s
          · have HE := Lib.hid he
            clear he
            go_wp2_with (first | (go_at_call 60; refine (l00In_yes _ _ _ _ hr).mono ?_; rintro e w' ⟨rfl, rfl⟩) | (go_at_call 61; refine (l01Dec_any _ (by omega) (by omega) _).mono ?_; rintro e w1 ⟨he1, hb1⟩; rw [HE.out] at he1; subst he1))
            go_ret2
            exact ⟨fun _ => ⟨rfl, hb1⟩, fun h => absurd ⟨hr, HE.out⟩ h⟩
          · have hbe := toList_ne he
            go_wp2_with (first | (go_at_call 60; refine (l00In_yes _ _ _ _ hr).mono ?_; rintro e w' ⟨rfl, rfl⟩) | (go_at_call 61; refine (l01Dec_any _ (by omega) (by omega) _).mono ?_; rintro e w1 ⟨rfl, hb1⟩))
            go_ret2
            exact ⟨fun h => absurd h.2 he, fun _ => ⟨rfl, hb1⟩⟩
        · go_wp2_with (go_at_call 60; refine (l00In_no _ _ _ _ hr).mono ?_; rintro e w' ⟨rfl, rfl⟩)
          go_ret2
          exact ⟨fun h => absurd h.1 hr, fun _ => ⟨rfl, Below.refl _ _⟩⟩
end Go.Proofs.YtbamhnbmddopgaaDoor
