import Derived.Test.YthekkjblgnjmgabDoorChecked
import Derived.WalkKit
import Derived.ProofKit
import Derived.OpenShut
import Derived.ShutString
import Derived.ChangeOld
import Derived.Below
import Derived.Lib.Hide
import Derived.Test.YthekkjblgnjmgabDoorZLineS
import Derived.Test.YthekkjblgnjmgabDoorZPlain8
namespace Go.Proofs.YthekkjblgnjmgabDoor
open Go.ChangeShapes Go.WideShapes Go.ChangeAt Go.RowKit
open Go.ChangeMaps (open_string shut_string)
set_option linter.unusedVariables false
set_option maxRecDepth 100000
set_option maxHeartbeats 1600000 in
theorem l03Text_any (G : Nat) (x : Int) (A : Option Addr) (n c : Nat) (rs : List Rm) (w : World) (hG : G < w.heap.size) (p0 : w.cell? ⟨G, 0, none⟩ = some (.int .i64 x)) (p1 : w.cell? ⟨G, 1, none⟩ = some (.slice A n c)) (h : LogAt w w.heap.size A n rs) (hv : logB x (mgs rs) = true) :
    Calls Tryd.prog 11 #[.pointer (some ⟨G, 0, none⟩)] w fun e w' => e = .returned (.string (logTo x (mgs rs) n)) ∧ Below w.heap.size w w' := by
  obtain ⟨hl40, hx, hall⟩ := log_parts hv
  have hlen : (mgs rs).length = n := by rw [mgs_len, h.len]
  have HSZ := Lib.hid (logTo_size hv)
  have HALL := Lib.hid hall
  have hn : n ≤ 40 := by omega
  have HL := Lib.hid hlen
  have HZ0 := Lib.hid (logTo_zero x (mgs rs))
  have d10 : (⟨#[10]⟩ : ByteArray).size = 1 := rfl
  have z0 : (strOfNums (decL x)).size + (⟨#[10]⟩ : ByteArray).size ≤ 9223372036854775807 := by have : (strOfNums (decL x)).size ≤ 11 := ds_size x (by omega) (by omega); omega
  clear hall hlen hv d10
  go_enter Tryd.func11, Tryd.ntmps11
  go_wp2_with (go_at_call 24; refine (l01Dec_any _ (by omega) (by omega) _).mono ?_; rintro e w1 ⟨rfl, hb1⟩; have q0 := (hb1.cell (p := ⟨G, 0, none⟩) hG).trans p0; have q1 := (hb1.cell (p := ⟨G, 1, none⟩) hG).trans p1)
  go_loopw [3, 16] (fun o i wr => ∃ k : Nat, k ≤ n ∧ i = .int .i64 k ∧ o = .string (logTo x (mgs rs) k) ∧ Below w.heap.size w wr) (fun _ i _ => n - (intOf i).toNat)
  case atStart => exact ⟨0, by omega, rfl, by rw [HZ0.out]; rfl, hb1⟩
  case round =>
    obtain ⟨k, hk, rfl, rfl, hbel⟩ := hrel
    clear hb1 q0 q1
    have q0 := (hbel.cell (p := ⟨G, 0, none⟩) hG).trans p0
    have q1 := (hbel.cell (p := ⟨G, 1, none⟩) hG).trans p1
    have hbs := hbel.size
    by_cases hlt : k < n
    · have hlt' : decide ((k : Int) < (n : Int)) = true := decide_eq_true (by omega)
      obtain ⟨b, off, r, rfl, hb, hz, hr, hc⟩ := (h.below hbel).range hlt
      have HS := Lib.hid (logTo_succ (x := x) (mgs_at hz))
      have hm := HALL.out _ (List.mem_of_getElem? (mgs_at hz))
      have s1 := HSZ.out k (by have := HL.out; omega)
      have s2 := lineN_size hm
      have HR := Lib.hid (hr.more hbs)
      have HC := Lib.hid hc
      have HM := Lib.hid hm
      have z1 : (logTo x (mgs rs) k).size + (lineN r.m).size ≤ 9223372036854775807 := by omega
      have hp : (0 : Int) ≤ (k : Int) := by omega
      have hp2 : (k : Int) < (n : Int) := by omega
      clear hz hr hc hm s1 s2
      generalize logTo x (mgs rs) k = st at *
      go_wp2_with (go_at_call 25; refine (l03Line_any _ _ r _ (by omega) HC.out HR.out HM.out).mono ?_; rintro e w2 ⟨rfl, hb2⟩)
      go_roundw
      case rel => exact ⟨k + 1, by omega, by go_num, by rw [HS.out], hbel.trans (hb2.mono hbs)⟩
      case measure => simp [intOf]; omega
    · have hlt' : decide ((k : Int) < (n : Int)) = false := decide_eq_false (by omega)
      have hke : k = n := by omega
      subst hke
      go_wp2
      go_ret
      exact ⟨rfl, hbel⟩
def digT (x : Int) (ms : List Mg) : ByteArray := logTo x ms ms.length
def digB (x : Int) (ms : List Mg) : Bool := logB x ms && decide ((digT x ms).size ≤ 4000)
def digS (x : Int) (ms : List Mg) : ByteArray := if digB x ms = true then strOfNums (digL (digT x ms)) else ⟨#[]⟩
theorem dig_bad {x : Int} {ms : List Mg} (h : logB x ms = false) : digB x ms = false ∧ digS x ms = ⟨#[]⟩ := by
  have : digB x ms = false := by simp [digB, h]
  exact ⟨this, by simp [digS, this]⟩
theorem dig_long {x : Int} {ms : List Mg} (h : ¬ (digT x ms).size ≤ 4000) : digB x ms = false ∧ digS x ms = ⟨#[]⟩ := by
  have : digB x ms = false := by simp [digB, h]
  exact ⟨this, by simp [digS, this]⟩
theorem dig_yes {x : Int} {ms : List Mg} (h : logB x ms = true) (h1 : (digT x ms).size ≤ 4000) : digB x ms = true ∧ digS x ms = strOfNums (digL (digT x ms)) := by
  have : digB x ms = true := by simp [digB, h, h1]
  exact ⟨this, by simp [digS, this]⟩
end Go.Proofs.YthekkjblgnjmgabDoor
