import Derived.Test.YthekkjblgnjmgabDoorChecked
import Derived.WalkKit
import Derived.ProofKit
import Derived.OpenShut
import Derived.ShutString
import Derived.ChangeOld
import Derived.Below
import Derived.Lib.Hide
import Derived.Test.YthekkjblgnjmgabDoorZDigT
import Derived.Test.YthekkjblgnjmgabDoorZDigestS
namespace Go.Proofs.YthekkjblgnjmgabDoor
open Go.ChangeShapes Go.WideShapes Go.ChangeAt Go.RowKit
open Go.ChangeMaps (open_string shut_string)
set_option linter.unusedVariables false
set_option maxRecDepth 100000
theorem l03Is_b (G B : Nat) (x : Int) (A : Option Addr) (n c : Nat) (rs : List Rm) (v : Bool) (w : World) (p0 : w.cell? ⟨G, 0, none⟩ = some (.int .i64 x)) (p1 : w.cell? ⟨G, 1, none⟩ = some (.slice A n c)) (h : LogAt w B A n rs) (hf : fitL (mgs rs)) (hv : logB x (mgs rs) = v) :
    Calls Tryd.prog 10 #[.pointer (some ⟨G, 0, none⟩)] w fun e w' => e = .returned (.bool v) ∧ Below w.heap.size w w' := by
  subst hv
  refine (l03Is_any G x A n c B rs w p0 p1 h hf).mono ?_
  rintro e w2 ⟨rfl, q, rfl⟩
  exact ⟨rfl, drew_below ⟨q, rfl⟩⟩
set_option maxHeartbeats 800000 in
theorem spec_DigestOfLog_any (x : Int) (A : Option Addr) (n c : Nat) (rs : List Rm) (w : World) (h : LogAt w w.heap.size A n rs) (hf : fitL (mgs rs)) :
    Calls Tryd.prog 5 #[.agg #[.int .i64 x, .slice A n c]] w fun e w' => e = .returned (.tuple #[.string (digS x (mgs rs)), .bool (digB x (mgs rs))]) ∧ Below w.heap.size w w' := by
  have HF := Lib.hid hf
  clear hf
  cases hv : logB x (mgs rs) with
  | false =>
    have HD := Lib.hid (dig_bad hv)
    go_enter Tryd.func5, Tryd.ntmps5
    go_wp2_with fail
    obtain ⟨k0, hb0⟩ := one_box w 30 #[.int .i64 x, .slice A n c]
    generalize w.alloc (.cells #[.int .i64 x, .slice A n c] 30) = W at *
    go_at_call 10; refine (l03Is_b w.heap.size _ x A n c rs _ _ (k0.cell 0) (k0.cell 1) (h.to hb0) HF.out hv).mono ?_; rintro e w2 ⟨rfl, hb1⟩
    have hb0 := hb0.trans (hb1.mono hb0.size)
    go_wp2
    go_ret2
    exact ⟨by rw [HD.out.1, HD.out.2]; rfl, hb0⟩
  | true =>
    have HT := Lib.hid (show digT x (mgs rs) = logTo x (mgs rs) n by rw [digT, mgs_len, h.len])
    have HSZ := Lib.hid (show (logTo x (mgs rs) n).size ≤ 20000 by have := logTo_size hv n (by rw [mgs_len, h.len]; exact Nat.le_refl _); have := (log_parts hv).1; rw [mgs_len, h.len] at this; omega)
    by_cases hs : (logTo x (mgs rs) n).size ≤ 4000
    · have HD := Lib.hid (dig_yes hv (by rw [HT.out]; exact hs))
      have HS := Lib.hid hs
      have hs' : decide ((4000 : Int) < ((logTo x (mgs rs) n).size : Int)) = false := decide_eq_false (by omega)
      go_enter Tryd.func5, Tryd.ntmps5
      go_wp2_with fail
      obtain ⟨k0, hb0⟩ := one_box w 30 #[.int .i64 x, .slice A n c]
      generalize w.alloc (.cells #[.int .i64 x, .slice A n c] 30) = W at *
      go_at_call 10; refine (l03Is_b w.heap.size _ x A n c rs _ _ (k0.cell 0) (k0.cell 1) (h.to hb0) HF.out hv).mono ?_; rintro e w2 ⟨rfl, hb1⟩
      have k0 := k0.below hb1 k0.lt
      have hb0 := hb0.trans (hb1.mono hb0.size)
      clear hb1
      have HV := Lib.hid hv
      clear hv
      go_wp2_with fail
      go_at_call 11; refine (l03Text_any w.heap.size x A n c rs _ k0.lt (k0.cell 0) (k0.cell 1) ((h.below hb0).more hb0.size) HV.out).mono ?_; rintro e w3 ⟨rfl, hb1⟩
      have hb0 := hb0.trans (hb1.mono hb0.size)
      clear hb1
      go_wp2_with fail
      go_at_call 12; refine (l01Digest_any _ _ HS.out).mono ?_; rintro e w4 ⟨rfl, hb1⟩
      have hb0 := hb0.trans (hb1.mono hb0.size)
      clear hb1
      go_wp2
      go_ret2
      exact ⟨by rw [HD.out.1, HD.out.2, HT.out]; rfl, hb0⟩
    · have HD := Lib.hid (dig_long (x := x) (ms := mgs rs) (by rw [HT.out]; exact hs))
      have hs' : decide ((4000 : Int) < ((logTo x (mgs rs) n).size : Int)) = true := decide_eq_true (by omega)
      go_enter Tryd.func5, Tryd.ntmps5
      go_wp2_with fail
      obtain ⟨k0, hb0⟩ := one_box w 30 #[.int .i64 x, .slice A n c]
      generalize w.alloc (.cells #[.int .i64 x, .slice A n c] 30) = W at *
      go_at_call 10; refine (l03Is_b w.heap.size _ x A n c rs _ _ (k0.cell 0) (k0.cell 1) (h.to hb0) HF.out hv).mono ?_; rintro e w2 ⟨rfl, hb1⟩
      have k0 := k0.below hb1 k0.lt
      have hb0 := hb0.trans (hb1.mono hb0.size)
      clear hb1
      have HV := Lib.hid hv
      clear hv
      go_wp2_with fail
      go_at_call 11; refine (l03Text_any w.heap.size x A n c rs _ k0.lt (k0.cell 0) (k0.cell 1) ((h.below hb0).more hb0.size) HV.out).mono ?_; rintro e w3 ⟨rfl, hb1⟩
      have hb0 := hb0.trans (hb1.mono hb0.size)
      clear hb1
      go_wp2
      go_ret2
      exact ⟨by rw [HD.out.1, HD.out.2]; rfl, hb0⟩
end Go.Proofs.YthekkjblgnjmgabDoor
