import Derived.Test.YtmnmmjobplbflaaGreatDoorChecked
import Derived.WalkKit
import Derived.ProofKit
import Derived.OpenShut
import Derived.ShutString
import Derived.ChangeOld
import Derived.Below
import Derived.Lib.Hide
import Derived.Test.YtmnmmjobplbflaaGreatDoorJd
import Derived.Test.YtmnmmjobplbflaaGreatDoorJa
namespace Go.Proofs.YtmnmmjobplbflaaGreatDoor
open Go.ChangeShapes Go.WideShapes Go.ChangeAt Go.RowKit
open Go.ChangeMaps (open_string shut_string)
set_option linter.unusedVariables false
set_option maxRecDepth 100000
theorem Calls.quiet_at {P : Program} {f : FuncId} {args : Array Value} {w : World} {n : Nat} {v : Value}
    (h : Calls P f args (w.drewN n) fun e w' => e = .returned v ∧ w.drewN n = w') : Calls P f args (w.drewN n) fun e w'' => e = .returned v ∧ ∃ m, w'' = w.drewN m :=
  h.mono fun _ _ ⟨he, hm⟩ => ⟨he, n, hm.symm⟩
set_option maxHeartbeats 400000 in
theorem l02Find_no (G : Nat) (A : Option Addr) (n c B : Nat) (xs : List Mb) (t : Int) (w : World) (hp : w.cell? ⟨G, 1, none⟩ = some (.slice A n c)) (h : SRow 4 mbC w B A n xs) (hn : n ≤ 1048576) (hno : ¬ t ∈ mids xs) :
    Calls Tryz.prog 56 #[.pointer (some ⟨G, 0, none⟩), .int .i64 t] w fun e w' => e = .returned (.int .i64 (-1)) ∧ w = w' := by
  have HN := Lib.hid hno
  have HL := Lib.hid h.1
  clear hno
  go_enter Tryz.func56, Tryz.ntmps56
  go_wp2
  go_loop [5] (fun i => ∃ k : Nat, k ≤ n ∧ i = .int .i64 k) (fun i => n - (intOf i).toNat)
  case atStart => exact ⟨0, by omega, rfl⟩
  case round =>
    obtain ⟨k, hk, rfl⟩ := hrel
    by_cases hlt : k < n
    · obtain ⟨b, off, z, rfl, _, hz, c0, c1, c2, c3⟩ := h.atm hlt
      have hne : (z.id == t) = false := by
        simp only [beq_eq_false_iff_ne]
        intro e
        exact HN.out (by rw [← e]; exact List.mem_map_of_mem (List.mem_of_getElem? hz))
      clear hz h c1 c2 c3
      go_wp2
      go_round
      case rel => exact ⟨k + 1, by omega, by go_num⟩
      case measure => simp [intOf]; omega
    · go_wp2
      go_ret
      exact ⟨rfl, rfl⟩
set_option maxHeartbeats 400000 in
theorem l02Find_at (G : Nat) (A : Option Addr) (n c B : Nat) (xs : List Mb) (t : Int) (w : World) (hp : w.cell? ⟨G, 1, none⟩ = some (.slice A n c)) (h : SRow 4 mbC w B A n xs) (hn : n ≤ 1048576) (K : Nat) (hK : (mids xs)[K]? = some t) (hf : NotIn (mids xs) t K) :
    Calls Tryz.prog 56 #[.pointer (some ⟨G, 0, none⟩), .int .i64 t] w fun e w' => e = .returned (.int .i64 K) ∧ w = w' := by
  have HK := Lib.hid hK
  have HF := Lib.hid hf
  have hKn : K < n := by
    have := (List.getElem?_eq_some_iff.1 hK).1
    have h1 := h.1
    simp [mids] at this
    omega
  clear hK hf
  go_enter Tryz.func56, Tryz.ntmps56
  go_wp2
  go_loop [5] (fun i => ∃ k : Nat, k ≤ K ∧ i = .int .i64 k) (fun i => K - (intOf i).toNat)
  case atStart => exact ⟨0, by omega, rfl⟩
  case round =>
    obtain ⟨k, hk, rfl⟩ := hrel
    have hlt : k < n := by omega
    obtain ⟨b, off, z, rfl, _, hz, c0, c1, c2, c3⟩ := h.atm hlt
    by_cases hkK : k = K
    · subst hkK
      have hid : z.id = t := by
        have := HK.out
        simp only [mids, List.getElem?_map, hz, Option.map_some, Option.some.injEq] at this
        exact this
      have hne : (z.id == t) = true := by simp [hid]
      clear hz h c1 c2 c3 hid
      go_wp2
      go_ret
      exact ⟨rfl, rfl⟩
    · have hne : (z.id == t) = false := by
        simp only [beq_eq_false_iff_ne]
        exact HF.out k z.id (by omega) (by simp [mids, hz])
      clear hz h c1 c2 c3
      have hkK' : k < K := by omega
      clear hkK
      go_wp2
      go_round
      case rel => exact ⟨k + 1, by omega, by go_num⟩
      case measure => simp [intOf]; omega
set_option maxHeartbeats 400000 in
theorem l02Invited_no (G : Nat) (A : Option Addr) (n c B : Nat) (xs : List Iv) (t : Int) (w : World) (hp : w.cell? ⟨G, 2, none⟩ = some (.slice A n c)) (h : SRow 3 ivC w B A n xs) (hn : n ≤ 1048576) (hno : ¬ t ∈ iids xs) :
    Calls Tryz.prog 103 #[.pointer (some ⟨G, 0, none⟩), .int .i64 t] w fun e w' => e = .returned (.int .i64 (-1)) ∧ w = w' := by
  have HN := Lib.hid hno
  have HL := Lib.hid h.1
  clear hno
  go_enter Tryz.func103, Tryz.ntmps103
  go_wp2
  go_loop [5] (fun i => ∃ k : Nat, k ≤ n ∧ i = .int .i64 k) (fun i => n - (intOf i).toNat)
  case atStart => exact ⟨0, by omega, rfl⟩
  case round =>
    obtain ⟨k, hk, rfl⟩ := hrel
    by_cases hlt : k < n
    · obtain ⟨b, off, z, rfl, _, hz, c0, c1, c2⟩ := h.ativ hlt
      have hne : (z.id == t) = false := by
        simp only [beq_eq_false_iff_ne]
        intro e
        exact HN.out (by rw [← e]; exact List.mem_map_of_mem (List.mem_of_getElem? hz))
      clear hz h c1 c2
      go_wp2
      go_round
      case rel => exact ⟨k + 1, by omega, by go_num⟩
      case measure => simp [intOf]; omega
    · go_wp2
      go_ret
      exact ⟨rfl, rfl⟩
set_option maxHeartbeats 400000 in
theorem l02Invited_at (G : Nat) (A : Option Addr) (n c B : Nat) (xs : List Iv) (t : Int) (w : World) (hp : w.cell? ⟨G, 2, none⟩ = some (.slice A n c)) (h : SRow 3 ivC w B A n xs) (hn : n ≤ 1048576) (K : Nat) (hK : (iids xs)[K]? = some t) (hf : NotIn (iids xs) t K) :
    Calls Tryz.prog 103 #[.pointer (some ⟨G, 0, none⟩), .int .i64 t] w fun e w' => e = .returned (.int .i64 K) ∧ w = w' := by
  have HK := Lib.hid hK
  have HF := Lib.hid hf
  have hKn : K < n := by
    have := (List.getElem?_eq_some_iff.1 hK).1
    have h1 := h.1
    simp [iids] at this
    omega
  clear hK hf
  go_enter Tryz.func103, Tryz.ntmps103
  go_wp2
  go_loop [5] (fun i => ∃ k : Nat, k ≤ K ∧ i = .int .i64 k) (fun i => K - (intOf i).toNat)
  case atStart => exact ⟨0, by omega, rfl⟩
  case round =>
    obtain ⟨k, hk, rfl⟩ := hrel
    have hlt : k < n := by omega
    obtain ⟨b, off, z, rfl, _, hz, c0, c1, c2⟩ := h.ativ hlt
    by_cases hkK : k = K
    · subst hkK
      have hid : z.id = t := by
        have := HK.out
        simp only [iids, List.getElem?_map, hz, Option.map_some, Option.some.injEq] at this
        exact this
      have hne : (z.id == t) = true := by simp [hid]
      clear hz h c1 c2 hid
      go_wp2
      go_ret
      exact ⟨rfl, rfl⟩
    · have hne : (z.id == t) = false := by
        simp only [beq_eq_false_iff_ne]
        exact HF.out k z.id (by omega) (by simp [iids, hz])
      clear hz h c1 c2
      have hkK' : k < K := by omega
      clear hkK
      go_wp2
      go_round
      case rel => exact ⟨k + 1, by omega, by go_num⟩
      case measure => simp [intOf]; omega
theorem l02Find_qno (G : Nat) (A : Option Addr) (n c B : Nat) (xs : List Mb) (t : Int) (w : World) (hp : w.cell? ⟨G, 1, none⟩ = some (.slice A n c)) (h : SRow 4 mbC w B A n xs) (hn : n ≤ 1048576) (hno : ¬ t ∈ mids xs) (m : Nat) :
    Calls Tryz.prog 56 #[.pointer (some ⟨G, 0, none⟩), .int .i64 t] (w.drewN m) fun e w' => e = .returned (.int .i64 (-1)) ∧ ∃ q, w' = w.drewN q :=
  Calls.quiet_at (l02Find_no G A n c B xs t (w.drewN m) hp (h.drewN m) hn hno)
theorem l02Find_qat (G : Nat) (A : Option Addr) (n c B : Nat) (xs : List Mb) (t : Int) (w : World) (hp : w.cell? ⟨G, 1, none⟩ = some (.slice A n c)) (h : SRow 4 mbC w B A n xs) (hn : n ≤ 1048576) (K : Nat) (hK : (mids xs)[K]? = some t) (hf : NotIn (mids xs) t K) (m : Nat) :
    Calls Tryz.prog 56 #[.pointer (some ⟨G, 0, none⟩), .int .i64 t] (w.drewN m) fun e w' => e = .returned (.int .i64 K) ∧ ∃ q, w' = w.drewN q :=
  Calls.quiet_at (l02Find_at G A n c B xs t (w.drewN m) hp (h.drewN m) hn K hK hf)
theorem l02Invited_qno (G : Nat) (A : Option Addr) (n c B : Nat) (xs : List Iv) (t : Int) (w : World) (hp : w.cell? ⟨G, 2, none⟩ = some (.slice A n c)) (h : SRow 3 ivC w B A n xs) (hn : n ≤ 1048576) (hno : ¬ t ∈ iids xs) (m : Nat) :
    Calls Tryz.prog 103 #[.pointer (some ⟨G, 0, none⟩), .int .i64 t] (w.drewN m) fun e w' => e = .returned (.int .i64 (-1)) ∧ ∃ q, w' = w.drewN q :=
  Calls.quiet_at (l02Invited_no G A n c B xs t (w.drewN m) hp (h.drewN m) hn hno)
theorem l02Invited_qat (G : Nat) (A : Option Addr) (n c B : Nat) (xs : List Iv) (t : Int) (w : World) (hp : w.cell? ⟨G, 2, none⟩ = some (.slice A n c)) (h : SRow 3 ivC w B A n xs) (hn : n ≤ 1048576) (K : Nat) (hK : (iids xs)[K]? = some t) (hf : NotIn (iids xs) t K) (m : Nat) :
    Calls Tryz.prog 103 #[.pointer (some ⟨G, 0, none⟩), .int .i64 t] (w.drewN m) fun e w' => e = .returned (.int .i64 K) ∧ ∃ q, w' = w.drewN q :=
  Calls.quiet_at (l02Invited_at G A n c B xs t (w.drewN m) hp (h.drewN m) hn K hK hf)
end Go.Proofs.YtmnmmjobplbflaaGreatDoor
