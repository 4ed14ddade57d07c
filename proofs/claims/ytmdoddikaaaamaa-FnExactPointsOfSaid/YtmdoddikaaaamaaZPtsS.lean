import Derived.Test.YtmdoddikaaaamaaChecked
import Derived.WalkKit
import Derived.ProofKit
import Derived.OpenShut
import Derived.ShutString
import Derived.ChangeOld
import Derived.Below
import Derived.Lib.Hide
import Derived.Deep.CutRange
import Derived.Test.YtmdoddikaaaamaaZPtsP
namespace Go.Proofs.Ytmdoddikaaaamaa
open Go.ChangeShapes Go.WideShapes Go.ChangeAt Go.RowKit
open Go.ChangeMaps (open_string shut_string)
set_option linter.unusedVariables false
set_option maxRecDepth 100000
set_option maxHeartbeats 12800000 in
theorem l06Points_any (A : Option Addr) (n c : Nat) (xs : List Iv) (mem at_ fade : Int) (w : World) (h : SRow 3 ivC w w.heap.size A n xs) (hs : strikesB xs = true) (ha : tickB at_ = true) (hf : spanB fade = true) :
    Calls Try.prog 80 #[.slice A n c, .int .i64 mem, .int .i64 at_, .int .i64 fade] w fun e w' => e = .returned (.int .i64 (ptsL mem at_ fade xs)) ∧ Below w.heap.size w w' := by
  obtain ⟨hs1, hs2⟩ := strikes_ok hs
  have HL := Lib.hid h.1
  have HS2 := Lib.hid hs2
  have hn : n ≤ 64 := by rw [← h.1]; exact hs1
  have hat : 0 ≤ at_ ∧ at_ ≤ 1000000 := by simpa [tickB] using ha
  have hfa : 1 ≤ fade ∧ fade ≤ 1000000 := by simpa [spanB] using hf
  clear hs hs2 ha hf
  go_enter Try.func80, Try.ntmps80
  go_wp2
  go_loopw [9, 10] (fun sv i wr => ∃ k : Nat, k ≤ n ∧ i = .int .i64 k ∧ sv = .int .i64 (ptsL mem at_ fade (xs.take k)) ∧ Below w.heap.size w wr) (fun _ i _ => n - (intOf i).toNat)
  case atStart => exact ⟨0, by omega, rfl, rfl, Below.refl _ _⟩
  case round =>
    obtain ⟨k, hk, rfl, rfl, hbel⟩ := hrel
    have hbs := hbel.size
    by_cases hlt : k < n
    · obtain ⟨b, off, z, rfl, hb, hz, c0, c1, c2⟩ := h.ativ hlt
      have hlt' : decide ((k : Int) < (n : Int)) = true := decide_eq_true (by omega)
      have HST := Lib.hid (ptsL_step (m := mem) (at_ := at_) (fade := fade) hz)
      have hok := HS2.out z (List.mem_of_getElem? hz)
      have hbd := pts_bd (m := mem) (at_ := at_) (fade := fade) (xs.take k) (fun y hy => HS2.out y (List.mem_of_mem_take hy))
      have hbl : ((xs.take k).length : Int) ≤ 64 := by rw [List.length_take]; omega
      obtain ⟨sm, hsm⟩ : ∃ x, ptsL mem at_ fade (xs.take k) = x := ⟨_, rfl⟩
      rw [hsm] at hbd
      have hb0 : 0 ≤ sm := hbd.1
      have hb1 : sm ≤ 256 := by have := hbd.2; omega
      have HSM := Lib.hid hsm
      simp only [hsm]
      have d0 := (hbel.cell (p := ⟨b, off + k * 3, none⟩) hb).trans c0
      have d1 := (hbel.cell (p := ⟨b, off + k * 3 + 1, none⟩) hb).trans c1
      have d2 := (hbel.cell (p := ⟨b, off + k * 3 + 2, none⟩) hb).trans c2
      have hz3 : (0 ≤ z.byy ∧ z.byy ≤ 2) ∧ 0 ≤ z.til ∧ z.til ≤ 1000000 := by simp [skB, tickB] at hok; omega
      obtain ⟨⟨hk0, hk2⟩, ht0, ht1⟩ := hz3
      have HH := Lib.hid h
      clear hz hbd hbl hsm c0 c1 c2 h hok
      by_cases h1 : z.id = mem
      rotate_left
      · have x1 : (z.id != mem) = true := by simpa using h1
        have HYES := Lib.hid (show ptOf mem at_ fade z = 0 by unfold ptOf; rw [if_neg (fun x => h1 x.1)])
        go_wp2
        go_roundw
        case rel => exact ⟨k + 1, by omega, by go_num, by rw [HST.out, HYES.out, HSM.out]; go_num, hbel.alloc hbs _⟩
        case measure => simp [intOf]; omega
      have x1 : (z.id != mem) = false := by simpa using h1
      by_cases h2 : z.til ≤ at_
      rotate_left
      · have x2 : decide (at_ < z.til) = true := decide_eq_true (by omega)
        have HYES := Lib.hid (show ptOf mem at_ fade z = 0 by unfold ptOf; rw [if_neg (fun x => h2 x.2)])
        go_wp2
        go_roundw
        case rel => exact ⟨k + 1, by omega, by go_num, by rw [HST.out, HYES.out, HSM.out]; go_num, hbel.alloc hbs _⟩
        case measure => simp [intOf]; omega
      have x2 : decide (at_ < z.til) = false := decide_eq_false (by omega)
      have HYES := Lib.hid (show ptOf mem at_ fade z = ptZ at_ fade z by unfold ptOf; rw [if_pos ⟨h1, h2⟩])
      have q0 := div_small (at_ - z.til) fade (by omega) hfa.1
      obtain ⟨K, hK⟩ : ∃ K : Nat, (at_ - z.til) / fade = (K : Int) := ⟨((at_ - z.til) / fade).toNat, by omega⟩
      have hK6 : K ≤ 1000000 := by omega
      have f0 : IntKind.i64.wrap (at_ - z.til) = at_ - z.til := IntWalk.i64_in _ (by omega)
      have f1 : IntKind.i64.wrap ((at_ - z.til).tdiv fade) = (K : Int) := by rw [← hK]; exact IntWalk.i64_quo _ _ (by omega)
      have f3 : fade ≠ 0 := by omega
      have HKD := Lib.hid (show ((at_ - z.til) / fade).toNat = K by omega)
      have hf1 := hfa.1
      clear q0 h1
      rcases (show z.byy = 0 ∨ z.byy = 1 ∨ z.byy = 2 by omega) with e | e | e
      · have HQ := Lib.hid (show z.byy.toNat = 0 by rw [e]; rfl)
        rw [e] at d1
        clear e hk0 hk2
        go_upto_region 7 with fail
        go_wp2
        go_loopw [12, 13] (fun pv kv wi => ∃ (p : Int) (m : Nat), pv = .int .i64 p ∧ kv = .int .i64 m ∧ 0 ≤ p ∧ p ≤ 4 ∧ m ≤ 1000000 ∧ Hid (p / (2 : Int) ^ m = ptZ at_ fade z) ∧ Below w.heap.size w wi) (fun _ kv _ => (intOf kv).toNat)
        case atStart => exact ⟨1, K, rfl, rfl, by decide, by decide, by omega, Lib.hid (by unfold ptZ; rw [HQ.out, HKD.out]; rfl), hbel.alloc hbs _⟩
        case round =>
          obtain ⟨p, m, rfl, rfl, hp0, hp4, hm6, HP, hbW⟩ := hrel
          by_cases hm0 : 0 < m
          · have y1 : decide ((0 : Int) < (m : Int)) = true := decide_eq_true (by omega)
            by_cases hpp : 0 < p
            · have y2 : decide ((0 : Int) < p) = true := decide_eq_true hpp
              obtain ⟨m', rfl⟩ : ∃ m', m = m' + 1 := ⟨m - 1, by omega⟩
              have HP2 := Lib.hid ((half_step p m').trans HP.out)
              go_wp2
              go_roundw
              case rel => exact ⟨p / 2, m', by go_num, by go_num, by omega, by omega, by omega, HP2, hbW⟩
              case measure => simp [intOf]
            · have y2 : decide ((0 : Int) < p) = false := decide_eq_false hpp
              obtain rfl : p = 0 := by omega
              have HE := Lib.hid (show ptZ at_ fade z = 0 by rw [← HP.out]; simp)
              have fs : IntKind.i64.wrap (sm + 0) = sm + 0 := IntWalk.i64_in _ (by omega)
              go_wp2
              go_roundw
              case rel => exact ⟨k + 1, by omega, by go_num, by rw [HST.out, HYES.out, HE.out, HSM.out]; go_num, hbW⟩
              case measure => simp [intOf]; omega
          · have y1 : decide ((0 : Int) < (m : Int)) = false := decide_eq_false (by omega)
            obtain rfl : m = 0 := by omega
            have HE := Lib.hid (show ptZ at_ fade z = p by rw [← HP.out]; simp)
            have fs : IntKind.i64.wrap (sm + p) = sm + p := IntWalk.i64_in _ (by omega)
            go_wp2
            go_roundw
            case rel => exact ⟨k + 1, by omega, by go_num, by rw [HST.out, HYES.out, HE.out, HSM.out], hbW⟩
            case measure => simp [intOf]; omega
      · have HQ := Lib.hid (show z.byy.toNat = 1 by rw [e]; rfl)
        rw [e] at d1
        clear e hk0 hk2
        go_upto_region 7 with fail
        go_wp2
        go_loopw [12, 13] (fun pv kv wi => ∃ (p : Int) (m : Nat), pv = .int .i64 p ∧ kv = .int .i64 m ∧ 0 ≤ p ∧ p ≤ 4 ∧ m ≤ 1000000 ∧ Hid (p / (2 : Int) ^ m = ptZ at_ fade z) ∧ Below w.heap.size w wi) (fun _ kv _ => (intOf kv).toNat)
        case atStart => exact ⟨2, K, rfl, rfl, by decide, by decide, by omega, Lib.hid (by unfold ptZ; rw [HQ.out, HKD.out]; rfl), hbel.alloc hbs _⟩
        case round =>
          obtain ⟨p, m, rfl, rfl, hp0, hp4, hm6, HP, hbW⟩ := hrel
          by_cases hm0 : 0 < m
          · have y1 : decide ((0 : Int) < (m : Int)) = true := decide_eq_true (by omega)
            by_cases hpp : 0 < p
            · have y2 : decide ((0 : Int) < p) = true := decide_eq_true hpp
              obtain ⟨m', rfl⟩ : ∃ m', m = m' + 1 := ⟨m - 1, by omega⟩
              have HP2 := Lib.hid ((half_step p m').trans HP.out)
              go_wp2
              go_roundw
              case rel => exact ⟨p / 2, m', by go_num, by go_num, by omega, by omega, by omega, HP2, hbW⟩
              case measure => simp [intOf]
            · have y2 : decide ((0 : Int) < p) = false := decide_eq_false hpp
              obtain rfl : p = 0 := by omega
              have HE := Lib.hid (show ptZ at_ fade z = 0 by rw [← HP.out]; simp)
              have fs : IntKind.i64.wrap (sm + 0) = sm + 0 := IntWalk.i64_in _ (by omega)
              go_wp2
              go_roundw
              case rel => exact ⟨k + 1, by omega, by go_num, by rw [HST.out, HYES.out, HE.out, HSM.out]; go_num, hbW⟩
              case measure => simp [intOf]; omega
          · have y1 : decide ((0 : Int) < (m : Int)) = false := decide_eq_false (by omega)
            obtain rfl : m = 0 := by omega
            have HE := Lib.hid (show ptZ at_ fade z = p by rw [← HP.out]; simp)
            have fs : IntKind.i64.wrap (sm + p) = sm + p := IntWalk.i64_in _ (by omega)
            go_wp2
            go_roundw
            case rel => exact ⟨k + 1, by omega, by go_num, by rw [HST.out, HYES.out, HE.out, HSM.out], hbW⟩
            case measure => simp [intOf]; omega
      · have HQ := Lib.hid (show z.byy.toNat = 2 by rw [e]; rfl)
        rw [e] at d1
        clear e hk0 hk2
        go_upto_region 7 with fail
        go_wp2
        go_loopw [12, 13] (fun pv kv wi => ∃ (p : Int) (m : Nat), pv = .int .i64 p ∧ kv = .int .i64 m ∧ 0 ≤ p ∧ p ≤ 4 ∧ m ≤ 1000000 ∧ Hid (p / (2 : Int) ^ m = ptZ at_ fade z) ∧ Below w.heap.size w wi) (fun _ kv _ => (intOf kv).toNat)
        case atStart => exact ⟨4, K, rfl, rfl, by decide, by decide, by omega, Lib.hid (by unfold ptZ; rw [HQ.out, HKD.out]; rfl), hbel.alloc hbs _⟩
        case round =>
          obtain ⟨p, m, rfl, rfl, hp0, hp4, hm6, HP, hbW⟩ := hrel
          by_cases hm0 : 0 < m
          · have y1 : decide ((0 : Int) < (m : Int)) = true := decide_eq_true (by omega)
            by_cases hpp : 0 < p
            · have y2 : decide ((0 : Int) < p) = true := decide_eq_true hpp
              obtain ⟨m', rfl⟩ : ∃ m', m = m' + 1 := ⟨m - 1, by omega⟩
              have HP2 := Lib.hid ((half_step p m').trans HP.out)
              go_wp2
              go_roundw
              case rel => exact ⟨p / 2, m', by go_num, by go_num, by omega, by omega, by omega, HP2, hbW⟩
              case measure => simp [intOf]
            · have y2 : decide ((0 : Int) < p) = false := decide_eq_false hpp
              obtain rfl : p = 0 := by omega
              have HE := Lib.hid (show ptZ at_ fade z = 0 by rw [← HP.out]; simp)
              have fs : IntKind.i64.wrap (sm + 0) = sm + 0 := IntWalk.i64_in _ (by omega)
              go_wp2
              go_roundw
              case rel => exact ⟨k + 1, by omega, by go_num, by rw [HST.out, HYES.out, HE.out, HSM.out]; go_num, hbW⟩
              case measure => simp [intOf]; omega
          · have y1 : decide ((0 : Int) < (m : Int)) = false := decide_eq_false (by omega)
            obtain rfl : m = 0 := by omega
            have HE := Lib.hid (show ptZ at_ fade z = p by rw [← HP.out]; simp)
            have fs : IntKind.i64.wrap (sm + p) = sm + p := IntWalk.i64_in _ (by omega)
            go_wp2
            go_roundw
            case rel => exact ⟨k + 1, by omega, by go_num, by rw [HST.out, HYES.out, HE.out, HSM.out], hbW⟩
            case measure => simp [intOf]; omega
    · have hlt' : decide ((k : Int) < (n : Int)) = false := decide_eq_false (by omega)
      have HE := Lib.hid (show ptsL mem at_ fade (xs.take k) = ptsL mem at_ fade xs by rw [List.take_of_length_le (by have := HL.out; omega)])
      go_wp2
      go_ret
      exact ⟨ret_int HE.out, hbel⟩
end Go.Proofs.Ytmdoddikaaaamaa
