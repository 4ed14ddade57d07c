import Derived.Test.YtdpclbmcmgknjabDoorChecked
import Derived.WalkKit
import Derived.ProofKit
import Derived.OpenShut
import Derived.ShutString
import Derived.ChangeOld
import Derived.Below
import Derived.Lib.Hide
import Derived.WalkSpells
import Derived.WalkLawsBesides
import Derived.Test.YtdpclbmcmgknjabDoorZDecP
import Derived.Test.YtdpclbmcmgknjabDoorJb
namespace Go.Proofs.YtdpclbmcmgknjabDoor
open Go.ChangeShapes Go.WideShapes Go.ChangeAt Go.RowKit
open Go.ChangeMaps (open_string shut_string)
set_option linter.unusedVariables false
theorem info_partsD {P : Program} {t : TypeId} {z : Value} {s b : Nat} (h : (P.info? t).map (fun i => (i.zero, i.size, i.bytes)) = some (some z, s, b)) : ∃ i, P.info? t = some i ∧ i.zero = some z ∧ i.size = s ∧ i.bytes = b := by
  obtain ⟨i, hi, he⟩ := Option.map_eq_some_iff.1 h
  simp only [Prod.mk.injEq] at he
  exact ⟨i, hi, he.1, he.2.1, he.2.2⟩
theorem own_someD {w : World} {base e n : Nat} {v : Value} {xs : List Value} (h : w.ownsRow base e 1 v n xs) (h0 : 0 < n) : ∃ g c, v = .slice (some ⟨g, 0, none⟩) n c := by
  rcases h.2 with ⟨_, hn⟩ | ⟨g, cap, cur, rfl, _⟩
  · omega
  · exact ⟨g, cap, rfl⟩
def lenOf : Value → Nat
  | .slice _ n _ => n
  | _ => 0
def decM (v r : Value) : Nat := (intOf r).natAbs + (if lenOf v = 0 then 1 else 0)
set_option maxHeartbeats 1600000 in
set_option maxRecDepth 100000 in
theorem l01Dec_sign (n : Int) (s : Int) (hs : s = 1 ∧ 0 ≤ n ∨ s = -1 ∧ n < 0) (h0 : -9223372036854775808 ≤ n) (h1 : n ≤ 9223372036854775807) (w : World) :
    Calls Tryd.prog 36 #[.int .i64 n] w fun e w' => e = .returned (.string (strOfNums (decL n))) ∧ Below w.heap.size w w' := by
  obtain ⟨i0, hi, hz0, hz1, hz2⟩ := info_partsD Tryd.info_u8
  have hu : n.natAbs ≤ 9223372036854775808 := by omega
  go_enter Tryd.func36, Tryd.ntmps36
  go_wp2
  go_loopw [3, 4, 5] (fun v rv _ wr => ∃ (out : List Int) (r g c : Nat), rv = .int .i64 (s * r) ∧ v = .slice (some ⟨g, 0, none⟩) out.length c ∧ wr.ownsRow w.heap.size 5 1 (.slice (some ⟨g, 0, none⟩) out.length c) out.length (out.map (Value.int .u8)) ∧ DecInv n.natAbs out r ∧ DecLen out.length r ∧ r ≤ n.natAbs ∧ Below w.heap.size w wr) (fun v rv _ _ => decM v rv)
  case atStart =>
    refine ⟨[], n.natAbs, w.heap.size, 0, by rcases hs with ⟨rfl, h⟩ | ⟨rfl, h⟩ <;> congr 1 <;> omega, rfl, World.ownsRow_made w #[] 0 (Nat.le_refl _) (by decide) rfl, DecInv.start _, DecLen.start hu, Nat.le_refl _, (Below.refl _ _).alloc (Nat.le_refl _) _⟩
  case round =>
    obtain ⟨out, r, g, c, rfl, rfl, hown, hinv, hlen, hru, hbel⟩ := hrel
    have hbs := hbel.size
    by_cases hgo : out = [] ∨ r ≠ 0
    · have HI := Lib.hid (hinv.step hgo)
      have HN := Lib.hid (hlen.step (hgo.elim (fun h => .inl (by rw [h]; rfl)) .inr))
      have hl19 := hlen.1
      have hsgn : (Int.tmod (s * r) 10 < 0 ∧ -Int.tmod (s * r) 10 = ((r % 10 : Nat) : Int) ∨ 0 ≤ Int.tmod (s * r) 10 ∧ Int.tmod (s * r) 10 = ((r % 10 : Nat) : Int)) ∧ Int.tdiv (s * r) 10 = s * ((r / 10 : Nat) : Int) ∧ -9223372036854775808 ≤ s * (r : Int) ∧ s * (r : Int) ≤ 9223372036854775807 ∧ (s * ((r / 10 : Nat) : Int)).natAbs = r / 10 ∧ (s * (r : Int)).natAbs = r ∧ -9223372036854775808 ≤ s * ((r / 10 : Nat) : Int) ∧ s * ((r / 10 : Nat) : Int) ≤ 9223372036854775807 := by
        rcases hs with ⟨rfl, hn⟩ | ⟨rfl, hn⟩
        · rw [Int.one_mul, rem_pos, quo_pos]
          refine ⟨.inr ⟨by omega, rfl⟩, by omega, by omega, by omega, by omega, by omega, by omega, by omega⟩
        · rw [show (-1 : Int) * (r : Int) = -(r : Int) by omega, rem_neg, quo_neg]
          refine ⟨?_, by omega, by omega, by omega, by omega, by omega, by omega, by omega⟩
          by_cases h10 : r % 10 = 0
          · exact .inr ⟨by omega, by omega⟩
          · exact .inl ⟨by omega, by omega⟩
      obtain ⟨hrem, hquo, hb0, hb1, hab, har, hb2, hb3⟩ := hsgn
      have HM := Lib.hid (And.intro hab har)
      have HZ := Lib.hid (show r ≠ 0 → s * (r : Int) ≠ 0 from fun h e => by rw [e] at har; simp at har; omega)
      clear hinv hlen hab har
      generalize s * (r : Int) = z at *
      generalize hbq : s * ((r / 10 : Nat) : Int) = b at *
      have HBQ := Lib.hid hbq
      clear hbq
      generalize hd : r % 10 = d at *
      have hd10 : d < 10 := by omega
      generalize hm : Int.tmod z 10 = a at *
      have hpath : (out.length = 0) ∨ (decide ((out.length : Int) = 0) = false ∧ decide (z = 0) = false) := by
        rcases hgo with h | h
        · exact .inl (by rw [h]; rfl)
        · by_cases h2 : out.length = 0
          · exact .inl h2
          · exact .inr ⟨decide_eq_false fun e => h2 (by omega), decide_eq_false (HZ.out h)⟩
      have hms : b.natAbs + 0 < z.natAbs + (if out.length = 0 then 1 else 0) := by
        have h1 := HM.out.1
        have h2 := HM.out.2
        rcases hgo with h | h
        · rw [if_pos (by rw [h]; rfl)]; omega
        · split <;> omega
      have HMS := Lib.hid hms
      clear hgo hms
      rcases hpath with hp | ⟨hp, hp2⟩
      · have hout := List.length_eq_zero_iff.1 hp
        subst hout
        clear hp
        rcases hrem with ⟨ha, had⟩ | ⟨ha, had⟩
        ·
          go_wp2_with (at_builtin; refine wpList_append_own _ rfl (.tmp 24) (.tmp 25) 70 rfl w.heap.size 5 i0 (.int .u8 0) 1 1 Tryd.underlying70 hi hz0 hz1 hz2 rfl (by decide) _ _ _ rfl (World.ownsRow_lit wr #[.int .u8 (48 + (d : Int))] 1 hbs (by decide) rfl) ⟨g, 0, none⟩ 0 c [] rfl ?_ ?_ ?_ ?_ ?_ ?_ ?_)
          · simp
          · exact (hown.alloc _).cells rfl
          · intro u hu; simp at hu; try (obtain ⟨x, _, rfl⟩ := hu; rfl)
          · unfold maxLen; omega
          · omega
          · simp; omega
          intro v' w5 hown' hgrow _
          have hbel' : Below w.heap.size w w5 := (hbel.alloc hbs _).grown hgrow (by simp; omega) (fun g hg => by simp [Value.ownBlock] at hg; omega)
          obtain ⟨g', c', rfl⟩ := own_someD hown' (by omega)
          have hown2 : w5.ownsRow w.heap.size 5 1 (.slice (some ⟨g', 0, none⟩) (1 + 0) c') (1 + 0) (((48 + (d : Int)) :: []).map (Value.int .u8)) := hown'
          clear hgrow hown hbel hown'
          go_wp2
          go_roundw
          case rel => exact ⟨(48 + (d : Int)) :: [], r / 10, g', c', by first | rfl | rw [HBQ.out], by simp, by rw [List.length_cons, Nat.add_comm]; exact hown2, HI.out, HN.out, by omega, hbel'⟩
          case measure => simpa [decM, lenOf, intOf] using HMS.out
        · subst had
          go_wp2_with (at_builtin; refine wpList_append_own _ rfl (.tmp 24) (.tmp 25) 70 rfl w.heap.size 5 i0 (.int .u8 0) 1 1 Tryd.underlying70 hi hz0 hz1 hz2 rfl (by decide) _ _ _ rfl (World.ownsRow_lit wr #[.int .u8 (48 + (d : Int))] 1 hbs (by decide) rfl) ⟨g, 0, none⟩ 0 c [] rfl ?_ ?_ ?_ ?_ ?_ ?_ ?_)
          · simp
          · exact (hown.alloc _).cells rfl
          · intro u hu; simp at hu; try (obtain ⟨x, _, rfl⟩ := hu; rfl)
          · unfold maxLen; omega
          · omega
          · simp; omega
          intro v' w5 hown' hgrow _
          have hbel' : Below w.heap.size w w5 := (hbel.alloc hbs _).grown hgrow (by simp; omega) (fun g hg => by simp [Value.ownBlock] at hg; omega)
          obtain ⟨g', c', rfl⟩ := own_someD hown' (by omega)
          have hown2 : w5.ownsRow w.heap.size 5 1 (.slice (some ⟨g', 0, none⟩) (1 + 0) c') (1 + 0) (((48 + (d : Int)) :: []).map (Value.int .u8)) := hown'
          clear hgrow hown hbel hown'
          go_wp2
          go_roundw
          case rel => exact ⟨(48 + (d : Int)) :: [], r / 10, g', c', by first | rfl | rw [HBQ.out], by simp, by rw [List.length_cons, Nat.add_comm]; exact hown2, HI.out, HN.out, by omega, hbel'⟩
          case measure => simpa [decM, lenOf, intOf] using HMS.out
      · have hne : ¬ out = [] := fun e => by rw [e] at hp; simp at hp
        have hz0' : (z != 0) = true := by simpa using of_decide_eq_false hp2
        have hne3 : ((out.length : Int) == 0) = false := by simpa using hne
        have hne2 : ¬ out.length = 0 := fun e => hne (List.length_eq_zero_iff.1 e)
        rcases hrem with ⟨ha, had⟩ | ⟨ha, had⟩
        ·
          go_wp2_with (at_builtin; refine wpList_append_own _ rfl (.tmp 24) (.tmp 25) 70 rfl w.heap.size 5 i0 (.int .u8 0) 1 1 Tryd.underlying70 hi hz0 hz1 hz2 rfl (by decide) _ _ _ rfl (World.ownsRow_lit wr #[.int .u8 (48 + (d : Int))] 1 hbs (by decide) rfl) ⟨g, 0, none⟩ out.length c (out.map (Value.int .u8)) rfl ?_ ?_ ?_ ?_ ?_ ?_ ?_)
          · simp
          · exact (hown.alloc _).cells rfl
          · intro u hu; simp at hu; try (obtain ⟨x, _, rfl⟩ := hu; rfl)
          · unfold maxLen; omega
          · omega
          · simp; omega
          intro v' w5 hown' hgrow _
          have hbel' : Below w.heap.size w w5 := (hbel.alloc hbs _).grown hgrow (by simp; omega) (fun g hg => by simp [Value.ownBlock] at hg; omega)
          obtain ⟨g', c', rfl⟩ := own_someD hown' (by omega)
          have hown2 : w5.ownsRow w.heap.size 5 1 (.slice (some ⟨g', 0, none⟩) (1 + out.length) c') (1 + out.length) (((48 + (d : Int)) :: out).map (Value.int .u8)) := hown'
          clear hgrow hown hbel hown'
          go_wp2
          go_roundw
          case rel => exact ⟨(48 + (d : Int)) :: out, r / 10, g', c', by first | rfl | rw [HBQ.out], by simp [Nat.add_comm], by rw [List.length_cons, Nat.add_comm]; exact hown2, HI.out, HN.out, by omega, hbel'⟩
          case measure => simpa [decM, lenOf, intOf] using HMS.out
        · subst had
          go_wp2_with (at_builtin; refine wpList_append_own _ rfl (.tmp 24) (.tmp 25) 70 rfl w.heap.size 5 i0 (.int .u8 0) 1 1 Tryd.underlying70 hi hz0 hz1 hz2 rfl (by decide) _ _ _ rfl (World.ownsRow_lit wr #[.int .u8 (48 + (d : Int))] 1 hbs (by decide) rfl) ⟨g, 0, none⟩ out.length c (out.map (Value.int .u8)) rfl ?_ ?_ ?_ ?_ ?_ ?_ ?_)
          · simp
          · exact (hown.alloc _).cells rfl
          · intro u hu; simp at hu; try (obtain ⟨x, _, rfl⟩ := hu; rfl)
          · unfold maxLen; omega
          · omega
          · simp; omega
          intro v' w5 hown' hgrow _
          have hbel' : Below w.heap.size w w5 := (hbel.alloc hbs _).grown hgrow (by simp; omega) (fun g hg => by simp [Value.ownBlock] at hg; omega)
          obtain ⟨g', c', rfl⟩ := own_someD hown' (by omega)
          have hown2 : w5.ownsRow w.heap.size 5 1 (.slice (some ⟨g', 0, none⟩) (1 + out.length) c') (1 + out.length) (((48 + (d : Int)) :: out).map (Value.int .u8)) := hown'
          clear hgrow hown hbel hown'
          go_wp2
          go_roundw
          case rel => exact ⟨(48 + (d : Int)) :: out, r / 10, g', c', by first | rfl | rw [HBQ.out], by simp [Nat.add_comm], by rw [List.length_cons, Nat.add_comm]; exact hown2, HI.out, HN.out, by omega, hbel'⟩
          case measure => simpa [decM, lenOf, intOf] using HMS.out
    · have hr0 : r = 0 := Decidable.byContradiction fun e => hgo (.inr e)
      have hne : out ≠ [] := fun e => hgo (.inl e)
      subst hr0
      have hd := hinv.done hne rfl
      have hne3 : ((out.length : Int) == 0) = false := by simpa using hne
      have hl19 := hlen.1
      have e0 : s * ((0 : Nat) : Int) = 0 := by simp
      rw [e0]
      clear e0 hinv hlen hgo
      by_cases hn : n < 0
      · have HD := Lib.hid (show decL n = 45 :: out by unfold decL; rw [if_pos hn, hd])
        clear hd
        go_wp2_with (at_builtin; refine wpList_append_own _ rfl (.tmp 31) (.tmp 32) 70 rfl w.heap.size 5 i0 (.int .u8 0) 1 1 Tryd.underlying70 hi hz0 hz1 hz2 rfl (by decide) _ _ _ rfl (World.ownsRow_lit wr #[.int .u8 45] 1 hbs (by decide) rfl) ⟨g, 0, none⟩ out.length c (out.map (Value.int .u8)) rfl ?_ ?_ ?_ ?_ ?_ ?_ ?_)
        · simp
        · exact (hown.alloc _).cells rfl
        · intro u hu; simp at hu; try (obtain ⟨x, _, rfl⟩ := hu; rfl)
        · unfold maxLen; omega
        · omega
        · simp; omega
        intro v' w5 hown' hgrow _
        have hbel' : Below w.heap.size w w5 := (hbel.alloc hbs _).grown hgrow (by simp; omega) (fun g hg => by simp [Value.ownBlock] at hg; omega)
        obtain ⟨g', c', rfl⟩ := own_someD hown' (by omega)
        have hown2 : w5.ownsRow w.heap.size 5 1 (.slice (some ⟨g', 0, none⟩) (1 + out.length) c') (1 + out.length) ((45 :: out).map (Value.int .u8)) := hown'
        have hcv := own_string hown2 Tryd.underlying70 Tryd.underlying5 Tryd.underlying9
        clear hgrow hown hbel hown' hown2
        go_wp2
        go_ret
        exact ⟨ret_str (by rw [HD.out]), hbel'⟩
      · have HD := Lib.hid (show decL n = out by unfold decL; rw [if_neg hn, hd])
        have hcv := own_string hown Tryd.underlying70 Tryd.underlying5 Tryd.underlying9
        clear hd
        go_wp2
        go_ret
        exact ⟨ret_str (by rw [HD.out]), hbel⟩
theorem l01Dec_any (n : Int) (h0 : -9223372036854775808 ≤ n) (h1 : n ≤ 9223372036854775807) (w : World) :
    Calls Tryd.prog 36 #[.int .i64 n] w fun e w' => e = .returned (.string (strOfNums (decL n))) ∧ Below w.heap.size w w' := by
  by_cases h : n < 0
  · exact l01Dec_sign n (-1) (.inr ⟨rfl, h⟩) h0 h1 w
  · exact l01Dec_sign n 1 (.inl ⟨rfl, by omega⟩) h0 h1 w
end Go.Proofs.YtdpclbmcmgknjabDoor
