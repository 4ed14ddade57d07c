import Derived.Test.YthekkjblgnjmgabDoorChecked
import Derived.WalkKit
import Derived.ProofKit
import Derived.OpenShut
import Derived.ShutString
import Derived.ChangeOld
import Derived.Below
import Derived.Lib.Hide
import Derived.RegionTactic
import Derived.ChangeAlike
import Derived.BigRegion
import Derived.Laws.CopyOwn
import Derived.Deep.AppendLies
import Derived.Test.YthekkjblgnjmgabDoorJr
import Derived.Test.YthekkjblgnjmgabDoorZPlain8
namespace Go.Proofs.YthekkjblgnjmgabDoor
open Go.ChangeShapes Go.WideShapes Go.ChangeAt Go.RowKit
open Go.ChangeMaps (open_string shut_string)
set_option linter.unusedVariables false
set_option maxHeartbeats 1600000 in
set_option maxRecDepth 100000 in
theorem l01Digest_any (s : ByteArray) (w : World) (hs : s.size ≤ 4000) :
    Calls Tryd.prog 12 #[.string s] w fun e w' => e = .returned (.string (strOfNums (digL s))) ∧ Below w.heap.size w w' := by
  obtain ⟨i0, hi, hz0, hz1, hz2⟩ := info_parts Tryd.info_i64
  obtain ⟨i1, hi', hz0', hz1', hz2'⟩ := info_parts Tryd.info_u8
  go_enter Tryd.func12, Tryd.ntmps12
  go_wp2
  go_loopw [3, 4] (fun v i wr => ∃ j : Nat, j ≤ 8 ∧ i = .int .i64 j ∧ wr.ownsRow w.heap.size 2 1 v j ((dInit s.size j).map i64v) ∧ Below w.heap.size w wr) (fun _ i _ => 8 - (intOf i).toNat)
  case atStart => exact ⟨0, by omega, rfl, World.ownsRow_made w #[] 0 (Nat.le_refl _) (by decide) rfl, (Below.refl _ _).alloc (Nat.le_refl _) _⟩
  case round =>
    obtain ⟨j, hj, rfl, hown, hbel⟩ := hrel
    by_cases hlt : j < 8
    · have HI := Lib.hid (dInit_succ s.size j)
      go_wp2_with (at_builtin; refine wpList_append_own _ rfl _ _ 50 rfl w.heap.size 2 i0 (.int .i64 0) 1 8 Tryd.underlying50 hi hz0 hz1 hz2 rfl (by decide) _ _ _ rfl (hown.alloc _) ⟨wr.heap.size, 0, none⟩ 1 1 [.int .i64 ((2654435769 * ((j : Int) + 1) + (s.size : Int)) % 4294967296)] rfl rfl ?c1 ?c2 ?c3 ?c4 ?c5 ?_)
      case c1 => exact cell_one_new _ _ _
      case c2 => intro u hu; simp at hu; subst hu; rfl
      case c3 => unfold maxLen; omega
      case c4 => omega
      case c5 => have := hbel.size; simp; omega
      intro v' w1 hown' hgrow _
      have hbs := hbel.size
      have hbel' : Below w.heap.size w w1 := (hbel.alloc hbs _).grown hgrow (by simp; omega) (fun g hg => (hown.lt g hg).1)
      clear hgrow hown hbel
      go_wp2
      go_roundw
      case rel => exact ⟨j + 1, by omega, by go_num, by rw [HI.out, List.map_append]; exact hown', hbel'⟩
      case measure => simp [intOf]; omega
    · obtain ⟨g, cap, rfl, hgb, hgl⟩ := hown.form (by omega)
      have hown2 : wr.ownsRow w.heap.size 2 1 (.slice (some ⟨g, 0, none⟩) 8 cap) 8 ((dTo s 0).map i64v) := by
        have e : j = 8 := by omega
        subst e
        exact hown
      have e8 : Value.slice (some ⟨g, 0, none⟩) j cap = Value.slice (some ⟨g, 0, none⟩) 8 cap := by rw [show j = 8 by omega]
      clear hown
      rw [e8]
      clear e8
      go_wp2
      go_loopw [5] (fun i wr => ∃ k : Nat, k ≤ s.size + 24 ∧ i = .int .i64 k ∧ wr.ownsRow w.heap.size 2 1 (.slice (some ⟨g, 0, none⟩) 8 cap) 8 ((dTo s k).map i64v) ∧ Below w.heap.size w wr) (fun i _ => s.size + 24 - (intOf i).toNat)
      case atStart => exact ⟨0, by omega, rfl, hown2, hbel⟩
      case round =>
        clear hown2 hbel
        obtain ⟨k, hk, rfl, hown, hbel⟩ := hrel
        by_cases hlt2 : k < s.size + 24
        · by_cases hlt3 : k < s.size
          · have hc : s[k].toNat < 256 := s[k].toNat_lt
            obtain ⟨x, hx, hgx, x0, x1⟩ := (dTo_ok s k).get (k % 8) (by omega)
            obtain ⟨y, hy, hgy, y0, y1⟩ := (dTo_ok s k).get ((k + 7) % 8) (by omega)
            have HM := Lib.hid ((dTo_byte s k hlt3).trans (dMix_eq (c := (s[k].toNat : Int)) hgx hgy))
            have hcx : wr.cell? ⟨g, k % 8, none⟩ = some (.int .i64 x) := by rw [hown.cellAt _ (by omega)]; simp [hx]
            have hcy : wr.cell? ⟨g, (k + 7) % 8, none⟩ = some (.int .i64 y) := by rw [hown.cellAt _ (by omega)]; simp [hy]
            have hfz := hown.frozenAt (k % 8)
            have HO := Lib.hid (And.intro hown hbel)
            clear hx hgx hy hgy hown hbel
            have b1 : (0 : Int) ≤ (k : Int) % 8 := by omega
            have b2 : (k : Int) % 8 < 8 := by omega
            have b3 : (0 : Int) ≤ ((k : Int) + 7) % 8 := by omega
            have b4 : ((k : Int) + 7) % 8 < 8 := by omega
            go_wp2
            go_region
            all_goals
              go_wp2
              go_roundw
              case rel => exact ⟨k + 1, by omega, by go_num, by rw [HM.out, List.map_set]; exact (HO.out.1.stored (k % 8) _).1.drew, (HO.out.2.setCell (by simp; omega) _).drew⟩
              case measure => simp [intOf]; omega
          · obtain ⟨r, rfl⟩ : ∃ r, k = s.size + r := ⟨k - s.size, by omega⟩
            have hlast := dTo_last s (s.size + r) hlt3
            rw [show s.size + r - s.size = r by omega] at hlast
            obtain ⟨x, hx, hgx, x0, x1⟩ := (dTo_ok s (s.size + r)).get (r % 8) (by omega)
            obtain ⟨y, hy, hgy, y0, y1⟩ := (dTo_ok s (s.size + r)).get ((r + 7) % 8) (by omega)
            have HM := Lib.hid (hlast.trans (dMix_eq (c := 7) hgx hgy))
            have hcx : wr.cell? ⟨g, r % 8, none⟩ = some (.int .i64 x) := by rw [hown.cellAt _ (by omega)]; simp [hx]
            have hcy : wr.cell? ⟨g, (r + 7) % 8, none⟩ = some (.int .i64 y) := by rw [hown.cellAt _ (by omega)]; simp [hy]
            have hfz := hown.frozenAt (r % 8)
            have HO := Lib.hid (And.intro hown hbel)
            clear hx hgx hy hgy hown hbel
            clear hlast
            have b1 : (0 : Int) ≤ (r : Int) % 8 := by omega
            have b2 : (r : Int) % 8 < 8 := by omega
            have b3 : (0 : Int) ≤ ((r : Int) + 7) % 8 := by omega
            have b4 : ((r : Int) + 7) % 8 < 8 := by omega
            go_wp2
            go_region
            all_goals
              go_wp2
              go_roundw
              case rel => exact ⟨s.size + r + 1, by omega, by go_num, by rw [HM.out, List.map_set]; exact (HO.out.1.stored (r % 8) _).1.drew, (HO.out.2.setCell (by simp; omega) _).drew⟩
              case measure => simp [intOf]; omega
        · have hfull : dTo s k = dTo s (s.size + 24) := by rw [show k = s.size + 24 by omega]
          rw [hfull] at hown
          clear hfull
          have HK := Lib.hid (dTo_ok s (s.size + 24))
          obtain ⟨wq, rfl⟩ : ∃ wq : World, wq = wr := ⟨_, rfl⟩
          go_wp2
          go_loopw [9, 71] (fun v i w4 => ∃ p : Nat, p ≤ 8 ∧ i = .int .i64 p ∧ w4.ownsRow wq.heap.size 5 1 v (4 * p) ((dOut ((dTo s (s.size + 24)).take p)).map (Value.int .u8)) ∧ Below wq.heap.size wq w4) (fun _ i _ => 8 - (intOf i).toNat)
          case atStart => exact ⟨0, by omega, rfl, World.ownsRow_made wq #[] 0 (Nat.le_refl _) (by decide) rfl, (Below.refl _ _).alloc (Nat.le_refl _) _⟩
          case round =>
            obtain ⟨p, hp, rfl, hout, hb4⟩ := hrel
            have hsz4 := hb4.size
            by_cases hlt4 : p < 8
            · obtain ⟨x, hx, _, x0, x1⟩ := HK.out.get p hlt4
              have HT := Lib.hid (dOut_take (dTo s (s.size + 24)) p x hx)
              have hcx : wr.cell? ⟨g, p, none⟩ = some (.int .i64 x) := by rw [(own_below hown hb4 (Nat.le_refl _)).cellAt _ (by omega)]; simp [hx]
              clear hx
              go_wp2_with (at_builtin; refine wpList_append_own _ rfl _ _ 42 rfl wq.heap.size 5 i1 (.int .u8 0) 1 1 Tryd.underlying42 hi' hz0' hz1' hz2' rfl (by decide) _ _ _ rfl (hout.alloc _) ⟨wr.heap.size, 0, none⟩ 4 4 [.int .u8 (x / 16777216), .int .u8 (x / 65536 % 256), .int .u8 (x / 256 % 256), .int .u8 (x % 256)] rfl rfl ?d1 ?d2 ?d3 ?d4 ?d5 ?_)
              case d1 => exact World.news_of_block (cs := #[_, _, _, _]) (t := 5) (fr := (0, 0)) (heap_alloc_new wr _)
              case d2 => intro u hu; simp at hu; rcases hu with rfl | rfl | rfl | rfl <;> rfl
              case d3 => unfold maxLen; omega
              case d4 => omega
              case d5 => simp; omega
              intro v' w5 hout' hgrow _
              have hb5 : Below wq.heap.size wq w5 := (hb4.alloc hsz4 _).grown hgrow (by simp; omega) (fun g hg => (hout.lt g hg).1)
              clear hgrow hout hb4 hcx
              go_wp2
              go_roundw
              case rel => exact ⟨p + 1, by omega, by go_num, by rw [HT.out, List.map_append]; exact hout', hb5⟩
              case measure => simp [intOf]; omega
            · have hfull : dOut ((dTo s (s.size + 24)).take p) = digL s := by
                rw [List.take_of_length_le (by rw [HK.out.1]; omega)]; rfl
              rw [hfull] at hout
              clear hfull
              have hcv := own_string hout Tryd.underlying42 Tryd.underlying5 Tryd.underlying9
              have hbf := hbel.trans (hb4.mono hbel.size)
              go_wp2
              go_ret
              exact ⟨rfl, hbf⟩
end Go.Proofs.YthekkjblgnjmgabDoor
