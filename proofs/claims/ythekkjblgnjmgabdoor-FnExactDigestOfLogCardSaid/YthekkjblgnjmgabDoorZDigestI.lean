import Derived.Test.YthekkjblgnjmgabDoorChecked
import Derived.WalkKit
import Derived.ProofKit
import Derived.OpenShut
import Derived.ShutString
import Derived.ChangeOld
import Derived.Below
import Derived.Lib.Hide
import Derived.RegionTactic
import Derived.ChangeAlike
import Derived.BigRegion
import Derived.Laws.CopyOwn
import Derived.Test.YthekkjblgnjmgabDoorJr
import Derived.Test.YthekkjblgnjmgabDoorZPlain8
namespace Go.Proofs.YthekkjblgnjmgabDoor
open Go.ChangeShapes Go.WideShapes Go.ChangeAt Go.RowKit
open Go.ChangeMaps (open_string shut_string)
set_option linter.unusedVariables false
def u32v : Int → Value := fun x => Value.int .u32 x
def wCs (ws : List Int) : Array Value := (ws.map u32v).toArray
theorem wCs_set (ws : List Int) (j : Nat) (x : Int) : (wCs ws).setIfInBounds j (.int .u32 x) = wCs (ws.set j x) := by
  apply Array.ext'
  simp [wCs, u32v, List.map_set]
theorem wCs_size (ws : List Int) : (wCs ws).size = ws.length := by simp [wCs]
theorem wCs_one (ws : List Int) : (wCs ws).all (·.oneCell') = true := by
  rw [Array.all_eq_true_iff_forall_mem]
  intro v hv
  simp only [wCs, List.mem_toArray, List.mem_map] at hv
  obtain ⟨x, _, rfl⟩ := hv
  rfl
set_option maxHeartbeats 800000 in
set_option maxRecDepth 100000 in
theorem mixWord_any (g : Nat) (ws : List Int) (idx : Nat) (c : Int) (w : World) (h : Blk w g 83 (wCs ws)) (hw : IsWords ws) (hidx : idx ≤ 1000000) (c0 : 0 ≤ c) (c1 : c < 256) :
    Calls Tryd.prog 52 #[.pointer (some ⟨g, 0, none⟩), .int .i64 idx, .int .u8 c] w fun e w' => e = .returned (.tuple #[]) ∧ Blk w' g 83 (wCs (dMix c ws idx)) ∧ w.grownBy w' (some g) ∧ w'.heap.size = w.heap.size := by
  obtain ⟨x, hx, hgx, x0, x1⟩ := hw.get (idx % 8) (by omega)
  obtain ⟨y, hy, hgy, y0, y1⟩ := hw.get ((idx + 7) % 8) (by omega)
  have HM := Lib.hid (dMix_eq (c := c) hgx hgy)
  have hcx : w.cell? ⟨g, idx % 8, none⟩ = some (.int .u32 x) := by rw [h.cell]; simp [wCs, hx, u32v]
  have hcy : w.cell? ⟨g, (idx + 7) % 8, none⟩ = some (.int .u32 y) := by rw [h.cell]; simp [wCs, hy, u32v]
  have hfz := h.frozen (idx % 8)
  have H := Lib.hid h
  clear hx hgx hy hgy h hw
  have b1 : (0 : Int) ≤ (idx : Int) % 8 := by omega
  have b2 : (idx : Int) % 8 < 8 := by omega
  have b3 : (0 : Int) ≤ ((idx : Int) + 7) % 8 := by omega
  have b4 : ((idx : Int) + 7) % 8 < 8 := by omega
  go_enter Tryd.func52, Tryd.ntmps52
  go_wp2
  go_region
  all_goals
    go_end0
    refine ⟨rfl, ?_, ?_, ?_⟩
    · rw [HM.out, ← wCs_set]
      exact (H.out.set_ (idx % 8) _).drew
    · exact ⟨rfl, rfl, rfl, by simp, fun j hj hne => heap_setCell_other w ⟨g, idx % 8, none⟩ j _ (fun e => hne (by simp [e]))⟩
    · simp

theorem Tryd.size_arr8 : (Tryd.prog.info? 83).map (·.size) = some 8 := by kernel_rfl
theorem Tryd.size_arr32 : (Tryd.prog.info? 68).map (·.size) = some 32 := by kernel_rfl
def dZero : Array Value := #[.int .u8 0, .int .u8 0, .int .u8 0, .int .u8 0, .int .u8 0, .int .u8 0, .int .u8 0, .int .u8 0, .int .u8 0, .int .u8 0, .int .u8 0, .int .u8 0, .int .u8 0, .int .u8 0, .int .u8 0, .int .u8 0,
  .int .u8 0, .int .u8 0, .int .u8 0, .int .u8 0, .int .u8 0, .int .u8 0, .int .u8 0, .int .u8 0, .int .u8 0, .int .u8 0, .int .u8 0, .int .u8 0, .int .u8 0, .int .u8 0, .int .u8 0, .int .u8 0]
def iCs (n j : Nat) : Array Value := ((dInit n j).map u32v ++ List.replicate (8 - j) (Value.int .u32 0)).toArray
theorem iCs_at (n j : Nat) (hj : j < 8) : (iCs n j)[j]? = some (.int .u32 0) := by
  simp [iCs, dInit_len, List.getElem?_append_right, List.getElem?_replicate]; omega
theorem iCs_succ (n j : Nat) (hj : j < 8) : (iCs n j).setIfInBounds j (.int .u32 ((2654435769 * ((j : Int) + 1) + (n : Int)) % 4294967296)) = iCs n (j + 1) := by
  apply Array.ext'
  simp only [iCs, dInit_succ, Array.toList_setIfInBounds, List.map_append, List.append_assoc]
  obtain ⟨r, hr⟩ : ∃ r, 8 - j = r + 1 := ⟨7 - j, by omega⟩
  rw [hr, show 8 - (j + 1) = r by omega, List.set_append_right _ _ (by simp [dInit_len]), List.replicate_succ]
  simp [dInit_len, u32v]
theorem iCs_full (n : Nat) : iCs n 8 = wCs (dInit n 8) := by simp [iCs, wCs]
def oCs (ws : List Int) (p : Nat) : Array Value := ((dOut (ws.take p)).map (Value.int .u8) ++ List.replicate (32 - 4 * p) (Value.int .u8 0)).toArray
theorem oCs_len (ws : List Int) (p : Nat) (hl : ws.length = 8) (hp : p ≤ 8) : (dOut (ws.take p)).length = 4 * p := by rw [dOut_len, List.length_take]; omega
theorem oCs_size (ws : List Int) (p : Nat) (hl : ws.length = 8) (hp : p ≤ 8) : (oCs ws p).size = 32 := by
  have := oCs_len ws p hl hp
  simp [oCs, this]; omega
theorem oCs_at (ws : List Int) (p i : Nat) (hl : ws.length = 8) (hp : p ≤ 8) (hi : i < 32) : ∃ v, (oCs ws p)[i]? = some v :=
  ⟨_, Array.getElem?_eq_getElem (by rw [oCs_size ws p hl hp]; exact hi)⟩
theorem oCs_succ (ws : List Int) (p : Nat) (x : Int) (hx : ws[p]? = some x) (hp : p < 8) (hl : ws.length = 8) :
    ((((oCs ws p).setIfInBounds (4 * p) (.int .u8 (x / 16777216))).setIfInBounds (4 * p + 1) (.int .u8 (x / 65536 % 256))).setIfInBounds (4 * p + 2) (.int .u8 (x / 256 % 256))).setIfInBounds (4 * p + 3) (.int .u8 (x % 256)) = oCs ws (p + 1) := by
  have hlen := oCs_len ws p hl (by omega)
  apply Array.ext'
  simp only [oCs, dOut_take ws p x hx, Array.toList_setIfInBounds, List.map_append, List.append_assoc]
  obtain ⟨r, hr⟩ : ∃ r, 32 - 4 * p = r + 4 := ⟨28 - 4 * p, by omega⟩
  rw [hr, show 32 - 4 * (p + 1) = r by omega]
  rw [List.set_append_right _ _ (by simp [hlen]), List.set_append_right _ _ (by simp [hlen]), List.set_append_right _ _ (by simp [hlen]), List.set_append_right _ _ (by simp [hlen])]
  simp [hlen, List.replicate_succ, show 4 * p + 1 - 4 * p = 1 by omega, show 4 * p + 2 - 4 * p = 2 by omega, show 4 * p + 3 - 4 * p = 3 by omega]
theorem index_words (ws : List Int) (p : Nat) (x : Int) (W : World) (hx : ws[p]? = some x) (hp : p < 8) :
    (Instr.index 83 (.agg (wCs ws)) (.int .i64 p)).run Tryd.prog W = .ok (.int .u32 x) W := by
  have hsz : ∀ w, (sizeOf 82).run Tryd.prog w = .ok 1 w := fun _ => by kernel_rfl
  have he : Tryd.prog.underlying 82 = some (.int .u32) := Tryd.underlying82
  have hc : (wCs ws)[p]? = some (.int .u32 x) := by simp [wCs, hx, u32v]
  have hb : 0 ≤ (p : Int) ∧ (p : Int) < ((8 : Nat) : Int) := by omega
  simp [Instr.index, run_underlying Tryd.underlying83, asIntOf, hsz, part, isAgg, run_underlying he, hc, hp]
set_option maxHeartbeats 1600000 in
set_option maxRecDepth 100000 in
theorem digestBytes_any (s : ByteArray) (w : World) (hs : s.size ≤ 4000) :
    Calls Tryd.prog 32 #[.string s] w fun e w' => e = .returned (.agg ((digL s).map (Value.int .u8)).toArray) ∧ Below w.heap.size w w' ∧ w.heap.size ≤ w'.heap.size := by
  go_enter Tryd.func32, Tryd.ntmps32
  go_wp2
  go_loopw [11] (fun i wr => ∃ j : Nat, j ≤ 8 ∧ i = .int .i64 j ∧ Blk wr w.heap.size 68 dZero ∧ Blk wr (w.heap.size + 1) 83 (iCs s.size j) ∧ Below w.heap.size w wr ∧ wr.heap.size = w.heap.size + 2) (fun i _ => 8 - (intOf i).toNat)
  case atStart =>
    exact ⟨0, by omega, rfl, heap_alloc2_old w _ _, heap_alloc2_new w _ _, ((Below.refl _ _).alloc (Nat.le_refl _) _).alloc (by simp) _, by simp⟩
  case round =>
    obtain ⟨j, hj, rfl, hb0, hb1, hbel, hsz⟩ := hrel
    by_cases hlt : j < 8
    · have HI := Lib.hid (iCs_succ s.size j hlt)
      have hcell := (hb1.cell j).trans (iCs_at s.size j hlt)
      have hfz := hb1.frozen j
      have HB := Lib.hid (And.intro hb0 (And.intro hb1 (And.intro hbel hsz)))
      clear hb0 hb1 hbel hsz
      go_wp2
      go_roundw
      case rel =>
        obtain ⟨hb0, hb1, hbel, hsz⟩ := HB.out
        exact ⟨j + 1, by omega, by go_num, hb0.far (by simp) _, by rw [← HI.out]; exact hb1.set_ j _, hbel.setCell (by simp) _, by simpa using hsz⟩
      case measure => simp [intOf]; omega
    · have hfull : iCs s.size j = wCs (dTo s 0) := by
        have hj8 : j = 8 := by omega
        rw [hj8, iCs_full]; rfl
      rw [hfull] at hb1
      clear hfull
      go_wp2
      go_loopw [27] (fun i wr => ∃ k : Nat, k ≤ s.size ∧ i = .int .i64 k ∧ Blk wr w.heap.size 68 dZero ∧ Blk wr (w.heap.size + 1) 83 (wCs (dTo s k)) ∧ Below w.heap.size w wr ∧ wr.heap.size = w.heap.size + 2) (fun i _ => s.size - (intOf i).toNat)
      case atStart => exact ⟨0, by omega, rfl, hb0, hb1, hbel, hsz⟩
      case round =>
        clear hb0 hb1 hbel hsz
        obtain ⟨k, hk, rfl, hb0, hb1, hbel, hsz⟩ := hrel
        by_cases hlt2 : k < s.size
        · have hc : s[k].toNat < 256 := s[k].toNat_lt
          have HT := Lib.hid (dTo_byte s k hlt2)
          have HB := Lib.hid (And.intro hb0 (And.intro hb1 (And.intro hbel hsz)))
          clear hb0 hb1 hbel hsz
          go_wp2_with (go_at_call 52; refine (mixWord_any _ _ _ _ _ HB.out.2.1 (dTo_ok s k) (by omega) (by omega) (by omega)).mono ?_; rintro e w1 ⟨rfl, hm1, hm2, hm3⟩; have HM := Lib.hid (And.intro hm1 (And.intro hm2 hm3)); clear hm1 hm2 hm3)
          go_roundw
          case rel =>
            obtain ⟨hb0, hb1, hbel, hsz⟩ := HB.out
            obtain ⟨hm1, hm2, hm3⟩ := HM.out
            exact ⟨k + 1, by omega, by go_num, hb0.grown hm2 (by simp), by rw [HT.out]; exact hm1, hbel.grown hm2 (by omega) (by simp), hm3.trans hsz⟩
          case measure => simp [intOf]; omega
        · have hfull : dTo s k = dTo s (s.size + 0) := by rw [show k = s.size + 0 by omega]
          rw [hfull] at hb1
          clear hfull
          go_wp2
          go_loopw [36] (fun i wr => ∃ r : Nat, r ≤ 24 ∧ i = .int .i64 r ∧ Blk wr w.heap.size 68 dZero ∧ Blk wr (w.heap.size + 1) 83 (wCs (dTo s (s.size + r))) ∧ Below w.heap.size w wr ∧ wr.heap.size = w.heap.size + 2) (fun i _ => 24 - (intOf i).toNat)
          case atStart => exact ⟨0, by omega, rfl, hb0, hb1, hbel, hsz⟩
          case round =>
            clear hb0 hb1 hbel hsz
            obtain ⟨r, hr, rfl, hb0, hb1, hbel, hsz⟩ := hrel
            by_cases hlt3 : r < 24
            · have ht := dTo_last s (s.size + r) (by omega)
              rw [show s.size + r - s.size = r by omega] at ht
              have HT := Lib.hid ht
              have HB := Lib.hid (And.intro hb0 (And.intro hb1 (And.intro hbel hsz)))
              clear hb0 hb1 hbel hsz ht
              go_wp2_with (go_at_call 52; refine (mixWord_any _ _ _ _ _ HB.out.2.1 (dTo_ok s (s.size + r)) (by omega) (by omega) (by omega)).mono ?_; rintro e w1 ⟨rfl, hm1, hm2, hm3⟩; have HM := Lib.hid (And.intro hm1 (And.intro hm2 hm3)); clear hm1 hm2 hm3)
              go_roundw
              case rel =>
                obtain ⟨hb0, hb1, hbel, hsz⟩ := HB.out
                obtain ⟨hm1, hm2, hm3⟩ := HM.out
                exact ⟨r + 1, by omega, by go_num, hb0.grown hm2 (by simp), by rw [show s.size + (r + 1) = s.size + r + 1 by omega, HT.out]; exact hm1, hbel.grown hm2 (by omega) (by simp), hm3.trans hsz⟩
              case measure => simp [intOf]; omega
            · have hfull : dTo s (s.size + r) = dTo s (s.size + 24) := by rw [show r = 24 by omega]
              rw [hfull] at hb1
              clear hfull
              have hok := dTo_ok s (s.size + 24)
              have HK := Lib.hid hok
              go_wp2_with (refine wpList_load_row rfl 83 (.tmp 3) rfl (w.heap.size + 1) rfl 83 (wCs (dTo s (s.size + 24))) (0, 0) _ (hb1.alloc _) Tryd.underlying83 rfl (by rw [wCs_size, HK.out.1]; exact Tryd.size_arr8) ?_)
              have hz32 : Blk (wr.alloc (.cells dZero 68)) wr.heap.size 68 dZero := Blk.new wr _ _
              rw [hsz, dZero] at hz32
              have hb0' := hb0.alloc (.cells dZero 68)
              have hbel' := hbel.alloc (by omega) (.cells dZero 68)
              rw [dZero] at hb0' hbel'
              have HQ := Lib.hid (And.intro hz32 (And.intro hb0' (And.intro hbel' hsz)))
              clear hz32 hb0' hbel' hsz hb0 hb1 hbel hok
              go_loopw [43] (fun i w4 => ∃ p : Nat, p ≤ 8 ∧ i = .int .i64 p ∧ Blk w4 w.heap.size 68 dZero ∧ Blk w4 (w.heap.size + 2) 68 (oCs (dTo s (s.size + 24)) p) ∧ Below w.heap.size w w4) (fun i _ => 8 - (intOf i).toNat)
              case atStart =>
                exact ⟨0, by omega, rfl, HQ.out.2.1, HQ.out.1, HQ.out.2.2.1⟩
              case round =>
                obtain ⟨p, hp, rfl, hb0, hb2, hbel⟩ := hrel
                clear HQ
                by_cases hlt4 : p < 8
                · obtain ⟨x, hx, _, x0, x1⟩ := HK.out.get p hlt4
                  have HO := Lib.hid (oCs_succ (dTo s (s.size + 24)) p x hx hlt4 HK.out.1)
                  have hix := fun W => index_words (dTo s (s.size + 24)) p x W hx hlt4
                  clear hx
                  obtain ⟨c0, hc0⟩ := oCs_at (dTo s (s.size + 24)) p (4 * p) HK.out.1 hp (by omega)
                  obtain ⟨c1, hc1⟩ := oCs_at (dTo s (s.size + 24)) p (4 * p + 1) HK.out.1 hp (by omega)
                  obtain ⟨c2, hc2⟩ := oCs_at (dTo s (s.size + 24)) p (4 * p + 2) HK.out.1 hp (by omega)
                  obtain ⟨c3, hc3⟩ := oCs_at (dTo s (s.size + 24)) p (4 * p + 3) HK.out.1 hp (by omega)
                  have g0 := (hb2.cell (4 * p)).trans hc0
                  have g1 := (hb2.cell (4 * p + 1)).trans hc1
                  have g2 := (hb2.cell (4 * p + 2)).trans hc2
                  have g3 := (hb2.cell (4 * p + 3)).trans hc3
                  have f0 := hb2.frozen (4 * p)
                  have f1 := hb2.frozen (4 * p + 1)
                  have f2 := hb2.frozen (4 * p + 2)
                  have f3 := hb2.frozen (4 * p + 3)
                  have HB := Lib.hid (And.intro hb0 (And.intro hb2 hbel))
                  clear hc0 hc1 hc2 hc3 hb0 hb2 hbel
                  go_wp2
                  refine wp_loop_rounds 5 ?_
                  rw [rounds_succ]; go_wp2
                  rw [rounds_succ]; go_wp2
                  rw [rounds_succ]; go_wp2
                  rw [rounds_succ]; go_wp2
                  rw [rounds_succ]; go_wp2
                  go_roundw
                  case rel =>
                    obtain ⟨hb0, hb2, hbel⟩ := HB.out
                    exact ⟨p + 1, by omega, by go_num, (((hb0.far (by simp) _).far (by simp) _).far (by simp) _).far (by simp) _, by rw [← HO.out]; exact (((hb2.set_ _ _).set_ _ _).set_ _ _).set_ _ _, (((hbel.setCell (by simp) _).setCell (by simp) _).setCell (by simp) _).setCell (by simp) _⟩
                  case measure => simp [intOf]; omega
                · have hfull : oCs (dTo s (s.size + 24)) p = ((digL s).map (Value.int .u8)).toArray := by
                    rw [show p = 8 by omega, oCs, digL, List.take_of_length_le (by rw [HK.out.1]; exact Nat.le_refl _)]
                    simp
                  rw [hfull] at hb2
                  clear hfull
                  have hsz32 : (((digL s).map (Value.int .u8)).toArray).size = 32 := by simp [digL_len]
                  have HS := Lib.hid hsz32
                  clear hsz32
                  go_wp2_with (first | (refine wpList_load_row rfl 68 (.tmp 7) rfl (w.heap.size + 2) rfl 68 _ (0, 0) _ hb2 Tryd.underlying68 rfl (by rw [HS.out]; exact Tryd.size_arr32) ?_) | (refine wpList_store_row rfl 68 (.tmp 2) (.tmp 63) rfl w.heap.size (((digL s).map (Value.int .u8)).toArray) rfl rfl 68 dZero hb0 (by rw [HS.out]; exact Tryd.size_arr32) (by rw [HS.out]; rfl) (by rw [Array.all_eq_true_iff_forall_mem]; intro v hv; exact one_u8 _ v (by simpa using hv)) ?_))
                  refine bodyPost_ret (v := .agg ((digL s).map (Value.int .u8)).toArray) (results_cell_row (P := Tryd.prog) Tryd.results32 _ _ w.heap.size 68 _ (0, 0) _ rfl (setRow_heap _ w.heap.size _ _ 68 (0, 0) hb0) Tryd.underlying68 rfl (by rw [HS.out]; exact Tryd.size_arr32)) rfl ⟨rfl, ?_, ?_⟩
                  · exact below_setRow hbel (Nat.le_refl _) _
                  · have := hbel.size; simpa using this
theorem impl_DigestOf_no (s : ByteArray) (w : World) (hs : 4000 < s.size) :
    Calls Tryd.prog 18 #[.string s] w fun e w' => e = .returned (.tuple #[.string ⟨#[]⟩, .bool false]) ∧ w = w' := by
  go_enter Tryd.func18, Tryd.ntmps18
  go_wp2
  go_ret2
  exact ⟨rfl, rfl⟩
set_option maxHeartbeats 800000 in
set_option maxRecDepth 100000 in
theorem impl_DigestOf_yes (s : ByteArray) (w : World) (hs : s.size ≤ 4000) :
    Calls Tryd.prog 18 #[.string s] w fun e w' => e = .returned (.tuple #[.string (strOfNums (digL s)), .bool true]) ∧ Below w.heap.size w w' := by
  go_enter Tryd.func18, Tryd.ntmps18
  go_wp2_with fail
  go_at_call 32; refine (digestBytes_any _ _ hs).mono ?_; rintro e w1 ⟨rfl, hbel, hsz⟩
  have hsz32 : (((digL s).map (Value.int .u8)).toArray).size = 32 := by simp [digL_len]
  have HS := Lib.hid hsz32
  clear hsz32
  have hg : Blk (w1.alloc (.cells dZero 68)) w1.heap.size 68 dZero := heap_alloc_new w1 _
  have hbelA : Below w.heap.size w ((w1.alloc (.cells dZero 68)).setRow w1.heap.size ((digL s).map (Value.int .u8)).toArray) := below_setRow (hbel.alloc hsz _) hsz _
  have hgA : Blk ((w1.alloc (.cells dZero 68)).setRow w1.heap.size ((digL s).map (Value.int .u8)).toArray) w1.heap.size 68 ((digL s).map (Value.int .u8)).toArray := setRow_heap _ w1.heap.size _ _ 68 (0, 0) hg
  rw [dZero] at hg hbelA hgA
  have HA := Lib.hid (And.intro hbelA hgA)
  have HG := Lib.hid hg
  clear hbelA hgA hg
  go_wp2_with (refine wpList_store_row rfl 68 (.tmp 4) (.tmp 9) rfl w1.heap.size (((digL s).map (Value.int .u8)).toArray) rfl rfl 68 _ HG.out (by rw [HS.out]; exact Tryd.size_arr32) (by rw [HS.out]; rfl) (by rw [Array.all_eq_true_iff_forall_mem]; intro v hv; exact one_u8 _ v (by simpa using hv)) ?_; have hA := HA.out; revert hA; generalize World.setRow _ _ _ = w2; intro hA; obtain ⟨hB2, hb2⟩ := hA; have hcv := fun cap => blk_string (P := Tryd.prog) (n := 32) (cap := cap) hb2 (by simp) (digL_len s) Tryd.underlying42 Tryd.underlying5 Tryd.underlying9)
  go_ret2
  exact ⟨rfl, hB2⟩
end Go.Proofs.YthekkjblgnjmgabDoor
