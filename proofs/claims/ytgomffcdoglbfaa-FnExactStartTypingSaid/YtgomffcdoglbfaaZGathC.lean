import Derived.Test.YtgomffcdoglbfaaChecked
import Derived.WalkKit
import Derived.ProofKit
import Derived.OpenShut
import Derived.ShutString
import Derived.ChangeOld
import Derived.Below
import Derived.Lib.Hide
import Derived.StillTailTactics
import Derived.Maps.OwnSet
import Derived.Maps.OwnOps
import Derived.Test.YtgomffcdoglbfaaZRollS
import Derived.Test.YtgomffcdoglbfaaZPresT
import Derived.Test.YtgomffcdoglbfaaJp
namespace Go.Proofs.Ytgomffcdoglbfaa
open Go.ChangeShapes Go.WideShapes Go.ChangeAt Go.RowKit
open Go.ChangeMaps (open_string shut_string)
set_option linter.unusedVariables false
open Go.Maps
set_option maxRecDepth 100000
theorem wf_of_mem {bs : List Bn} (h : memB (bids bs) = true) : WfB bs := fun z hz => wf_id (memB_id h (List.mem_map_of_mem hz))
theorem Stir.next {w wr w' : World} {ks ls : List Nat} (h : Stir w wr ks) (h2 : Stir wr w' ls) (hk : ∀ k ∈ ls, k ∈ ks ∨ w.heap.size ≤ k) : Stir w w' ks :=
  ⟨h2.os.trans h.os, h2.tape.trans h.tape, h2.output.trans h.output, Nat.le_trans h.size h2.size, fun k hlt hn => (h2.block k (Nat.lt_of_lt_of_le hlt h.size) (fun hm => by
    rcases hk k hm with hm | hm
    · exact hn hm
    · omega)).trans (h.block k hlt hn)⟩
theorem tell_any (base g N : Nat) (xs : List Wt) (t n : Int) (w : World) (h : WatchAt w base g N xs) (hB : base ≤ w.heap.size) (hN : N ≤ 1000000) (wft : (Lit.int .i64 t).wf = true) :
    Calls Try.prog 74 #[.map (some g), .int .i64 t, .int .i64 n] w fun e w' => e = .returned (.tuple #[]) ∧ ∃ (xs' : List Wt) (N' : Nat), N' ≤ N + 1 ∧ WatchAt w' base g N' xs' ∧ wbs xs' = tellB (wbs xs) t n ∧ Stir w w' (wblk g xs) ∧ ∀ k ∈ wblk g xs', k ∈ wblk g xs ∨ w.heap.size ≤ k := by
  cases hf : findW xs t with
  | some x =>
    refine (tell_in base g N xs t n x w h hf wft).mono ?_
    rintro e w' ⟨rfl, hw, hs⟩
    refine ⟨rfl, _, N, by omega, hw, set_tell h.rise hf, hs, fun k hk => .inl ?_⟩
    unfold wblk at hk ⊢
    rwa [set_chs] at hk
  | none =>
    refine (tell_new base g N xs t n w h hB hN hf wft).mono ?_
    rintro e w' ⟨rfl, hw, hs⟩
    refine ⟨rfl, _, N + 1, by omega, hw, new_tell _ hf, hs, fun k hk => ?_⟩
    rcases List.mem_cons.1 hk with rfl | hk
    · exact .inl (List.mem_cons_self ..)
    · obtain ⟨x, hx, rfl⟩ := List.mem_map.1 hk
      rcases put_mem.1 hx with rfl | ⟨hx, _⟩
      · exact .inr (Nat.le_refl _)
      · exact .inl (List.mem_cons_of_mem _ (List.mem_map_of_mem hx))
/-- a gathering: its three watches apart -/
structure GathAt (w : World) (base G g1 N1 : Nat) (xs : List Wt) (g2 N2 : Nat) (ys : List Wt) (g3 N3 : Nat) (zs : List Wt) : Prop where
  lo : base ≤ G
  blk : Blk w G 109 #[.map (some g1), .map (some g2), .map (some g3)]
  w1 : WatchAt w base g1 N1 xs
  w2 : WatchAt w base g2 N2 ys
  w3 : WatchAt w base g3 N3 zs
  d12 : ∀ k ∈ wblk g1 xs, k ∉ wblk g2 ys
  d13 : ∀ k ∈ wblk g1 xs, k ∉ wblk g3 zs
  d23 : ∀ k ∈ wblk g2 ys, k ∉ wblk g3 zs
def gblk (g1 : Nat) (xs : List Wt) (g2 : Nat) (ys : List Wt) (g3 : Nat) (zs : List Wt) : List Nat := wblk g1 xs ++ (wblk g2 ys ++ wblk g3 zs)
section
variable {w w' : World} {base G g1 N1 g2 N2 g3 N3 N' : Nat} {xs ys zs xs' : List Wt}
theorem GathAt.below (h : GathAt w base G g1 N1 xs g2 N2 ys g3 N3 zs) (hb : Below w.heap.size w w') : GathAt w' base G g1 N1 xs g2 N2 ys g3 N3 zs := ⟨h.lo, h.blk.below hb h.blk.lt, h.w1.below hb, h.w2.below hb, h.w3.below hb, h.d12, h.d13, h.d23⟩
theorem GathAt.far {g t : Nat} {cs : Array Value} (h : GathAt w base G g1 N1 xs g2 N2 ys g3 N3 zs) (hk : Blk w g t cs) : g ∉ gblk g1 xs g2 ys g3 zs := by
  unfold gblk
  simp only [List.mem_append, not_or]
  exact ⟨h.w1.not_blk hk, h.w2.not_blk hk, h.w3.not_blk hk⟩
theorem GathAt.all (h : GathAt w base G g1 N1 xs g2 N2 ys g3 N3 zs) : ∀ k ∈ gblk g1 xs g2 ys g3 zs, base ≤ k ∧ k < w.heap.size := fun k hk => by
  unfold gblk at hk
  rcases List.mem_append.1 hk with hk | hk
  · exact h.w1.lt k hk
  · rcases List.mem_append.1 hk with hk | hk
    · exact h.w2.lt k hk
    · exact h.w3.lt k hk
theorem GathAt.put1 (h : GathAt w base G g1 N1 xs g2 N2 ys g3 N3 zs) (hw : WatchAt w' base g1 N' xs') (hs : Stir w w' (wblk g1 xs)) (hn : ∀ k ∈ wblk g1 xs', k ∈ wblk g1 xs ∨ w.heap.size ≤ k) : GathAt w' base G g1 N' xs' g2 N2 ys g3 N3 zs := by
  refine ⟨h.lo, hs.blk h.blk (h.w1.not_blk h.blk), hw, h.w2.stir hs (fun k hk hm => h.d12 k hm hk), h.w3.stir hs (fun k hk hm => h.d13 k hm hk), ?_, ?_, ?_⟩
  · exact fun k hk hm => by
      rcases hn k hk with hk | hk
      · exact h.d12 k hk hm
      · have := (h.w2.lt k hm).2; omega
  · exact fun k hk hm => by
      rcases hn k hk with hk | hk
      · exact h.d13 k hk hm
      · have := (h.w3.lt k hm).2; omega
  · exact h.d23
theorem gblk_1 {k : Nat} (h : k ∈ wblk g1 xs) : k ∈ gblk g1 xs g2 ys g3 zs := by unfold gblk; simp only [List.mem_append]; exact .inl h
theorem GathAt.put2 (h : GathAt w base G g1 N1 xs g2 N2 ys g3 N3 zs) (hw : WatchAt w' base g2 N' xs') (hs : Stir w w' (wblk g2 ys)) (hn : ∀ k ∈ wblk g2 xs', k ∈ wblk g2 ys ∨ w.heap.size ≤ k) : GathAt w' base G g1 N1 xs g2 N' xs' g3 N3 zs := by
  refine ⟨h.lo, hs.blk h.blk (h.w2.not_blk h.blk), h.w1.stir hs (fun k hk hm => h.d12 k hk hm), hw, h.w3.stir hs (fun k hk hm => h.d23 k hm hk), ?_, ?_, ?_⟩
  · exact fun k hk hm => by
      rcases hn k hm with hm | hm
      · exact h.d12 k hk hm
      · have := (h.w1.lt k hk).2; omega
  · exact h.d13
  · exact fun k hk hm => by
      rcases hn k hk with hk | hk
      · exact h.d23 k hk hm
      · have := (h.w3.lt k hm).2; omega
theorem gblk_2 {k : Nat} (h : k ∈ wblk g2 ys) : k ∈ gblk g1 xs g2 ys g3 zs := by unfold gblk; simp only [List.mem_append]; exact .inr (.inl h)
theorem GathAt.put3 (h : GathAt w base G g1 N1 xs g2 N2 ys g3 N3 zs) (hw : WatchAt w' base g3 N' xs') (hs : Stir w w' (wblk g3 zs)) (hn : ∀ k ∈ wblk g3 xs', k ∈ wblk g3 zs ∨ w.heap.size ≤ k) : GathAt w' base G g1 N1 xs g2 N2 ys g3 N' xs' := by
  refine ⟨h.lo, hs.blk h.blk (h.w3.not_blk h.blk), h.w1.stir hs (fun k hk hm => h.d13 k hk hm), h.w2.stir hs (fun k hk hm => h.d23 k hk hm), hw, ?_, ?_, ?_⟩
  · exact h.d12
  · exact fun k hk hm => by
      rcases hn k hm with hm | hm
      · exact h.d13 k hk hm
      · have := (h.w1.lt k hk).2; omega
  · exact fun k hk hm => by
      rcases hn k hm with hm | hm
      · exact h.d23 k hk hm
      · have := (h.w2.lt k hk).2; omega
theorem gblk_3 {k : Nat} (h : k ∈ wblk g3 zs) : k ∈ gblk g1 xs g2 ys g3 zs := by unfold gblk; simp only [List.mem_append]; exact .inr (.inr h)
end
set_option maxHeartbeats 12800000 in
theorem join_any (base G g1 N1 : Nat) (xs : List Wt) (g2 N2 : Nat) (ys : List Wt) (g3 N3 : Nat) (zs : List Wt) (B : Nat) (A1 A2 A3 : Option Addr) (n1 c1 n2 c2 n3 c3 : Nat) (hs ts ks : List Bn) (w : World) (h : GathAt w base G g1 N1 xs g2 N2 ys g3 N3 zs) (hP : PresAt w B A1 n1 A2 n2 A3 n3 hs ts ks) (hB : B ≤ base) (hbw : base ≤ w.heap.size) (hn : n1 ≤ 1000 ∧ n2 ≤ 1000 ∧ n3 ≤ 1000) (hN : N1 ≤ 1000 ∧ N2 ≤ 1000 ∧ N3 ≤ 1000) (wf1 : WfB hs) (wf2 : WfB ts) (wf3 : WfB ks) :
    Calls Try.prog 127 #[.pointer (some ⟨G, 0, none⟩), .agg #[.slice A1 n1 c1, .slice A2 n2 c2, .slice A3 n3 c3]] w fun e w' => e = .returned (.tuple #[]) ∧ ∃ (xs' ys' zs' : List Wt) (N1' N2' N3' : Nat), GathAt w' base G g1 N1' xs' g2 N2' ys' g3 N3' zs' ∧ wbs xs' = joinB (wbs xs) hs ∧ wbs ys' = joinB (wbs ys) ts ∧ wbs zs' = joinB (wbs zs) ks ∧ N1' ≤ N1 + n1 ∧ N2' ≤ N2 + n2 ∧ N3' ≤ N3 + n3 ∧ Stir w w' (gblk g1 xs g2 ys g3 zs) ∧ ∀ k ∈ gblk g1 xs' g2 ys' g3 zs', k ∈ gblk g1 xs g2 ys g3 zs ∨ w.heap.size ≤ k := by
  obtain ⟨hn1, hn2, hn3⟩ := hn
  obtain ⟨hN1, hN2, hN3⟩ := hN
  have HL1 := Lib.hid hP.1.1; have HL2 := Lib.hid hP.2.1.1; have HL3 := Lib.hid hP.2.2.1
  have HW1 := Lib.hid wf1; have HW2 := Lib.hid wf2; have HW3 := Lib.hid wf3
  have HALL := Lib.hid h.all
  clear wf1 wf2 wf3
  go_enter Try.func127, Try.ntmps127
  go_wp2_with fail
  obtain ⟨k0, hb0⟩ := one_box w 31 #[.slice A1 n1 c1, .slice A2 n2 c2, .slice A3 n3 c3]
  have hG := h.below hb0
  have hS := Stir.of_below (ks := gblk g1 xs g2 ys g3 zs) hb0
  have hO : ∀ k ∈ gblk g1 xs g2 ys g3 zs, k ∈ gblk g1 xs g2 ys g3 zs ∨ w.heap.size ≤ k := fun k hk => .inl hk
  have HO := Lib.hid hO
  clear hO h hb0
  generalize w.alloc (.cells #[.slice A1 n1 c1, .slice A2 n2 c2, .slice A3 n3 c3] 31) = W at *
  have l0 := k0.cell 0; have l1 := k0.cell 1; have l2 := k0.cell 2; have klt := k0.lt
  go_wp2
  clear l0 l1 l2 klt
  go_loopw [13] (fun i wr => ∃ (k N' : Nat) (us : List Wt), k ≤ n1 ∧ i = .int .i64 k ∧ GathAt wr base G g1 N' us g2 N2 ys g3 N3 zs ∧ N' ≤ N1 + k ∧ Hid (wbs us = joinB (wbs xs) (hs.take k)) ∧ Blk wr w.heap.size 31 #[.slice A1 n1 c1, .slice A2 n2 c2, .slice A3 n3 c3] ∧ Stir w wr (gblk g1 xs g2 ys g3 zs) ∧ Hid (∀ k ∈ gblk g1 us g2 ys g3 zs, k ∈ gblk g1 xs g2 ys g3 zs ∨ w.heap.size ≤ k)) (fun i _ => n1 - (intOf i).toNat)
  case atStart => exact ⟨0, N1, xs, by omega, rfl, hG, by omega, Lib.hid rfl, k0, hS, HO⟩
  case round =>
    obtain ⟨k, M1, us1, hk, rfl, hG, hN', HE, k0, hS, HO⟩ := hrel
    have hbb := hS.below (Below.refl base w) hbw (fun k hk => (HALL.out k hk).1)
    have hr := (hP.below (hbb.mono hB)).1
    have hsz := hS.size
    by_cases hlt : k < n1
    · obtain ⟨b, off, z, rfl, _, hz, c0, c1⟩ := hr.atbn hlt
      have HZ := Lib.hid hz
      clear hz hr hbb
      have hi0 : (0 : Int) ≤ (k : Int) := by omega
      have hi1 : (k : Int) < (n1 : Int) := by omega
      go_wp2_with fail
      obtain ⟨km, hbm⟩ := one_box wr 71 #[.int .i64 z.id, .int .i64 z.til]
      have hGu := hG.below hbm; have k0u := k0.below hbm k0.lt; have hSu := hS.call hbm
      clear hbm c0 c1 hG k0 hS
      generalize wr.heap.size = gm at *
      generalize wr.alloc (.cells #[.int .i64 z.id, .int .i64 z.til] 71) = U at *
      have m0 := km.cell 0; have m1 := km.cell 1; have q0 := hGu.blk.cell 0; have ql := hGu.blk.lt; have kml := km.lt
      have hGu : GathAt U.drew base G g1 M1 us1 g2 N2 ys g3 N3 zs := hGu.below (Below.refl _ _).drew
      have k0u : Blk U.drew w.heap.size 31 _ := k0u
      have hSu : Stir w U.drew (gblk g1 xs g2 ys g3 zs) := hSu.call (Below.refl _ _).drew
      go_still_tail 8, (by kernel_rfl)
      go_wp2_with fail
      clear m0 m1 q0 ql kml km
      go_at_call 74; refine (tell_any base g1 M1 us1 z.id z.til _ hGu.w1 (by have := hSu.size; omega) (by omega) (HW1.out z (List.mem_of_getElem? HZ.out))).mono ?_; rintro e w3 ⟨rfl, us', N'', hN'', hw, hwe, hst, hnb⟩
      have k0 := hst.blk k0u (hGu.w1.not_blk k0u)
      have hG := hGu.put1 hw hst hnb
      have HE' := Lib.hid (show wbs us' = joinB (wbs xs) (hs.take (k + 1)) by rw [hwe, HE.out, joinB_take HZ.out])
      have hS := hSu.next hst (fun k' hk' => HO.out k' (gblk_1 hk'))
      have HO' := Lib.hid (show ∀ k' ∈ gblk g1 us' g2 ys g3 zs, k' ∈ gblk g1 xs g2 ys g3 zs ∨ w.heap.size ≤ k' from fun k' hk' => by
        have hle := hSu.size
        unfold gblk at hk'
        rcases List.mem_append.1 hk' with hk' | hk'
        · rcases hnb k' hk' with hk' | hk'
          · exact HO.out k' (gblk_1 hk')
          · exact .inr (Nat.le_trans hle hk')
        · rcases List.mem_append.1 hk' with hk' | hk'
          · exact HO.out k' (gblk_2 hk')
          · exact HO.out k' (gblk_3 hk'))
      clear hGu k0u hSu hw hwe hst hnb hsz
      go_wp2
      go_roundw
      case rel => exact ⟨k + 1, N'', us', by omega, by go_num, hG, by omega, HE', k0, hS, HO'⟩
      case measure => simp [intOf]; omega
    · have HE1 := Lib.hid (show wbs us1 = joinB (wbs xs) hs by have := HE.out; rwa [List.take_of_length_le (by have := HL1.out; omega)] at this)
      have hN1' : M1 ≤ N1 + n1 := by omega
      clear HE hr hbb hsz hN'
      have l0 := k0.cell 0; have l1 := k0.cell 1; have l2 := k0.cell 2; have klt := k0.lt
      go_wp2
      clear l0 l1 l2 klt
      go_loopw [30] (fun i wr => ∃ (k N' : Nat) (us : List Wt), k ≤ n2 ∧ i = .int .i64 k ∧ GathAt wr base G g1 M1 us1 g2 N' us g3 N3 zs ∧ N' ≤ N2 + k ∧ Hid (wbs us = joinB (wbs ys) (ts.take k)) ∧ Blk wr w.heap.size 31 #[.slice A1 n1 c1, .slice A2 n2 c2, .slice A3 n3 c3] ∧ Stir w wr (gblk g1 xs g2 ys g3 zs) ∧ Hid (∀ k ∈ gblk g1 us1 g2 us g3 zs, k ∈ gblk g1 xs g2 ys g3 zs ∨ w.heap.size ≤ k)) (fun i _ => n2 - (intOf i).toNat)
      case atStart => exact ⟨0, N2, ys, by omega, rfl, hG, by omega, Lib.hid rfl, k0, hS, HO⟩
      case round =>
        obtain ⟨k, M2, us2, hk, rfl, hG, hN', HE, k0, hS, HO⟩ := hrel
        have hbb := hS.below (Below.refl base w) hbw (fun k hk => (HALL.out k hk).1)
        have hr := (hP.below (hbb.mono hB)).2.1
        have hsz := hS.size
        by_cases hlt : k < n2
        · obtain ⟨b, off, z, rfl, _, hz, c0, c1⟩ := hr.atbn hlt
          have HZ := Lib.hid hz
          clear hz hr hbb
          have hi0 : (0 : Int) ≤ (k : Int) := by omega
          have hi1 : (k : Int) < (n2 : Int) := by omega
          go_wp2_with fail
          obtain ⟨km, hbm⟩ := one_box wr 71 #[.int .i64 z.id, .int .i64 z.til]
          have hGu := hG.below hbm; have k0u := k0.below hbm k0.lt; have hSu := hS.call hbm
          clear hbm c0 c1 hG k0 hS
          generalize wr.heap.size = gm at *
          generalize wr.alloc (.cells #[.int .i64 z.id, .int .i64 z.til] 71) = U at *
          have m0 := km.cell 0; have m1 := km.cell 1; have q0 := hGu.blk.cell 1; have ql := hGu.blk.lt; have kml := km.lt
          have hGu : GathAt U.drew base G g1 M1 us1 g2 M2 us2 g3 N3 zs := hGu.below (Below.refl _ _).drew
          have k0u : Blk U.drew w.heap.size 31 _ := k0u
          have hSu : Stir w U.drew (gblk g1 xs g2 ys g3 zs) := hSu.call (Below.refl _ _).drew
          go_still_tail 8, (by kernel_rfl)
          go_wp2_with fail
          clear m0 m1 q0 ql kml km
          go_at_call 74; refine (tell_any base g2 M2 us2 z.id z.til _ hGu.w2 (by have := hSu.size; omega) (by omega) (HW2.out z (List.mem_of_getElem? HZ.out))).mono ?_; rintro e w3 ⟨rfl, us', N'', hN'', hw, hwe, hst, hnb⟩
          have k0 := hst.blk k0u (hGu.w2.not_blk k0u)
          have hG := hGu.put2 hw hst hnb
          have HE' := Lib.hid (show wbs us' = joinB (wbs ys) (ts.take (k + 1)) by rw [hwe, HE.out, joinB_take HZ.out])
          have hS := hSu.next hst (fun k' hk' => HO.out k' (gblk_2 hk'))
          have HO' := Lib.hid (show ∀ k' ∈ gblk g1 us1 g2 us' g3 zs, k' ∈ gblk g1 xs g2 ys g3 zs ∨ w.heap.size ≤ k' from fun k' hk' => by
            have hle := hSu.size
            unfold gblk at hk'
            rcases List.mem_append.1 hk' with hk' | hk'
            · exact HO.out k' (gblk_1 hk')
            · rcases List.mem_append.1 hk' with hk' | hk'
              · rcases hnb k' hk' with hk' | hk'
                · exact HO.out k' (gblk_2 hk')
                · exact .inr (Nat.le_trans hle hk')
              · exact HO.out k' (gblk_3 hk'))
          clear hGu k0u hSu hw hwe hst hnb hsz
          go_wp2
          go_roundw
          case rel => exact ⟨k + 1, N'', us', by omega, by go_num, hG, by omega, HE', k0, hS, HO'⟩
          case measure => simp [intOf]; omega
        · have HE2 := Lib.hid (show wbs us2 = joinB (wbs ys) ts by have := HE.out; rwa [List.take_of_length_le (by have := HL2.out; omega)] at this)
          have hN2' : M2 ≤ N2 + n2 := by omega
          clear HE hr hbb hsz hN'
          have l0 := k0.cell 0; have l1 := k0.cell 1; have l2 := k0.cell 2; have klt := k0.lt
          go_wp2
          clear l0 l1 l2 klt
          go_loopw [47] (fun i wr => ∃ (k N' : Nat) (us : List Wt), k ≤ n3 ∧ i = .int .i64 k ∧ GathAt wr base G g1 M1 us1 g2 M2 us2 g3 N' us ∧ N' ≤ N3 + k ∧ Hid (wbs us = joinB (wbs zs) (ks.take k)) ∧ Blk wr w.heap.size 31 #[.slice A1 n1 c1, .slice A2 n2 c2, .slice A3 n3 c3] ∧ Stir w wr (gblk g1 xs g2 ys g3 zs) ∧ Hid (∀ k ∈ gblk g1 us1 g2 us2 g3 us, k ∈ gblk g1 xs g2 ys g3 zs ∨ w.heap.size ≤ k)) (fun i _ => n3 - (intOf i).toNat)
          case atStart => exact ⟨0, N3, zs, by omega, rfl, hG, by omega, Lib.hid rfl, k0, hS, HO⟩
          case round =>
            obtain ⟨k, M3, us3, hk, rfl, hG, hN', HE, k0, hS, HO⟩ := hrel
            have hbb := hS.below (Below.refl base w) hbw (fun k hk => (HALL.out k hk).1)
            have hr := (hP.below (hbb.mono hB)).2.2
            have hsz := hS.size
            by_cases hlt : k < n3
            · obtain ⟨b, off, z, rfl, _, hz, c0, c1⟩ := hr.atbn hlt
              have HZ := Lib.hid hz
              clear hz hr hbb
              have hi0 : (0 : Int) ≤ (k : Int) := by omega
              have hi1 : (k : Int) < (n3 : Int) := by omega
              go_wp2_with fail
              obtain ⟨km, hbm⟩ := one_box wr 74 #[.int .i64 z.id, .int .i64 z.til]
              have hGu := hG.below hbm; have k0u := k0.below hbm k0.lt; have hSu := hS.call hbm
              clear hbm c0 c1 hG k0 hS
              generalize wr.heap.size = gm at *
              generalize wr.alloc (.cells #[.int .i64 z.id, .int .i64 z.til] 74) = U at *
              have m0 := km.cell 0; have m1 := km.cell 1; have q0 := hGu.blk.cell 2; have ql := hGu.blk.lt; have kml := km.lt
              have hGu : GathAt U.drew base G g1 M1 us1 g2 M2 us2 g3 M3 us3 := hGu.below (Below.refl _ _).drew
              have k0u : Blk U.drew w.heap.size 31 _ := k0u
              have hSu : Stir w U.drew (gblk g1 xs g2 ys g3 zs) := hSu.call (Below.refl _ _).drew
              go_still_tail 8, (by kernel_rfl)
              go_wp2_with fail
              clear m0 m1 q0 ql kml km
              go_at_call 74; refine (tell_any base g3 M3 us3 z.id z.til _ hGu.w3 (by have := hSu.size; omega) (by omega) (HW3.out z (List.mem_of_getElem? HZ.out))).mono ?_; rintro e w3 ⟨rfl, us', N'', hN'', hw, hwe, hst, hnb⟩
              have k0 := hst.blk k0u (hGu.w3.not_blk k0u)
              have hG := hGu.put3 hw hst hnb
              have HE' := Lib.hid (show wbs us' = joinB (wbs zs) (ks.take (k + 1)) by rw [hwe, HE.out, joinB_take HZ.out])
              have hS := hSu.next hst (fun k' hk' => HO.out k' (gblk_3 hk'))
              have HO' := Lib.hid (show ∀ k' ∈ gblk g1 us1 g2 us2 g3 us', k' ∈ gblk g1 xs g2 ys g3 zs ∨ w.heap.size ≤ k' from fun k' hk' => by
                have hle := hSu.size
                unfold gblk at hk'
                rcases List.mem_append.1 hk' with hk' | hk'
                · exact HO.out k' (gblk_1 hk')
                · rcases List.mem_append.1 hk' with hk' | hk'
                  · exact HO.out k' (gblk_2 hk')
                  · rcases hnb k' hk' with hk' | hk'
                    · exact HO.out k' (gblk_3 hk')
                    · exact .inr (Nat.le_trans hle hk'))
              clear hGu k0u hSu hw hwe hst hnb hsz
              go_wp2
              go_roundw
              case rel => exact ⟨k + 1, N'', us', by omega, by go_num, hG, by omega, HE', k0, hS, HO'⟩
              case measure => simp [intOf]; omega
            · have HE3 := Lib.hid (show wbs us3 = joinB (wbs zs) ks by have := HE.out; rwa [List.take_of_length_le (by have := HL3.out; omega)] at this)
              have hN3' : M3 ≤ N3 + n3 := by omega
              clear HE hr hbb hsz hN'
              go_wp2
              go_end0
              exact ⟨rfl, us1, us2, us3, M1, M2, M3, hG, HE1.out, HE2.out, HE3.out, hN1', hN2', hN3', hS, HO.out⟩
theorem makeMapW (w : World) : (Instr.makeMap 107 none).run Try.prog w = .ok (.map (some w.heap.size)) (w.alloc (.map #[] 0)) := by
  simp [Instr.makeMap, Result.andThen]
theorem watch_made {w : World} {g base : Nat} (h : w.heap[g]? = some (.map #[] 0)) (hb : base ≤ g) : WatchAt w base g 0 [] := ⟨hb, ⟨#[], 0, h, ⟨by simp, Go.MapKept.stamped_empty 0, by simp⟩, Nat.le_refl _, rfl⟩, List.Pairwise.nil, fun x hx => (by cases hx), List.Pairwise.nil⟩
end Go.Proofs.Ytgomffcdoglbfaa
