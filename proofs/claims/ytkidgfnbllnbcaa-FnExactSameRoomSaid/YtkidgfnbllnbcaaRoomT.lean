import Derived.Test.YtkidgfnbllnbcaaChecked
import Derived.WalkKit
import Derived.ProofKit
import Derived.OpenShut
import Derived.ShutString
import Derived.ChangeOld
import Derived.Below
import Derived.Lib.Hide
import Derived.Deep.Onto
import Derived.Test.YtkidgfnbllnbcaaEqM
import Derived.Test.YtkidgfnbllnbcaaEqI
import Derived.Test.YtkidgfnbllnbcaaEqB
namespace Go.Proofs.Ytkidgfnbllnbcaa
open Go.ChangeShapes Go.WideShapes Go.ChangeAt Go.RowKit
open Go.ChangeMaps (open_string shut_string)
set_option linter.unusedVariables false
set_option maxRecDepth 100000
theorem bcell {W w1 : World} (hb : Below W.heap.size W w1) : (∀ b o, b < W.heap.size → w1.cell? ⟨b, o, none⟩ = W.cell? ⟨b, o, none⟩) ∧ (∀ b o, b < W.heap.size → w1.frozen? ⟨b, o, none⟩ = W.frozen? ⟨b, o, none⟩) :=
  ⟨fun b o h => hb.cell (p := ⟨b, o, none⟩) h, fun b o h => hb.frozen (p := ⟨b, o, none⟩) h⟩
def RoomAt (w : World) (B : Nat) (A1 : Option Addr) (n1 : Nat) (A2 : Option Addr) (n2 : Nat) (A3 : Option Addr) (n3 : Nat) (ms : List Mb) (vs : List Iv) (bs : List Bn) : Prop :=
  SRow 4 mbC w B A1 n1 ms ∧ SRow 3 ivC w B A2 n2 vs ∧ SRow 2 bnC w B A3 n3 bs
def RoomOwn (w : World) (base : Nat) (A1 : Option Addr) (n1 c1 : Nat) (A2 : Option Addr) (n2 c2 : Nat) (A3 : Option Addr) (n3 c3 : Nat) (ms : List Mb) (vs : List Iv) (bs : List Bn) : Prop :=
  w.ownsRow base 58 4 (.slice A1 n1 c1) n1 (ms.flatMap mbC) ∧ w.ownsRow base 61 3 (.slice A2 n2 c2) n2 (vs.flatMap ivC) ∧ w.ownsRow base 64 2 (.slice A3 n3 c3) n3 (bs.flatMap bnC)
section
variable {w w' : World} {B B' n1 n2 n3 : Nat} {A1 A2 A3 : Option Addr} {ms : List Mb} {vs : List Iv} {bs : List Bn}
theorem RoomAt.below (h : RoomAt w B A1 n1 A2 n2 A3 n3 ms vs bs) (hb : Below B w w') : RoomAt w' B A1 n1 A2 n2 A3 n3 ms vs bs := ⟨h.1.below hb, h.2.1.below hb, h.2.2.below hb⟩
theorem RoomAt.more (h : RoomAt w B A1 n1 A2 n2 A3 n3 ms vs bs) (hB : B ≤ B') : RoomAt w B' A1 n1 A2 n2 A3 n3 ms vs bs := ⟨h.1.more hB, h.2.1.more hB, h.2.2.more hB⟩
theorem RoomAt.to (h : RoomAt w w.heap.size A1 n1 A2 n2 A3 n3 ms vs bs) (hb : Below w.heap.size w w') : RoomAt w' w'.heap.size A1 n1 A2 n2 A3 n3 ms vs bs := ⟨h.1.to hb, h.2.1.to hb, h.2.2.to hb⟩
theorem RoomAt.alloc (h : RoomAt w w.heap.size A1 n1 A2 n2 A3 n3 ms vs bs) (o : Obj) : RoomAt (w.alloc o) (w.alloc o).heap.size A1 n1 A2 n2 A3 n3 ms vs bs := h.to ((Below.refl _ _).alloc (Nat.le_refl _) _)
theorem RoomOwn.at_ {base c1 c2 c3 : Nat} (h : RoomOwn w base A1 n1 c1 A2 n2 c2 A3 n3 c3 ms vs bs) : RoomAt w w.heap.size A1 n1 A2 n2 A3 n3 ms vs bs :=
  ⟨SRow.of_own_any mbC_len (by omega) h.1, SRow.of_own_any ivC_len (by omega) h.2.1, SRow.of_own_any bnC_len (by omega) h.2.2⟩
theorem RoomOwn.below {base c1 c2 c3 : Nat} (h : RoomOwn w base A1 n1 c1 A2 n2 c2 A3 n3 c3 ms vs bs) (hb : Below B w w') (hB : w.heap.size ≤ B) : RoomOwn w' base A1 n1 c1 A2 n2 c2 A3 n3 c3 ms vs bs :=
  ⟨own_below h.1 hb hB, own_below h.2.1 hb hB, own_below h.2.2 hb hB⟩
theorem RoomOwn.mono {base base' c1 c2 c3 : Nat} (h : RoomOwn w base A1 n1 c1 A2 n2 c2 A3 n3 c3 ms vs bs) (hb : base' ≤ base) : RoomOwn w base' A1 n1 c1 A2 n2 c2 A3 n3 c3 ms vs bs :=
  ⟨World.ownsRow.mono h.1 hb, World.ownsRow.mono h.2.1 hb, World.ownsRow.mono h.2.2 hb⟩
theorem SRow.keepA {α : Type} {sz : Nat} {f : α → List Value} {n : Nat} {A : Option Addr} {xs : List α} (h : SRow sz f w B A n xs) (hk : ∀ p : Addr, p.block < B → w'.cell? p = w.cell? p) : SRow sz f w' B A n xs := h.keep hk
end
set_option maxHeartbeats 800000 in
theorem toRoom_any (o : Bool) (A1 A2 A3 : Option Addr) (n1 c1 n2 c2 n3 c3 : Nat) (ms : List Mb) (vs : List Iv) (bs : List Bn) (w : World) (h : RoomAt w w.heap.size A1 n1 A2 n2 A3 n3 ms vs bs) (hn : n1 + n2 + n3 ≤ 1048576) :
    Calls Try.prog 10 #[.agg #[.bool o, .slice A1 n1 c1, .slice A2 n2 c2, .slice A3 n3 c3]] w fun e w' => ∃ g1 g2 g3, e = .returned (.agg #[.bool o, .slice (some ⟨g1, 0, none⟩) n1 n1, .slice (some ⟨g2, 0, none⟩) n2 n2, .slice (some ⟨g3, 0, none⟩) n3 n3]) ∧
      RoomOwn w' w.heap.size (some ⟨g1, 0, none⟩) n1 n1 (some ⟨g2, 0, none⟩) n2 n2 (some ⟨g3, 0, none⟩) n3 n3 ms vs bs ∧ Below w.heap.size w w' := by
  go_enter Try.func10, Try.ntmps10
  go_wp2_with fail
  have hb0 : Below w.heap.size w (((w.alloc (.cells #[.bool o, .slice A1 n1 c1, .slice A2 n2 c2, .slice A3 n3 c3] 26)).alloc (.cells #[.bool false, .slice none 0 0, .slice none 0 0, .slice none 0 0] 33)).alloc (.cells #[.bool o, .slice none 0 0, .slice none 0 0, .slice none 0 0] 33)) := by
    repeat (first | exact Below.refl _ _ | refine Below.alloc ?_ (by first | (simp; omega) | simp) _)
  have k0 : Blk (((w.alloc (.cells #[.bool o, .slice A1 n1 c1, .slice A2 n2 c2, .slice A3 n3 c3] 26)).alloc (.cells #[.bool false, .slice none 0 0, .slice none 0 0, .slice none 0 0] 33)).alloc (.cells #[.bool o, .slice none 0 0, .slice none 0 0, .slice none 0 0] 33)) w.heap.size 26 #[.bool o, .slice A1 n1 c1, .slice A2 n2 c2, .slice A3 n3 c3] := ((Blk.new _ _ _).alloc _).alloc _
  have k1 : Blk (((w.alloc (.cells #[.bool o, .slice A1 n1 c1, .slice A2 n2 c2, .slice A3 n3 c3] 26)).alloc (.cells #[.bool false, .slice none 0 0, .slice none 0 0, .slice none 0 0] 33)).alloc (.cells #[.bool o, .slice none 0 0, .slice none 0 0, .slice none 0 0] 33)) (w.heap.size + 1) 33 #[.bool false, .slice none 0 0, .slice none 0 0, .slice none 0 0] := by
    have := (Blk.new (w.alloc (.cells #[.bool o, .slice A1 n1 c1, .slice A2 n2 c2, .slice A3 n3 c3] 26)) 33 #[.bool false, .slice none 0 0, .slice none 0 0, .slice none 0 0]).alloc (.cells #[.bool o, .slice none 0 0, .slice none 0 0, .slice none 0 0] 33)
    simpa using this
  have k2 : Blk (((w.alloc (.cells #[.bool o, .slice A1 n1 c1, .slice A2 n2 c2, .slice A3 n3 c3] 26)).alloc (.cells #[.bool false, .slice none 0 0, .slice none 0 0, .slice none 0 0] 33)).alloc (.cells #[.bool o, .slice none 0 0, .slice none 0 0, .slice none 0 0] 33)) (w.heap.size + 1 + 1) 33 #[.bool o, .slice none 0 0, .slice none 0 0, .slice none 0 0] := by
    have := Blk.new ((w.alloc (.cells #[.bool o, .slice A1 n1 c1, .slice A2 n2 c2, .slice A3 n3 c3] 26)).alloc (.cells #[.bool false, .slice none 0 0, .slice none 0 0, .slice none 0 0] 33)) 33 #[.bool o, .slice none 0 0, .slice none 0 0, .slice none 0 0]
    simpa using this
  generalize (((w.alloc (.cells #[.bool o, .slice A1 n1 c1, .slice A2 n2 c2, .slice A3 n3 c3] 26)).alloc (.cells #[.bool false, .slice none 0 0, .slice none 0 0, .slice none 0 0] 33)).alloc (.cells #[.bool o, .slice none 0 0, .slice none 0 0, .slice none 0 0] 33)) = W at *
  have hl2 := k2.lt
  have h1 := h.1.below hb0
  have hbW := hb0.size
  go_at_call 30; refine (toMemberS_any _ _ _ _ _ (h1.more hb0.size) (by omega)).mono ?_; rintro e w1 ⟨g1, rfl, ho1, hb1⟩
  have k0 := k0.below hb1 (by omega)
  have k1 := k1.below hb1 (by omega)
  have k2 := k2.below hb1 (by omega)
  have hbA := hb0.trans (hb1.mono hb0.size)
  have hl2 := k2.lt
  have l0 := k0.cell 2
  have l1 := k2.cell 1
  have l2 := k2.frozen 1
  have q1 : w.heap.size + 1 + 1 < W.heap.size := by omega
  clear hb1 h1 hb0
  go_wp2_with fail
  have hb0 := hbA.setCell (p := ⟨w.heap.size + 1 + 1, 1, none⟩) (by simp; omega) (.slice (some ⟨g1, 0, none⟩) n1 n1)
  have k0 := k0.far (p := ⟨w.heap.size + 1 + 1, 1, none⟩) (by simp; omega) (.slice (some ⟨g1, 0, none⟩) n1 n1)
  have k1 := k1.far (p := ⟨w.heap.size + 1 + 1, 1, none⟩) (by simp) (.slice (some ⟨g1, 0, none⟩) n1 n1)
  have k2 := k2.set_ 1 (.slice (some ⟨g1, 0, none⟩) n1 n1)
  have ho1 := ownsRow_setCell_below ho1 (a := ⟨w.heap.size + 1 + 1, 1, none⟩) (by simp; omega) (.slice (some ⟨g1, 0, none⟩) n1 n1)
  clear l0 l1 l2 hbA
  generalize w1.setCell ⟨w.heap.size + 1 + 1, 1, none⟩ (.slice (some ⟨g1, 0, none⟩) n1 n1) = W1 at *
  have h2 := h.2.1.below hb0
  have hl2 := k2.lt
  have hbW1 := hb0.size
  go_at_call 31; refine (toInviteS_any _ _ _ _ _ (h2.more hb0.size) (by omega)).mono ?_; rintro e w2 ⟨g2, rfl, ho2, hb2⟩
  have k0 := k0.below hb2 (by omega)
  have k1 := k1.below hb2 (by omega)
  have k2 := k2.below hb2 (by omega)
  have hbA := hb0.trans (hb2.mono hb0.size)
  have hl2 := k2.lt
  have l0 := k0.cell 3
  have l1 := k2.cell 2
  have l2 := k2.frozen 2
  have q2 : w.heap.size + 1 + 1 < W1.heap.size := by omega
  have ho1 := own_below ho1 hb2 (Nat.le_refl _)
  clear hb2 h2 hb0
  go_wp2_with fail
  have hb0 := hbA.setCell (p := ⟨w.heap.size + 1 + 1, 2, none⟩) (by simp; omega) (.slice (some ⟨g2, 0, none⟩) n2 n2)
  have k0 := k0.far (p := ⟨w.heap.size + 1 + 1, 2, none⟩) (by simp; omega) (.slice (some ⟨g2, 0, none⟩) n2 n2)
  have k1 := k1.far (p := ⟨w.heap.size + 1 + 1, 2, none⟩) (by simp) (.slice (some ⟨g2, 0, none⟩) n2 n2)
  have k2 := k2.set_ 2 (.slice (some ⟨g2, 0, none⟩) n2 n2)
  have ho1 := ownsRow_setCell_below ho1 (a := ⟨w.heap.size + 1 + 1, 2, none⟩) (by simp; omega) (.slice (some ⟨g2, 0, none⟩) n2 n2)
  have ho2 := ownsRow_setCell_below ho2 (a := ⟨w.heap.size + 1 + 1, 2, none⟩) (by simp; omega) (.slice (some ⟨g2, 0, none⟩) n2 n2)
  clear l0 l1 l2 hbA
  generalize w2.setCell ⟨w.heap.size + 1 + 1, 2, none⟩ (.slice (some ⟨g2, 0, none⟩) n2 n2) = W2 at *
  have h3 := h.2.2.below hb0
  have hl2 := k2.lt
  have hbW2 := hb0.size
  go_at_call 32; refine (toBanS_any _ _ _ _ _ (h3.more hb0.size) (by omega)).mono ?_; rintro e w3 ⟨g3, rfl, ho3, hb3⟩
  have k0 := k0.below hb3 (by omega)
  have k1 := k1.below hb3 (by omega)
  have k2 := k2.below hb3 (by omega)
  have hbA := hb0.trans (hb3.mono hb0.size)
  have hl2 := k2.lt
  have l0 := k0.cell 3
  have l1 := k2.cell 3
  have l2 := k2.frozen 3
  have q3 : w.heap.size + 1 + 1 < W2.heap.size := by omega
  have ho1 := own_below ho1 hb3 (Nat.le_refl _)
  have ho2 := own_below ho2 hb3 (Nat.le_refl _)
  clear hb3 h3 hb0
  have r0 := k1.cell 0
  have r1 := k1.cell 1
  have r2 := k1.cell 2
  have r3 := k1.cell 3
  have s0 := k2.cell 0
  have s1 := k2.cell 1
  have s2 := k2.cell 2
  have rf0 := k1.frozen 0
  have rf1 := k1.frozen 1
  have rf2 := k1.frozen 2
  have rf3 := k1.frozen 3
  go_wp2
  refine bodyPost_ret (v := .agg #[.bool o, .slice (some ⟨g1, 0, none⟩) n1 n1, .slice (some ⟨g2, 0, none⟩) n2 n2, .slice (some ⟨g3, 0, none⟩) n3 n3]) (by simp [results, Try.results10, go_sem, r0, r1, r2, r3]) rfl ⟨g1, g2, g3, rfl, ⟨?_, ?_, ?_⟩, ?_⟩
  · exact World.ownsRow.mono (ownsRow_setCell_below (ownsRow_setCell_below (ownsRow_setCell_below (ownsRow_setCell_below (ownsRow_setCell_below ho1 (by simp; omega) _) (by simp; omega) _) (by simp; omega) _) (by simp; omega) _) (by simp; omega) _) hbW
  · exact World.ownsRow.mono (ownsRow_setCell_below (ownsRow_setCell_below (ownsRow_setCell_below (ownsRow_setCell_below (ownsRow_setCell_below ho2 (by simp; omega) _) (by simp; omega) _) (by simp; omega) _) (by simp; omega) _) (by simp; omega) _) hbW1
  · exact World.ownsRow.mono (ownsRow_setCell_below (ownsRow_setCell_below (ownsRow_setCell_below (ownsRow_setCell_below (ownsRow_setCell_below ho3 (by simp; omega) _) (by simp; omega) _) (by simp; omega) _) (by simp; omega) _) (by simp; omega) _) hbW2
  · exact (((((hbA.setCell (by first | (simp; done) | (simp; omega)) _).setCell (by first | (simp; done) | (simp; omega)) _).setCell (by first | (simp; done) | (simp; omega)) _).setCell (by first | (simp; done) | (simp; omega)) _).setCell (by first | (simp; done) | (simp; omega)) _)
theorem szRoom_ok (o : Bool) (A1 A2 A3 : Option Addr) (n1 c1 n2 c2 n3 c3 : Nat) (l : Int) (w : World) (h : (n1 : Int) + n2 + n3 ≤ l) (hl : l ≤ 1048576) :
    Calls Try.prog 8 #[.agg #[.bool o, .slice A1 n1 c1, .slice A2 n2 c2, .slice A3 n3 c3], .int .i64 l] w fun e w' => e = .returned (.int .i64 (l - n1 - n2 - n3)) ∧ Below w.heap.size w w' := by
  go_enter Try.func8, Try.ntmps8
  have x1 : ¬ (l - (n1 : Int) < 0) := by omega
  have x2 : ¬ (l - (n1 : Int) - (n2 : Int) < 0) := by omega
  have x3 : ¬ (l - (n1 : Int) - (n2 : Int) - (n3 : Int) < 0) := by omega
  go_wp2_with (first | (go_at_call 26; refine (szMemberS_ok _ _ _ _ _ (by omega) (by omega)).mono ?_; rintro e w' ⟨rfl, rfl⟩) | (go_at_call 27; refine (szInviteS_ok _ _ _ _ _ (by omega) (by omega)).mono ?_; rintro e w' ⟨rfl, rfl⟩) | (go_at_call 28; refine (szBanS_ok _ _ _ _ _ (by omega) (by omega)).mono ?_; rintro e w' ⟨rfl, rfl⟩))
  go_ret
  exact ⟨rfl, (Below.refl _ _).alloc (Nat.le_refl _) _⟩
theorem szRoom_no (o : Bool) (A1 A2 A3 : Option Addr) (n1 c1 n2 c2 n3 c3 : Nat) (l : Int) (w : World) (h : ¬ (n1 : Int) + n2 + n3 ≤ l) (h0 : 0 ≤ l) (hl : l ≤ 1048576) (hn1 : (n1 : Int) ≤ 9223372036854775807) (hn2 : (n2 : Int) ≤ 9223372036854775807) (hn3 : (n3 : Int) ≤ 9223372036854775807) :
    Calls Try.prog 8 #[.agg #[.bool o, .slice A1 n1 c1, .slice A2 n2 c2, .slice A3 n3 c3], .int .i64 l] w fun e w' => e = .returned (.int .i64 (-1)) ∧ Below w.heap.size w w' := by
  by_cases x1 : (n1 : Int) ≤ l
  · by_cases x2 : (n2 : Int) ≤ l - n1
    · go_enter Try.func8, Try.ntmps8
      have y1 : ¬ (l - (n1 : Int) < 0) := by omega
      have y2 : ¬ (l - (n1 : Int) - (n2 : Int) < 0) := by omega
      go_wp2_with (first | (go_at_call 26; refine (szMemberS_ok _ _ _ _ _ (by omega) (by omega)).mono ?_; rintro e w' ⟨rfl, rfl⟩) | (go_at_call 27; refine (szInviteS_ok _ _ _ _ _ (by omega) (by omega)).mono ?_; rintro e w' ⟨rfl, rfl⟩) | (go_at_call 28; refine (szBanS_no _ _ _ _ _ (by omega) (by omega) (by omega)).mono ?_; rintro e w' ⟨rfl, rfl⟩))
      go_ret
      exact ⟨rfl, (Below.refl _ _).alloc (Nat.le_refl _) _⟩
    · go_enter Try.func8, Try.ntmps8
      have y1 : ¬ (l - (n1 : Int) < 0) := by omega
      go_wp2_with (first | (go_at_call 26; refine (szMemberS_ok _ _ _ _ _ (by omega) (by omega)).mono ?_; rintro e w' ⟨rfl, rfl⟩) | (go_at_call 27; refine (szInviteS_no _ _ _ _ _ (by omega) (by omega) (by omega)).mono ?_; rintro e w' ⟨rfl, rfl⟩))
      go_ret
      exact ⟨rfl, (Below.refl _ _).alloc (Nat.le_refl _) _⟩
  · go_enter Try.func8, Try.ntmps8
    go_wp2_with (first | (go_at_call 26; refine (szMemberS_no _ _ _ _ _ (by omega) (by omega) (by omega)).mono ?_; rintro e w' ⟨rfl, rfl⟩))
    go_ret
    exact ⟨rfl, (Below.refl _ _).alloc (Nat.le_refl _) _⟩
end Go.Proofs.Ytkidgfnbllnbcaa
