import Derived.Test.YtdpclbmcmgknjaaChecked
import Derived.WalkKit
import Derived.ProofKit
import Derived.OpenShut
import Derived.ShutString
import Derived.ChangeOld
import Derived.Below
import Derived.Lib.Hide
import Derived.Deep.Onto
import Derived.Test.YtdpclbmcmgknjaaJu
import Derived.Test.YtdpclbmcmgknjaaJv
import Derived.Test.YtdpclbmcmgknjaaJd
import Derived.Test.YtdpclbmcmgknjaaZOwnF
import Derived.Test.YtdpclbmcmgknjaaJp
import Derived.Test.YtdpclbmcmgknjaaZMoveS
namespace Go.Proofs.Ytdpclbmcmgknjaa
open Go.ChangeShapes Go.WideShapes Go.ChangeAt Go.RowKit
open Go.ChangeMaps (open_string shut_string)
set_option linter.unusedVariables false
set_option maxRecDepth 100000
def PresAt (w : World) (B : Nat) (A1 : Option Addr) (n1 : Nat) (A2 : Option Addr) (n2 : Nat) (A3 : Option Addr) (n3 : Nat) (hs ts ks : List Bn) : Prop :=
  SRow 2 bnC w B A1 n1 hs ∧ SRow 2 bnC w B A2 n2 ts ∧ SRow 2 bnC w B A3 n3 ks
def PresOwn (w : World) (base : Nat) (A1 : Option Addr) (n1 c1 : Nat) (A2 : Option Addr) (n2 c2 : Nat) (A3 : Option Addr) (n3 c3 : Nat) (hs ts ks : List Bn) : Prop :=
  w.ownsRow base 136 2 (.slice A1 n1 c1) n1 (hs.flatMap bnC) ∧ w.ownsRow base 136 2 (.slice A2 n2 c2) n2 (ts.flatMap bnC) ∧ w.ownsRow base 139 2 (.slice A3 n3 c3) n3 (ks.flatMap bnC) ∧
    ((Value.slice A1 n1 c1).ownBlock = none ∨ (Value.slice A1 n1 c1).ownBlock ≠ (Value.slice A2 n2 c2).ownBlock)
section
variable {w w' : World} {B B' n1 n2 n3 : Nat} {A1 A2 A3 : Option Addr} {hs ts ks : List Bn}
theorem PresAt.below (h : PresAt w B A1 n1 A2 n2 A3 n3 hs ts ks) (hb : Below B w w') : PresAt w' B A1 n1 A2 n2 A3 n3 hs ts ks := ⟨h.1.below hb, h.2.1.below hb, h.2.2.below hb⟩
theorem PresAt.more (h : PresAt w B A1 n1 A2 n2 A3 n3 hs ts ks) (hB : B ≤ B') : PresAt w B' A1 n1 A2 n2 A3 n3 hs ts ks := ⟨h.1.more hB, h.2.1.more hB, h.2.2.more hB⟩
theorem PresAt.to (h : PresAt w w.heap.size A1 n1 A2 n2 A3 n3 hs ts ks) (hb : Below w.heap.size w w') : PresAt w' w'.heap.size A1 n1 A2 n2 A3 n3 hs ts ks := ⟨h.1.to hb, h.2.1.to hb, h.2.2.to hb⟩
theorem PresOwn.at_ {base c1 c2 c3 : Nat} (h : PresOwn w base A1 n1 c1 A2 n2 c2 A3 n3 c3 hs ts ks) : PresAt w w.heap.size A1 n1 A2 n2 A3 n3 hs ts ks :=
  ⟨SRow.of_own_any bnC_len (by omega) h.1, SRow.of_own_any bnC_len (by omega) h.2.1, SRow.of_own_any bnC_len (by omega) h.2.2.1⟩
theorem PresOwn.below {base c1 c2 c3 : Nat} (h : PresOwn w base A1 n1 c1 A2 n2 c2 A3 n3 c3 hs ts ks) (hb : Below B w w') (hB : w.heap.size ≤ B) : PresOwn w' base A1 n1 c1 A2 n2 c2 A3 n3 c3 hs ts ks :=
  ⟨own_below h.1 hb hB, own_below h.2.1 hb hB, own_below h.2.2.1 hb hB, h.2.2.2⟩
theorem PresOwn.mono {base base' c1 c2 c3 : Nat} (h : PresOwn w base A1 n1 c1 A2 n2 c2 A3 n3 c3 hs ts ks) (hb : base' ≤ base) : PresOwn w base' A1 n1 c1 A2 n2 c2 A3 n3 c3 hs ts ks :=
  ⟨World.ownsRow.mono h.1 hb, World.ownsRow.mono h.2.1 hb, World.ownsRow.mono h.2.2.1 hb, h.2.2.2⟩
end
set_option maxHeartbeats 1600000 in
theorem toPresence_any (A1 A2 A3 : Option Addr) (n1 c1 n2 c2 n3 c3 : Nat) (hs ts ks : List Bn) (w : World) (h : PresAt w w.heap.size A1 n1 A2 n2 A3 n3 hs ts ks) (hn : n1 + n2 + n3 ≤ 1048576) :
    Calls Try.prog 41 #[.agg #[.slice A1 n1 c1, .slice A2 n2 c2, .slice A3 n3 c3]] w fun e w' => ∃ g1 g2 g3, e = .returned (.agg #[.slice (some ⟨g1, 0, none⟩) n1 n1, .slice (some ⟨g2, 0, none⟩) n2 n2, .slice (some ⟨g3, 0, none⟩) n3 n3]) ∧
      PresOwn w' w.heap.size (some ⟨g1, 0, none⟩) n1 n1 (some ⟨g2, 0, none⟩) n2 n2 (some ⟨g3, 0, none⟩) n3 n3 hs ts ks ∧ Below w.heap.size w w' := by
  go_enter Try.func41, Try.ntmps41
  go_wp2_with fail
  have hb0 : Below w.heap.size w (((w.alloc (.cells #[.slice A1 n1 c1, .slice A2 n2 c2, .slice A3 n3 c3] 66)).alloc (.cells #[.slice none 0 0, .slice none 0 0, .slice none 0 0] 71)).alloc (.cells #[.slice none 0 0, .slice none 0 0, .slice none 0 0] 71)) := by
    repeat (first | exact Below.refl _ _ | refine Below.alloc ?_ (by first | (simp; omega) | simp) _)
  have k0 : Blk (((w.alloc (.cells #[.slice A1 n1 c1, .slice A2 n2 c2, .slice A3 n3 c3] 66)).alloc (.cells #[.slice none 0 0, .slice none 0 0, .slice none 0 0] 71)).alloc (.cells #[.slice none 0 0, .slice none 0 0, .slice none 0 0] 71)) w.heap.size 66 #[.slice A1 n1 c1, .slice A2 n2 c2, .slice A3 n3 c3] := ((Blk.new _ _ _).alloc _).alloc _
  have k1 : Blk (((w.alloc (.cells #[.slice A1 n1 c1, .slice A2 n2 c2, .slice A3 n3 c3] 66)).alloc (.cells #[.slice none 0 0, .slice none 0 0, .slice none 0 0] 71)).alloc (.cells #[.slice none 0 0, .slice none 0 0, .slice none 0 0] 71)) (w.heap.size + 1) 71 #[.slice none 0 0, .slice none 0 0, .slice none 0 0] := by
    have := (Blk.new (w.alloc (.cells #[.slice A1 n1 c1, .slice A2 n2 c2, .slice A3 n3 c3] 66)) 71 #[.slice none 0 0, .slice none 0 0, .slice none 0 0]).alloc (.cells #[.slice none 0 0, .slice none 0 0, .slice none 0 0] 71)
    simpa using this
  have k2 : Blk (((w.alloc (.cells #[.slice A1 n1 c1, .slice A2 n2 c2, .slice A3 n3 c3] 66)).alloc (.cells #[.slice none 0 0, .slice none 0 0, .slice none 0 0] 71)).alloc (.cells #[.slice none 0 0, .slice none 0 0, .slice none 0 0] 71)) (w.heap.size + 1 + 1) 71 #[.slice none 0 0, .slice none 0 0, .slice none 0 0] := by
    have := Blk.new ((w.alloc (.cells #[.slice A1 n1 c1, .slice A2 n2 c2, .slice A3 n3 c3] 66)).alloc (.cells #[.slice none 0 0, .slice none 0 0, .slice none 0 0] 71)) 71 #[.slice none 0 0, .slice none 0 0, .slice none 0 0]
    simpa using this
  generalize (((w.alloc (.cells #[.slice A1 n1 c1, .slice A2 n2 c2, .slice A3 n3 c3] 66)).alloc (.cells #[.slice none 0 0, .slice none 0 0, .slice none 0 0] 71)).alloc (.cells #[.slice none 0 0, .slice none 0 0, .slice none 0 0] 71)) = W at *
  have hl2 := k2.lt
  have h1 := h.1.below hb0
  have hbW := hb0.size
  go_at_call 99; refine (toLeaseS_any _ _ _ _ _ (h1.more hb0.size) (by omega)).mono ?_; rintro e w1 ⟨g1, rfl, ho1, hb1⟩
  have k0 := k0.below hb1 (by omega)
  have k1 := k1.below hb1 (by omega)
  have k2 := k2.below hb1 (by omega)
  have hbA := hb0.trans (hb1.mono hb0.size)
  have hl2 := k2.lt
  have l0 := k0.cell 1
  have l1 := k2.cell 0
  have l2 := k2.frozen 0
  have q1 : w.heap.size + 1 + 1 < W.heap.size := by omega
  clear hb1 h1 hb0
  go_wp2_with fail
  have hb0 := hbA.setCell (p := ⟨w.heap.size + 1 + 1, 0, none⟩) (by simp; omega) (.slice (some ⟨g1, 0, none⟩) n1 n1)
  have k0 := k0.far (p := ⟨w.heap.size + 1 + 1, 0, none⟩) (by simp; omega) (.slice (some ⟨g1, 0, none⟩) n1 n1)
  have k1 := k1.far (p := ⟨w.heap.size + 1 + 1, 0, none⟩) (by simp) (.slice (some ⟨g1, 0, none⟩) n1 n1)
  have k2 := k2.set_ 0 (.slice (some ⟨g1, 0, none⟩) n1 n1)
  have ho1 := ownsRow_setCell_below ho1 (a := ⟨w.heap.size + 1 + 1, 0, none⟩) (by simp; omega) (.slice (some ⟨g1, 0, none⟩) n1 n1)
  clear l0 l1 l2 hbA
  generalize w1.setCell ⟨w.heap.size + 1 + 1, 0, none⟩ (.slice (some ⟨g1, 0, none⟩) n1 n1) = W1 at *
  have hl2 := k2.lt
  have h2 := h.2.1.below hb0
  have hbW1 := hb0.size
  go_at_call 99; refine (toLeaseS_any _ _ _ _ _ (h2.more hb0.size) (by omega)).mono ?_; rintro e w2 ⟨g2, rfl, ho2, hb2⟩
  have hoff := own_offF ho1 ho2
  have k0 := k0.below hb2 (by omega)
  have k1 := k1.below hb2 (by omega)
  have k2 := k2.below hb2 (by omega)
  have hbA := hb0.trans (hb2.mono hb0.size)
  have hl2 := k2.lt
  have l0 := k0.cell 2
  have l1 := k2.cell 1
  have l2 := k2.frozen 1
  have q2 : w.heap.size + 1 + 1 < W1.heap.size := by omega
  have ho1 := own_below ho1 hb2 (Nat.le_refl _)
  clear hb2 h2 hb0
  go_wp2_with fail
  have hb0 := hbA.setCell (p := ⟨w.heap.size + 1 + 1, 1, none⟩) (by simp; omega) (.slice (some ⟨g2, 0, none⟩) n2 n2)
  have k0 := k0.far (p := ⟨w.heap.size + 1 + 1, 1, none⟩) (by simp; omega) (.slice (some ⟨g2, 0, none⟩) n2 n2)
  have k1 := k1.far (p := ⟨w.heap.size + 1 + 1, 1, none⟩) (by simp) (.slice (some ⟨g2, 0, none⟩) n2 n2)
  have k2 := k2.set_ 1 (.slice (some ⟨g2, 0, none⟩) n2 n2)
  have ho1 := ownsRow_setCell_below ho1 (a := ⟨w.heap.size + 1 + 1, 1, none⟩) (by simp; omega) (.slice (some ⟨g2, 0, none⟩) n2 n2)
  have ho2 := ownsRow_setCell_below ho2 (a := ⟨w.heap.size + 1 + 1, 1, none⟩) (by simp; omega) (.slice (some ⟨g2, 0, none⟩) n2 n2)
  clear l0 l1 l2 hbA
  generalize w2.setCell ⟨w.heap.size + 1 + 1, 1, none⟩ (.slice (some ⟨g2, 0, none⟩) n2 n2) = W2 at *
  have hl2 := k2.lt
  have h3 := h.2.2.below hb0
  have hbW2 := hb0.size
  go_at_call 100; refine (toMarkS_any _ _ _ _ _ (h3.more hb0.size) (by omega)).mono ?_; rintro e w3 ⟨g3, rfl, ho3, hb3⟩
  have k0 := k0.below hb3 (by omega)
  have k1 := k1.below hb3 (by omega)
  have k2 := k2.below hb3 (by omega)
  have hbA := hb0.trans (hb3.mono hb0.size)
  have hl2 := k2.lt
  have l1 := k2.cell 2
  have l2 := k2.frozen 2
  have q3 : w.heap.size + 1 + 1 < W2.heap.size := by omega
  have ho1 := own_below ho1 hb3 (Nat.le_refl _)
  have ho2 := own_below ho2 hb3 (Nat.le_refl _)
  clear hb3 h3 hb0
  have r0 := k1.cell 0
  have r1 := k1.cell 1
  have r2 := k1.cell 2
  have s0 := k2.cell 0
  have s1 := k2.cell 1
  have rf0 := k1.frozen 0
  have rf1 := k1.frozen 1
  have rf2 := k1.frozen 2
  go_wp2
  refine bodyPost_ret (v := .agg #[.slice (some ⟨g1, 0, none⟩) n1 n1, .slice (some ⟨g2, 0, none⟩) n2 n2, .slice (some ⟨g3, 0, none⟩) n3 n3]) (by simp [results, Try.results41, go_sem, r0, r1, r2]) rfl ⟨g1, g2, g3, rfl, ⟨?_, ?_, ?_, hoff⟩, ?_⟩
  · exact World.ownsRow.mono (ownsRow_setCell_below (ownsRow_setCell_below (ownsRow_setCell_below (ownsRow_setCell_below (ho1) (by first | (simp; done) | (simp; omega)) _) (by first | (simp; done) | (simp; omega)) _) (by first | (simp; done) | (simp; omega)) _) (by first | (simp; done) | (simp; omega)) _) hbW
  · exact World.ownsRow.mono (ownsRow_setCell_below (ownsRow_setCell_below (ownsRow_setCell_below (ownsRow_setCell_below (ho2) (by first | (simp; done) | (simp; omega)) _) (by first | (simp; done) | (simp; omega)) _) (by first | (simp; done) | (simp; omega)) _) (by first | (simp; done) | (simp; omega)) _) hbW1
  · exact World.ownsRow.mono (ownsRow_setCell_below (ownsRow_setCell_below (ownsRow_setCell_below (ownsRow_setCell_below (ho3) (by first | (simp; done) | (simp; omega)) _) (by first | (simp; done) | (simp; omega)) _) (by first | (simp; done) | (simp; omega)) _) (by first | (simp; done) | (simp; omega)) _) hbW2
  · exact ((((hbA.setCell (by first | (simp; done) | (simp; omega)) _).setCell (by first | (simp; done) | (simp; omega)) _).setCell (by first | (simp; done) | (simp; omega)) _).setCell (by first | (simp; done) | (simp; omega)) _)
theorem szPresence_ok (A1 A2 A3 : Option Addr) (n1 c1 n2 c2 n3 c3 : Nat) (l : Int) (w : World) (h : (n1 : Int) + n2 + n3 ≤ l) (hl : l ≤ 1048576) :
    Calls Try.prog 39 #[.agg #[.slice A1 n1 c1, .slice A2 n2 c2, .slice A3 n3 c3], .int .i64 l] w fun e w' => e = .returned (.int .i64 (l - n1 - n2 - n3)) ∧ Below w.heap.size w w' := by
  go_enter Try.func39, Try.ntmps39
  have x1 : ¬ (l - (n1 : Int) < 0) := by omega
  have x2 : ¬ (l - (n1 : Int) - (n2 : Int) < 0) := by omega
  have x3 : ¬ (l - (n1 : Int) - (n2 : Int) - (n3 : Int) < 0) := by omega
  go_wp2_with fail
  go_at_call 92; refine (szLeaseS_ok _ _ _ _ _ (by omega) (by omega)).mono ?_; rintro e w' ⟨rfl, rfl⟩
  go_wp2_with fail
  go_at_call 92; refine (szLeaseS_ok _ _ _ _ _ (by omega) (by omega)).mono ?_; rintro e w' ⟨rfl, rfl⟩
  go_wp2_with fail
  go_at_call 93; refine (szMarkS_ok _ _ _ _ _ (by omega) (by omega)).mono ?_; rintro e w' ⟨rfl, rfl⟩
  go_wp2
  go_ret
  exact ⟨rfl, (Below.refl _ _).alloc (Nat.le_refl _) _⟩
theorem szPresence_no (A1 A2 A3 : Option Addr) (n1 c1 n2 c2 n3 c3 : Nat) (l : Int) (w : World) (h : ¬ (n1 : Int) + n2 + n3 ≤ l) (h0 : 0 ≤ l) (hl : l ≤ 1048576) (hn1 : (n1 : Int) ≤ 9223372036854775807) (hn2 : (n2 : Int) ≤ 9223372036854775807) (hn3 : (n3 : Int) ≤ 9223372036854775807) :
    Calls Try.prog 39 #[.agg #[.slice A1 n1 c1, .slice A2 n2 c2, .slice A3 n3 c3], .int .i64 l] w fun e w' => e = .returned (.int .i64 (-1)) ∧ Below w.heap.size w w' := by
  by_cases x1 : (n1 : Int) ≤ l
  · by_cases x2 : (n2 : Int) ≤ l - n1
    · go_enter Try.func39, Try.ntmps39
      have y1 : ¬ (l - (n1 : Int) < 0) := by omega
      have y2 : ¬ (l - (n1 : Int) - (n2 : Int) < 0) := by omega
      go_wp2_with fail
      go_at_call 92; refine (szLeaseS_ok _ _ _ _ _ (by omega) (by omega)).mono ?_; rintro e w' ⟨rfl, rfl⟩
      go_wp2_with fail
      go_at_call 92; refine (szLeaseS_ok _ _ _ _ _ (by omega) (by omega)).mono ?_; rintro e w' ⟨rfl, rfl⟩
      go_wp2_with fail
      go_at_call 93; refine (szMarkS_no _ _ _ _ _ (by omega) (by omega) (by omega)).mono ?_; rintro e w' ⟨rfl, rfl⟩
      go_wp2
      go_ret
      exact ⟨rfl, (Below.refl _ _).alloc (Nat.le_refl _) _⟩
    · go_enter Try.func39, Try.ntmps39
      have y1 : ¬ (l - (n1 : Int) < 0) := by omega
      go_wp2_with fail
      go_at_call 92; refine (szLeaseS_ok _ _ _ _ _ (by omega) (by omega)).mono ?_; rintro e w' ⟨rfl, rfl⟩
      go_wp2_with fail
      go_at_call 92; refine (szLeaseS_no _ _ _ _ _ (by omega) (by omega) (by omega)).mono ?_; rintro e w' ⟨rfl, rfl⟩
      go_wp2
      go_ret
      exact ⟨rfl, (Below.refl _ _).alloc (Nat.le_refl _) _⟩
  · go_enter Try.func39, Try.ntmps39
    go_wp2_with fail
    go_at_call 92; refine (szLeaseS_no _ _ _ _ _ (by omega) (by omega) (by omega)).mono ?_; rintro e w' ⟨rfl, rfl⟩
    go_wp2
    go_ret
    exact ⟨rfl, (Below.refl _ _).alloc (Nat.le_refl _) _⟩
set_option maxHeartbeats 800000 in
theorem eqPresence_same (A1 A2 A3 A1' A2' A3' : Option Addr) (n1 c1 n2 c2 n3 c3 n1' c1' n2' c2' n3' c3' : Nat) (hs ts ks : List Bn) (w : World)
    (h : PresAt w w.heap.size A1 n1 A2 n2 A3 n3 hs ts ks) (h' : PresAt w w.heap.size A1' n1' A2' n2' A3' n3' hs ts ks) (hn : n1 + n2 + n3 ≤ 1048576) :
    Calls Try.prog 43 #[.agg #[.slice A1 n1 c1, .slice A2 n2 c2, .slice A3 n3 c3], .agg #[.slice A1' n1' c1', .slice A2' n2' c2', .slice A3' n3' c3']] w fun e w' => e = .returned (.bool true) ∧ Below w.heap.size w w' := by
  go_enter Try.func43, Try.ntmps43
  go_wp2_with fail
  obtain ⟨k0, k1, hb0⟩ := two_boxes w 71 71 #[.slice A1 n1 c1, .slice A2 n2 c2, .slice A3 n3 c3] #[.slice A1' n1' c1', .slice A2' n2' c2', .slice A3' n3' c3']
  generalize ((w.alloc (.cells #[.slice A1 n1 c1, .slice A2 n2 c2, .slice A3 n3 c3] 71)).alloc (.cells #[.slice A1' n1' c1', .slice A2' n2' c2', .slice A3' n3' c3'] 71)) = W at *
  have h := (h.below hb0).more hb0.size
  have h' := (h'.below hb0).more hb0.size
  go_at_call 105; refine (eqLeaseS_same _ _ _ _ _ _ _ _ h.1 h'.1 (by omega)).mono ?_; rintro e w1 ⟨rfl, hb1⟩
  have h := h.to hb1
  have h' := h'.to hb1
  have k0 := k0.below hb1 k0.lt
  have k1 := k1.below hb1 k1.lt
  have hb0 := hb0.trans (hb1.mono hb0.size)
  clear hb1
  have l0 := k0.cell 1
  have l1 := k1.cell 1
  go_wp2_with fail
  go_at_call 105; refine (eqLeaseS_same _ _ _ _ _ _ _ _ h.2.1 h'.2.1 (by omega)).mono ?_; rintro e w2 ⟨rfl, hb1⟩
  have h := h.to hb1
  have h' := h'.to hb1
  have k0 := k0.below hb1 k0.lt
  have k1 := k1.below hb1 k1.lt
  have hb0 := hb0.trans (hb1.mono hb0.size)
  clear hb1 l0 l1
  have l0 := k0.cell 2
  have l1 := k1.cell 2
  go_wp2_with fail
  go_at_call 106; refine (eqMarkS_same _ _ _ _ _ _ _ _ h.2.2 h'.2.2 (by omega)).mono ?_; rintro e w3 ⟨rfl, hb1⟩
  have hb0 := hb0.trans (hb1.mono hb0.size)
  clear hb1 l0 l1
  go_wp2
  go_ret
  exact ⟨rfl, hb0⟩
set_option maxHeartbeats 800000 in
theorem heldPresence_any (A1 A2 A3 : Option Addr) (n1 c1 n2 c2 n3 c3 k0 : Nat) (w : World)
    (h : PresAt w w.heap.size A1 n1 A2 n2 A3 n3 (marksB k0 n1) (marksB (k0 + n1 * 2) n2) (marksB (k0 + n1 * 2 + n2 * 2) n3)) (hn : n1 + n2 + n3 ≤ 1048576) (hk : k0 ≤ 1073741824) :
    Calls Try.prog 45 #[.agg #[.slice A1 n1 c1, .slice A2 n2 c2, .slice A3 n3 c3], .int .i64 k0] w fun e w' => e = .returned (.int .i64 ((k0 + n1 * 2 + n2 * 2 + n3 * 2 : Nat) : Int)) ∧ Below w.heap.size w w' := by
  go_enter Try.func45, Try.ntmps45
  go_wp2_with fail
  obtain ⟨kb, hb0⟩ := one_box w 71 #[.slice A1 n1 c1, .slice A2 n2 c2, .slice A3 n3 c3]
  have h := h.to hb0
  generalize w.alloc (.cells #[.slice A1 n1 c1, .slice A2 n2 c2, .slice A3 n3 c3] 71) = W at *
  have kb1 := kb.cell 1
  have kb2 := kb.cell 2
  have kbl := kb.lt
  have e0 : ¬ (((k0 + n1 * 2 : Nat) : Int) < 0) := by omega
  have e1 : ¬ (((k0 + n1 * 2 + n2 * 2 : Nat) : Int) < 0) := by omega
  have e2 : ¬ (((k0 + n1 * 2 + n2 * 2 + n3 * 2 : Nat) : Int) < 0) := by omega
  go_at_call 109; refine (heldLeaseS_any _ _ _ k0 _ _ h.1 (by omega) (by omega)).mono ?_; rintro e w1 ⟨rfl, rfl⟩
  go_wp2_with fail
  go_at_call 109; refine (heldLeaseS_any _ _ _ (k0 + n1 * 2) _ _ h.2.1 (by omega) (by omega)).mono ?_; rintro e w1 ⟨rfl, rfl⟩
  go_wp2_with fail
  go_at_call 110; refine (heldMarkS_any _ _ _ (k0 + n1 * 2 + n2 * 2) _ _ h.2.2 (by omega) (by omega)).mono ?_; rintro e w1 ⟨rfl, rfl⟩
  go_wp2
  go_ret
  exact ⟨rfl, hb0⟩
def PresSpan (lo hi : Nat) (A1 : Option Addr) (n1 c1 : Nat) (A2 : Option Addr) (n2 c2 : Nat) (A3 : Option Addr) (n3 c3 : Nat) : Prop := Span lo hi (.slice A1 n1 c1) ∧ Span lo hi (.slice A2 n2 c2) ∧ Span lo hi (.slice A3 n3 c3)
theorem PresOwn.span {w : World} {base n1 c1 n2 c2 n3 c3 : Nat} {A1 A2 A3 : Option Addr} {hs ts ks : List Bn} (h : PresOwn w base A1 n1 c1 A2 n2 c2 A3 n3 c3 hs ts ks) : PresSpan base w.heap.size A1 n1 c1 A2 n2 c2 A3 n3 c3 := ⟨span_own h.1, span_own h.2.1, span_own h.2.2.1⟩
theorem PresOwn.moved {w w' : World} {base lo hi lo' hi' n1 c1 n2 c2 n3 c3 : Nat} {A1 A2 A3 : Option Addr} {hs ts ks : List Bn} (h : PresOwn w base A1 n1 c1 A2 n2 c2 A3 n3 c3 hs ts ks) (hm : Moved lo hi w w') (hp : PresSpan lo' hi' A1 n1 c1 A2 n2 c2 A3 n3 c3) (hd : hi' ≤ lo ∨ hi ≤ lo') : PresOwn w' base A1 n1 c1 A2 n2 c2 A3 n3 c3 hs ts ks := ⟨hm.own h.1 hp.1 hd, hm.own h.2.1 hp.2.1 hd, hm.own h.2.2.1 hp.2.2 hd, h.2.2.2⟩
set_option maxHeartbeats 1600000 in
theorem markPresence_mov (A1 A2 A3 : Option Addr) (n1 c1 n2 c2 n3 c3 k0 base hi : Nat) (hs ts ks : List Bn) (w : World)
    (h : PresOwn w base A1 n1 c1 A2 n2 c2 A3 n3 c3 hs ts ks) (hp : PresSpan base hi A1 n1 c1 A2 n2 c2 A3 n3 c3) (hn : n1 + n2 + n3 ≤ 1048576) (hk : k0 ≤ 1073741824) :
    Calls Try.prog 44 #[.agg #[.slice A1 n1 c1, .slice A2 n2 c2, .slice A3 n3 c3], .int .i64 k0] w fun e w' => e = .returned (.int .i64 ((k0 + n1 * 2 + n2 * 2 + n3 * 2 : Nat) : Int)) ∧
      PresOwn w' base A1 n1 c1 A2 n2 c2 A3 n3 c3 (marksB k0 n1) (marksB (k0 + n1 * 2) n2) (marksB (k0 + n1 * 2 + n2 * 2) n3) ∧ Moved base hi w w' := by
  go_enter Try.func44, Try.ntmps44
  go_wp2_with fail
  obtain ⟨b0, hb0⟩ := one_box w 71 #[.slice A1 n1 c1, .slice A2 n2 c2, .slice A3 n3 c3]
  have hh := h.below hb0 (Nat.le_refl _)
  have HM := Lib.hid (Moved.of_below (lo := base) (hi := hi) hb0)
  generalize (w.alloc (.cells #[.slice A1 n1 c1, .slice A2 n2 c2, .slice A3 n3 c3] 71)) = W at *
  clear h hb0
  obtain ⟨h1, h2, h3, h12⟩ := hh
  have h21 : (Value.slice A2 n2 c2).ownBlock = none ∨ (Value.slice A2 n2 c2).ownBlock ≠ (Value.slice A1 n1 c1).ownBlock := by
    rcases h12 with h12 | h12
    · by_cases e : (Value.slice A2 n2 c2).ownBlock = none
      · exact .inl e
      · right; rw [h12]; exact e
    · exact .inr fun e => h12 e.symm
  have H21 := Lib.hid h21
  have H12 := Lib.hid h12
  have HP := Lib.hid hp
  clear h21 h12 hp
  go_at_call 107; refine (markLeaseS_any _ _ _ _ _ _ _ h1 (by omega) (by omega)).mono ?_; rintro e w1 ⟨rfl, ho1, hg1, hz1⟩
  have x3 := own_types2 h3 h1 (by decide)
  have b1 := b0.grown hg1 (blk_apart b0 h1 (by decide))
  have h2 := h2.kept hg1 H21.out
  have h3 := h3.kept hg1 x3
  have HM := Lib.hid (HM.out.trans (Moved.of_grown hg1 fun k hk => HP.out.1 k hk))
  have l0 := b1.cell 1
  have lt0 := b1.lt
  clear h1 hg1 hz1 x3 b0
  go_wp2_with fail
  clear l0 lt0
  go_at_call 107; refine (markLeaseS_any _ _ _ (k0 + n1 * 2) _ _ _ h2 (by omega) (by omega)).mono ?_; rintro e w2 ⟨rfl, ho2, hg2, hz2⟩
  have y3 := own_types2 h3 h2 (by decide)
  have b2 := b1.grown hg2 (blk_apart b1 h2 (by decide))
  have ho1 := ho1.kept hg2 H12.out
  have h3 := h3.kept hg2 y3
  have HM := Lib.hid (HM.out.trans (Moved.of_grown hg2 fun k hk => HP.out.2.1 k hk))
  have l0 := b2.cell 2
  have lt0 := b2.lt
  clear h2 hg2 hz2 y3 b1
  go_wp2_with fail
  clear l0 lt0 b2
  go_at_call 108; refine (markMarkS_any _ _ _ (k0 + n1 * 2 + n2 * 2) _ _ _ h3 (by omega) (by omega)).mono ?_; rintro e w3 ⟨rfl, ho3, hg3, hz3⟩
  have z1 := own_types2 ho1 h3 (by decide)
  have z2 := own_types2 ho2 h3 (by decide)
  have ho1 := ho1.kept hg3 z1
  have ho2 := ho2.kept hg3 z2
  have HM := Lib.hid (HM.out.trans (Moved.of_grown hg3 fun k hk => HP.out.2.2 k hk))
  clear h3 hg3 hz3 z1 z2
  go_wp2
  go_ret
  exact ⟨rfl, ⟨ho1, ho2, ho3, H12.out⟩, HM.out⟩
end Go.Proofs.Ytdpclbmcmgknjaa
