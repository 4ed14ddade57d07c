import Derived.Test.YthekkjblgnjmgabDoorChecked
import Derived.WalkKit
import Derived.ProofKit
import Derived.OpenShut
import Derived.ShutString
import Derived.ChangeOld
import Derived.Below
import Derived.Lib.Hide
import Derived.Deep.RegionHeld3
import Derived.Test.YthekkjblgnjmgabDoorZLineI
import Derived.Test.YthekkjblgnjmgabDoorZLogV
namespace Go.Proofs.YthekkjblgnjmgabDoor
open Go.ChangeShapes Go.WideShapes Go.ChangeAt Go.RowKit
open Go.ChangeMaps (open_string shut_string)
set_option linter.unusedVariables false
set_option maxRecDepth 100000
theorem l01Text_s (A : Option Addr) (n c : Nat) (xs : List Int) (w : World) (h : Row i64v w w.heap.size A n xs) (hn : n ≤ 300) (hs : SmallL xs) :
    Calls Tryd.prog 40 #[.slice A n c] w fun e w' => e = .returned (.string (ltS xs)) ∧ Below w.heap.size w w' := by
  cases xs with
  | nil =>
    have h0 : n = 0 := by simpa using h.1.symm
    subst h0
    clear h hs hn
    go_enter Tryd.func40, Tryd.ntmps40
    go_wp2
    go_ret
    exact ⟨rfl, Below.refl _ _⟩
  | cons x r => exact l01Text_any A n c x r w h hn hs
set_option maxHeartbeats 6400000 in
theorem l03Line_any (b o : Nat) (r : Rm) (w : World) (hB : b < w.heap.size) (hc : w.rangeAt b o (rmC r)) (h : Row i64v w w.heap.size r.la r.ln r.m.likes) (hm : msgB r.m = true) :
    Calls Tryd.prog 25 #[.pointer (some ⟨b, o, none⟩)] w fun e w' => e = .returned (.string (lineN r.m)) ∧ Below w.heap.size w w' := by
  have HS := Lib.hid (msg_few hm)
  have hlen := h.1
  have hl2 : r.ln ≤ 20 := by have := HS.out.2.2.1; omega
  obtain ⟨c0, c1, c2, c3, c4, c5, c6, c7⟩ := msg_cells hc
  clear hc
  cases hg : r.m.gone
  · have HN := Lib.hid (show numsOf r.m = [r.m.num, r.m.sdr, r.m.tick, r.m.edits, 0, r.m.reply] by simp [numsOf, hg])
    have HLN := Lib.hid (show lineB r.m = ltS (numsOf r.m) ++ ⟨#[32]⟩ ++ ltS r.m.likes ++ ⟨#[32]⟩ ++ r.m.text from rfl)
    have HZ := Lib.hid (line_size hm)
    have HA := Lib.hid (ltS_size HS.out.1)
    have HB := Lib.hid (ltS_size HS.out.2.1)
    have h6 : (numsOf r.m).length = 6 := rfl
    have h20 := HS.out.2.2
    have d1 : (⟨#[32]⟩ : ByteArray).size = 1 := rfl
    have d2 : (⟨#[10]⟩ : ByteArray).size = 1 := rfl
    have z1 : (ltS (numsOf r.m)).size + (⟨#[32]⟩ : ByteArray).size ≤ 9223372036854775807 := by have := HA.out; omega
    have z2 : (ltS (numsOf r.m) ++ ⟨#[32]⟩).size + (ltS r.m.likes).size ≤ 9223372036854775807 := by have := HA.out; have := HB.out; rw [ByteArray.size_append]; omega
    have z3 : (ltS (numsOf r.m) ++ ⟨#[32]⟩ ++ ltS r.m.likes).size + (⟨#[32]⟩ : ByteArray).size ≤ 9223372036854775807 := by have := HA.out; have := HB.out; simp only [ByteArray.size_append]; omega
    have z4 : (ltS (numsOf r.m) ++ ⟨#[32]⟩ ++ ltS r.m.likes ++ ⟨#[32]⟩).size + r.m.text.size ≤ 9223372036854775807 := by have := HA.out; have := HB.out; simp only [ByteArray.size_append]; omega
    have z5 : (ltS (numsOf r.m) ++ ⟨#[32]⟩ ++ ltS r.m.likes ++ ⟨#[32]⟩ ++ r.m.text).size + (⟨#[10]⟩ : ByteArray).size ≤ 9223372036854775807 := by have := HA.out; have := HB.out; simp only [ByteArray.size_append]; omega
    clear h6 h20 d1 d2
    have e32 : (⟨#[32]⟩ : ByteArray).size = 1 := rfl
    have e10 : (⟨#[10]⟩ : ByteArray).size = 1 := rfl
    have n0 : ¬ (9223372036854775807 < (ltS (numsOf r.m)).size + (⟨#[32]⟩ : ByteArray).size) := by omega
    have y0 : ¬ (9223372036854775807 < (ltS (numsOf r.m)).size + 1) := by have := n0; simp only [e32] at this; omega
    have n1 : ¬ (9223372036854775807 < ((ltS (numsOf r.m)) ++ (⟨#[32]⟩ : ByteArray)).size + (ltS r.m.likes).size) := by omega
    have y1 : ¬ (9223372036854775807 < (ltS (numsOf r.m)).size + 1 + (ltS r.m.likes).size) := by have := n1; simp only [ByteArray.size_append, e32] at this; omega
    have n2 : ¬ (9223372036854775807 < (((ltS (numsOf r.m)) ++ (⟨#[32]⟩ : ByteArray)) ++ (ltS r.m.likes)).size + (⟨#[32]⟩ : ByteArray).size) := by omega
    have y2 : ¬ (9223372036854775807 < (ltS (numsOf r.m)).size + 1 + (ltS r.m.likes).size + 1) := by have := n2; simp only [ByteArray.size_append, e32] at this; omega
    have n3 : ¬ (9223372036854775807 < ((((ltS (numsOf r.m)) ++ (⟨#[32]⟩ : ByteArray)) ++ (ltS r.m.likes)) ++ (⟨#[32]⟩ : ByteArray)).size + r.m.text.size) := by omega
    have y3 : ¬ (9223372036854775807 < (ltS (numsOf r.m)).size + 1 + (ltS r.m.likes).size + 1 + r.m.text.size) := by have := n3; simp only [ByteArray.size_append, e32] at this; omega
    have n4 : ¬ (9223372036854775807 < (((((ltS (numsOf r.m)) ++ (⟨#[32]⟩ : ByteArray)) ++ (ltS r.m.likes)) ++ (⟨#[32]⟩ : ByteArray)) ++ r.m.text).size + (⟨#[10]⟩ : ByteArray).size) := by omega
    have y4 : ¬ (9223372036854775807 < (ltS (numsOf r.m)).size + 1 + (ltS r.m.likes).size + 1 + r.m.text.size + 1) := by have := n4; simp only [ByteArray.size_append, e32, e10] at this; omega
    clear e32 e10
    have hrow : Row i64v ((w.alloc (.cells #[.int .i64 r.m.num, .int .i64 r.m.sdr, .int .i64 r.m.tick, .int .i64 r.m.edits, .int .i64 0, .int .i64 r.m.reply] 2)).drew) (w.heap.size + 1) (some ⟨w.heap.size, 0, none⟩) 6 (numsOf r.m) := by
      rw [HN.out]
      exact row_new6 w 2 r.m.num r.m.sdr r.m.tick r.m.edits 0 r.m.reply
    have hb0 : Below w.heap.size w ((w.alloc (.cells #[.int .i64 r.m.num, .int .i64 r.m.sdr, .int .i64 r.m.tick, .int .i64 r.m.edits, .int .i64 0, .int .i64 r.m.reply] 2)).drew) := ((Below.refl _ _).alloc (Nat.le_refl _) _).drew
    have hs0 : ((w.alloc (.cells #[.int .i64 r.m.num, .int .i64 r.m.sdr, .int .i64 r.m.tick, .int .i64 r.m.edits, .int .i64 0, .int .i64 r.m.reply] 2)).drew).heap.size = w.heap.size + 1 := by simp [World.drew]
    have a0 := (hb0.cell (p := ⟨b, o, none⟩) hB).trans c0
    have a1 := (hb0.cell (p := ⟨b, o + 1, none⟩) hB).trans c1
    have a2 := (hb0.cell (p := ⟨b, o + 2, none⟩) hB).trans c2
    have a3 := (hb0.cell (p := ⟨b, o + 3, none⟩) hB).trans c3
    have a4 := (hb0.cell (p := ⟨b, o + 4, none⟩) hB).trans c4
    have a6 := (hb0.cell (p := ⟨b, o + 6, none⟩) hB).trans c6
    have a7 := (hb0.cell (p := ⟨b, o + 7, none⟩) hB).trans c7
    go_enter Tryd.func25, Tryd.ntmps25
    go_wp2
    go_region_held3 (fun w' => (w'.cell? ⟨b, o, none⟩ = some (.int .i64 r.m.num) ∧ w'.cell? ⟨b, o + 1, none⟩ = some (.int .i64 r.m.sdr) ∧ w'.cell? ⟨b, o + 2, none⟩ = some (.int .i64 r.m.tick) ∧ w'.cell? ⟨b, o + 3, none⟩ = some (.string r.m.text)) ∧ (w'.cell? ⟨b, o + 4, none⟩ = some (.int .i64 r.m.edits) ∧ w'.cell? ⟨b, o + 6, none⟩ = some (.int .i64 r.m.reply) ∧ w'.cell? ⟨b, o + 7, none⟩ = some (.slice r.la r.ln r.lc))) (first | exact ⟨⟨e0, e1, e2, e3⟩, e4, e6, e7⟩ | exact ⟨⟨d0, d1, d2, d3⟩, d4, d6, d7⟩ | exact ⟨⟨a0, a1, a2, a3⟩, a4, a6, a7⟩ | exact ⟨⟨c0, c1, c2, c3⟩, c4, c6, c7⟩) ((first | (go_at_call 40; refine (l01Text_s _ _ _ _ _ ((h.below hq1).more hq1.size) (by omega) HS.out.2.1).mono ?_; rintro e w2 ⟨rfl, hq⟩; have hq2 := hq1.trans (hq.mono hq1.size); have e0 := (hq2.cell (p := ⟨b, o, none⟩) hB).trans c0; have e1 := (hq2.cell (p := ⟨b, o + 1, none⟩) hB).trans c1; have e2 := (hq2.cell (p := ⟨b, o + 2, none⟩) hB).trans c2; have e3 := (hq2.cell (p := ⟨b, o + 3, none⟩) hB).trans c3; have e4 := (hq2.cell (p := ⟨b, o + 4, none⟩) hB).trans c4; have e6 := (hq2.cell (p := ⟨b, o + 6, none⟩) hB).trans c6; have e7 := (hq2.cell (p := ⟨b, o + 7, none⟩) hB).trans c7) | (go_at_call 40; refine (l01Text_s _ _ _ _ _ (hrow.more (by omega)) (by omega) HS.out.1).mono ?_; rintro e w1 ⟨rfl, hq⟩; have hq1 := hb0.trans (hq.mono hb0.size); have d0 := (hq1.cell (p := ⟨b, o, none⟩) hB).trans c0; have d1 := (hq1.cell (p := ⟨b, o + 1, none⟩) hB).trans c1; have d2 := (hq1.cell (p := ⟨b, o + 2, none⟩) hB).trans c2; have d3 := (hq1.cell (p := ⟨b, o + 3, none⟩) hB).trans c3; have d4 := (hq1.cell (p := ⟨b, o + 4, none⟩) hB).trans c4; have d6 := (hq1.cell (p := ⟨b, o + 6, none⟩) hB).trans c6; have d7 := (hq1.cell (p := ⟨b, o + 7, none⟩) hB).trans c7)))
    go_wp2
    go_ret
    exact ⟨by rw [lineN, HLN.out]; rfl, hq2⟩
  · have HN := Lib.hid (show numsOf r.m = [r.m.num, r.m.sdr, r.m.tick, r.m.edits, 1, r.m.reply] by simp [numsOf, hg])
    have HLN := Lib.hid (show lineB r.m = ltS (numsOf r.m) ++ ⟨#[32]⟩ ++ ltS r.m.likes ++ ⟨#[32]⟩ ++ r.m.text from rfl)
    have HZ := Lib.hid (line_size hm)
    have HA := Lib.hid (ltS_size HS.out.1)
    have HB := Lib.hid (ltS_size HS.out.2.1)
    have h6 : (numsOf r.m).length = 6 := rfl
    have h20 := HS.out.2.2
    have d1 : (⟨#[32]⟩ : ByteArray).size = 1 := rfl
    have d2 : (⟨#[10]⟩ : ByteArray).size = 1 := rfl
    have z1 : (ltS (numsOf r.m)).size + (⟨#[32]⟩ : ByteArray).size ≤ 9223372036854775807 := by have := HA.out; omega
    have z2 : (ltS (numsOf r.m) ++ ⟨#[32]⟩).size + (ltS r.m.likes).size ≤ 9223372036854775807 := by have := HA.out; have := HB.out; rw [ByteArray.size_append]; omega
    have z3 : (ltS (numsOf r.m) ++ ⟨#[32]⟩ ++ ltS r.m.likes).size + (⟨#[32]⟩ : ByteArray).size ≤ 9223372036854775807 := by have := HA.out; have := HB.out; simp only [ByteArray.size_append]; omega
    have z4 : (ltS (numsOf r.m) ++ ⟨#[32]⟩ ++ ltS r.m.likes ++ ⟨#[32]⟩).size + r.m.text.size ≤ 9223372036854775807 := by have := HA.out; have := HB.out; simp only [ByteArray.size_append]; omega
    have z5 : (ltS (numsOf r.m) ++ ⟨#[32]⟩ ++ ltS r.m.likes ++ ⟨#[32]⟩ ++ r.m.text).size + (⟨#[10]⟩ : ByteArray).size ≤ 9223372036854775807 := by have := HA.out; have := HB.out; simp only [ByteArray.size_append]; omega
    clear h6 h20 d1 d2
    have e32 : (⟨#[32]⟩ : ByteArray).size = 1 := rfl
    have e10 : (⟨#[10]⟩ : ByteArray).size = 1 := rfl
    have n0 : ¬ (9223372036854775807 < (ltS (numsOf r.m)).size + (⟨#[32]⟩ : ByteArray).size) := by omega
    have y0 : ¬ (9223372036854775807 < (ltS (numsOf r.m)).size + 1) := by have := n0; simp only [e32] at this; omega
    have n1 : ¬ (9223372036854775807 < ((ltS (numsOf r.m)) ++ (⟨#[32]⟩ : ByteArray)).size + (ltS r.m.likes).size) := by omega
    have y1 : ¬ (9223372036854775807 < (ltS (numsOf r.m)).size + 1 + (ltS r.m.likes).size) := by have := n1; simp only [ByteArray.size_append, e32] at this; omega
    have n2 : ¬ (9223372036854775807 < (((ltS (numsOf r.m)) ++ (⟨#[32]⟩ : ByteArray)) ++ (ltS r.m.likes)).size + (⟨#[32]⟩ : ByteArray).size) := by omega
    have y2 : ¬ (9223372036854775807 < (ltS (numsOf r.m)).size + 1 + (ltS r.m.likes).size + 1) := by have := n2; simp only [ByteArray.size_append, e32] at this; omega
    have n3 : ¬ (9223372036854775807 < ((((ltS (numsOf r.m)) ++ (⟨#[32]⟩ : ByteArray)) ++ (ltS r.m.likes)) ++ (⟨#[32]⟩ : ByteArray)).size + r.m.text.size) := by omega
    have y3 : ¬ (9223372036854775807 < (ltS (numsOf r.m)).size + 1 + (ltS r.m.likes).size + 1 + r.m.text.size) := by have := n3; simp only [ByteArray.size_append, e32] at this; omega
    have n4 : ¬ (9223372036854775807 < (((((ltS (numsOf r.m)) ++ (⟨#[32]⟩ : ByteArray)) ++ (ltS r.m.likes)) ++ (⟨#[32]⟩ : ByteArray)) ++ r.m.text).size + (⟨#[10]⟩ : ByteArray).size) := by omega
    have y4 : ¬ (9223372036854775807 < (ltS (numsOf r.m)).size + 1 + (ltS r.m.likes).size + 1 + r.m.text.size + 1) := by have := n4; simp only [ByteArray.size_append, e32, e10] at this; omega
    clear e32 e10
    have hrow : Row i64v ((w.alloc (.cells #[.int .i64 r.m.num, .int .i64 r.m.sdr, .int .i64 r.m.tick, .int .i64 r.m.edits, .int .i64 1, .int .i64 r.m.reply] 2)).drew) (w.heap.size + 1) (some ⟨w.heap.size, 0, none⟩) 6 (numsOf r.m) := by
      rw [HN.out]
      exact row_new6 w 2 r.m.num r.m.sdr r.m.tick r.m.edits 1 r.m.reply
    have hb0 : Below w.heap.size w ((w.alloc (.cells #[.int .i64 r.m.num, .int .i64 r.m.sdr, .int .i64 r.m.tick, .int .i64 r.m.edits, .int .i64 1, .int .i64 r.m.reply] 2)).drew) := ((Below.refl _ _).alloc (Nat.le_refl _) _).drew
    have hs0 : ((w.alloc (.cells #[.int .i64 r.m.num, .int .i64 r.m.sdr, .int .i64 r.m.tick, .int .i64 r.m.edits, .int .i64 1, .int .i64 r.m.reply] 2)).drew).heap.size = w.heap.size + 1 := by simp [World.drew]
    have a0 := (hb0.cell (p := ⟨b, o, none⟩) hB).trans c0
    have a1 := (hb0.cell (p := ⟨b, o + 1, none⟩) hB).trans c1
    have a2 := (hb0.cell (p := ⟨b, o + 2, none⟩) hB).trans c2
    have a3 := (hb0.cell (p := ⟨b, o + 3, none⟩) hB).trans c3
    have a4 := (hb0.cell (p := ⟨b, o + 4, none⟩) hB).trans c4
    have a6 := (hb0.cell (p := ⟨b, o + 6, none⟩) hB).trans c6
    have a7 := (hb0.cell (p := ⟨b, o + 7, none⟩) hB).trans c7
    go_enter Tryd.func25, Tryd.ntmps25
    go_wp2
    go_region_held3 (fun w' => (w'.cell? ⟨b, o, none⟩ = some (.int .i64 r.m.num) ∧ w'.cell? ⟨b, o + 1, none⟩ = some (.int .i64 r.m.sdr) ∧ w'.cell? ⟨b, o + 2, none⟩ = some (.int .i64 r.m.tick) ∧ w'.cell? ⟨b, o + 3, none⟩ = some (.string r.m.text)) ∧ (w'.cell? ⟨b, o + 4, none⟩ = some (.int .i64 r.m.edits) ∧ w'.cell? ⟨b, o + 6, none⟩ = some (.int .i64 r.m.reply) ∧ w'.cell? ⟨b, o + 7, none⟩ = some (.slice r.la r.ln r.lc))) (first | exact ⟨⟨e0, e1, e2, e3⟩, e4, e6, e7⟩ | exact ⟨⟨d0, d1, d2, d3⟩, d4, d6, d7⟩ | exact ⟨⟨a0, a1, a2, a3⟩, a4, a6, a7⟩ | exact ⟨⟨c0, c1, c2, c3⟩, c4, c6, c7⟩) ((first | (go_at_call 40; refine (l01Text_s _ _ _ _ _ ((h.below hq1).more hq1.size) (by omega) HS.out.2.1).mono ?_; rintro e w2 ⟨rfl, hq⟩; have hq2 := hq1.trans (hq.mono hq1.size); have e0 := (hq2.cell (p := ⟨b, o, none⟩) hB).trans c0; have e1 := (hq2.cell (p := ⟨b, o + 1, none⟩) hB).trans c1; have e2 := (hq2.cell (p := ⟨b, o + 2, none⟩) hB).trans c2; have e3 := (hq2.cell (p := ⟨b, o + 3, none⟩) hB).trans c3; have e4 := (hq2.cell (p := ⟨b, o + 4, none⟩) hB).trans c4; have e6 := (hq2.cell (p := ⟨b, o + 6, none⟩) hB).trans c6; have e7 := (hq2.cell (p := ⟨b, o + 7, none⟩) hB).trans c7) | (go_at_call 40; refine (l01Text_s _ _ _ _ _ (hrow.more (by omega)) (by omega) HS.out.1).mono ?_; rintro e w1 ⟨rfl, hq⟩; have hq1 := hb0.trans (hq.mono hb0.size); have d0 := (hq1.cell (p := ⟨b, o, none⟩) hB).trans c0; have d1 := (hq1.cell (p := ⟨b, o + 1, none⟩) hB).trans c1; have d2 := (hq1.cell (p := ⟨b, o + 2, none⟩) hB).trans c2; have d3 := (hq1.cell (p := ⟨b, o + 3, none⟩) hB).trans c3; have d4 := (hq1.cell (p := ⟨b, o + 4, none⟩) hB).trans c4; have d6 := (hq1.cell (p := ⟨b, o + 6, none⟩) hB).trans c6; have d7 := (hq1.cell (p := ⟨b, o + 7, none⟩) hB).trans c7)))
    go_wp2
    go_ret
    exact ⟨by rw [lineN, HLN.out]; rfl, hq2⟩
end Go.Proofs.YthekkjblgnjmgabDoor
