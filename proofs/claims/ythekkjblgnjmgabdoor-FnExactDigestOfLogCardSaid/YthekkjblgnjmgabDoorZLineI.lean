import Derived.Test.YthekkjblgnjmgabDoorChecked
import Derived.WalkKit
import Derived.ProofKit
import Derived.OpenShut
import Derived.ShutString
import Derived.ChangeOld
import Derived.Below
import Derived.Lib.Hide
import Derived.Deep.RegionHeld3
import Derived.Test.YthekkjblgnjmgabDoorZBuildW
import Derived.Test.YthekkjblgnjmgabDoorZMsgT
namespace Go.Proofs.YthekkjblgnjmgabDoor
open Go.ChangeShapes Go.WideShapes Go.ChangeAt Go.RowKit
open Go.ChangeMaps (open_string shut_string)
set_option linter.unusedVariables false
set_option maxRecDepth 100000
theorem Pow10.to {w w' : World} (h : Pow10 w) (hb : Below w.heap.size w w') : Pow10 w' := h.below hb
set_option maxHeartbeats 3200000 in
theorem lineOf_any (r : Rm) (w : World) (h : Row i64v w w.heap.size r.la r.ln r.m.likes) (hm : msgB r.m = true) (hL : Pow10 w) :
    Calls Tryd.prog 17 #[.agg #[.int .i64 r.m.num, .int .i64 r.m.sdr, .int .i64 r.m.tick, .string r.m.text, .int .i64 r.m.edits, .bool r.m.gone, .int .i64 r.m.reply, .slice r.la r.ln r.lc]] w fun e w' => e = .returned (.string (lineB r.m)) ∧ Below w.heap.size w w' := by
  have HS := Lib.hid (msg_few hm)
  have hlen := h.1
  have hl2 : r.ln ≤ 20 := by have := HS.out.2.2.1; omega
  cases hg : r.m.gone
  · have HN := Lib.hid (show numsOf r.m = [r.m.num, r.m.sdr, r.m.tick, r.m.edits, 0, r.m.reply] by simp [numsOf, hg])
    have HLN := Lib.hid (show lineB r.m = ltS (numsOf r.m) ++ ⟨#[32]⟩ ++ ltS r.m.likes ++ ⟨#[32]⟩ ++ r.m.text from rfl)
    have HZ := Lib.hid (line_size hm)
    have HA := Lib.hid (ltS_size HS.out.1)
    have HB := Lib.hid (ltS_size HS.out.2.1)
    have h6 : (numsOf r.m).length = 6 := rfl
    have h20 := HS.out.2.2
    have d1 : (⟨#[32]⟩ : ByteArray).size = 1 := rfl
    have d2 : (⟨#[10]⟩ : ByteArray).size = 1 := rfl
    have z1 : (ltS (numsOf r.m)).size + (⟨#[32]⟩ : ByteArray).size ≤ 9223372036854775807 := by have := HA.out; omega
    have z2 : (ltS (numsOf r.m) ++ ⟨#[32]⟩).size + (ltS r.m.likes).size ≤ 9223372036854775807 := by have := HA.out; have := HB.out; rw [ByteArray.size_append]; omega
    have z3 : (ltS (numsOf r.m) ++ ⟨#[32]⟩ ++ ltS r.m.likes).size + (⟨#[32]⟩ : ByteArray).size ≤ 9223372036854775807 := by have := HA.out; have := HB.out; simp only [ByteArray.size_append]; omega
    have z4 : (ltS (numsOf r.m) ++ ⟨#[32]⟩ ++ ltS r.m.likes ++ ⟨#[32]⟩).size + r.m.text.size ≤ 9223372036854775807 := by have := HA.out; have := HB.out; simp only [ByteArray.size_append]; omega
    have z5 : (ltS (numsOf r.m) ++ ⟨#[32]⟩ ++ ltS r.m.likes ++ ⟨#[32]⟩ ++ r.m.text).size + (⟨#[10]⟩ : ByteArray).size ≤ 9223372036854775807 := by have := HA.out; have := HB.out; simp only [ByteArray.size_append]; omega
    clear h6 h20 d1 d2
    go_enter Tryd.func17, Tryd.ntmps17
    go_wp2_with fail
    have hrow : Row i64v ((w.alloc (.cells #[.int .i64 r.m.num, .int .i64 r.m.sdr, .int .i64 r.m.tick, .string r.m.text, .int .i64 r.m.edits, .bool false, .int .i64 r.m.reply, .slice r.la r.ln r.lc] 52)).alloc (.cells #[.int .i64 r.m.num, .int .i64 r.m.sdr, .int .i64 r.m.tick, .int .i64 r.m.edits, .int .i64 0, .int .i64 r.m.reply] 2)) (w.heap.size + 2) (some ⟨w.heap.size + 1, 0, none⟩) 6 (numsOf r.m) := by
      rw [HN.out]
      have := row_new6 (w.alloc (.cells #[.int .i64 r.m.num, .int .i64 r.m.sdr, .int .i64 r.m.tick, .string r.m.text, .int .i64 r.m.edits, .bool false, .int .i64 r.m.reply, .slice r.la r.ln r.lc] 52)) 2 r.m.num r.m.sdr r.m.tick r.m.edits 0 r.m.reply
      rwa [show (w.alloc (.cells #[.int .i64 r.m.num, .int .i64 r.m.sdr, .int .i64 r.m.tick, .string r.m.text, .int .i64 r.m.edits, .bool false, .int .i64 r.m.reply, .slice r.la r.ln r.lc] 52)).heap.size = w.heap.size + 1 by simp] at this
    obtain ⟨kM, kN, hb0⟩ := two_boxes w 52 2 #[.int .i64 r.m.num, .int .i64 r.m.sdr, .int .i64 r.m.tick, .string r.m.text, .int .i64 r.m.edits, .bool false, .int .i64 r.m.reply, .slice r.la r.ln r.lc] #[.int .i64 r.m.num, .int .i64 r.m.sdr, .int .i64 r.m.tick, .int .i64 r.m.edits, .int .i64 0, .int .i64 r.m.reply]
    generalize ((w.alloc (.cells #[.int .i64 r.m.num, .int .i64 r.m.sdr, .int .i64 r.m.tick, .string r.m.text, .int .i64 r.m.edits, .bool false, .int .i64 r.m.reply, .slice r.la r.ln r.lc] 52)).alloc (.cells #[.int .i64 r.m.num, .int .i64 r.m.sdr, .int .i64 r.m.tick, .int .i64 r.m.edits, .int .i64 0, .int .i64 r.m.reply] 2)) = W at *
    have hWs := kN.lt
    go_at_call 31; refine (impl_ListText_yes _ _ _ _ _ (hrow.more (by omega)) (by omega) (few_all HS.out.1 rfl) (hL.to hb0)).mono ?_; rintro e w1 ⟨rfl, hb1⟩
    have kM := kM.below hb1 kM.lt
    have hb0 := hb0.trans (hb1.mono hb0.size)
    clear hb1 kN hrow hWs
    have h := (h.below hb0).more hb0.size
    have m3 := kM.cell 3; have m7 := kM.cell 7; have mlt := kM.lt
    go_wp2_with fail
    go_at_call 31; refine (impl_ListText_yes _ _ _ _ _ h (by omega) (few_all HS.out.2.1 hlen) (hL.to hb0)).mono ?_; rintro e w2 ⟨rfl, hb1⟩
    have kM := kM.below hb1 kM.lt
    have hb0 := hb0.trans (hb1.mono hb0.size)
    clear hb1 m3 m7 mlt
    have m3 := kM.cell 3; have mlt := kM.lt
    go_wp2
    go_ret
    exact ⟨by rw [HLN.out]; rfl, hb0⟩
  · have HN := Lib.hid (show numsOf r.m = [r.m.num, r.m.sdr, r.m.tick, r.m.edits, 1, r.m.reply] by simp [numsOf, hg])
    have HLN := Lib.hid (show lineB r.m = ltS (numsOf r.m) ++ ⟨#[32]⟩ ++ ltS r.m.likes ++ ⟨#[32]⟩ ++ r.m.text from rfl)
    have HZ := Lib.hid (line_size hm)
    have HA := Lib.hid (ltS_size HS.out.1)
    have HB := Lib.hid (ltS_size HS.out.2.1)
    have h6 : (numsOf r.m).length = 6 := rfl
    have h20 := HS.out.2.2
    have d1 : (⟨#[32]⟩ : ByteArray).size = 1 := rfl
    have d2 : (⟨#[10]⟩ : ByteArray).size = 1 := rfl
    have z1 : (ltS (numsOf r.m)).size + (⟨#[32]⟩ : ByteArray).size ≤ 9223372036854775807 := by have := HA.out; omega
    have z2 : (ltS (numsOf r.m) ++ ⟨#[32]⟩).size + (ltS r.m.likes).size ≤ 9223372036854775807 := by have := HA.out; have := HB.out; rw [ByteArray.size_append]; omega
    have z3 : (ltS (numsOf r.m) ++ ⟨#[32]⟩ ++ ltS r.m.likes).size + (⟨#[32]⟩ : ByteArray).size ≤ 9223372036854775807 := by have := HA.out; have := HB.out; simp only [ByteArray.size_append]; omega
    have z4 : (ltS (numsOf r.m) ++ ⟨#[32]⟩ ++ ltS r.m.likes ++ ⟨#[32]⟩).size + r.m.text.size ≤ 9223372036854775807 := by have := HA.out; have := HB.out; simp only [ByteArray.size_append]; omega
    have z5 : (ltS (numsOf r.m) ++ ⟨#[32]⟩ ++ ltS r.m.likes ++ ⟨#[32]⟩ ++ r.m.text).size + (⟨#[10]⟩ : ByteArray).size ≤ 9223372036854775807 := by have := HA.out; have := HB.out; simp only [ByteArray.size_append]; omega
    clear h6 h20 d1 d2
    go_enter Tryd.func17, Tryd.ntmps17
    go_wp2_with fail
    have hrow : Row i64v ((w.alloc (.cells #[.int .i64 r.m.num, .int .i64 r.m.sdr, .int .i64 r.m.tick, .string r.m.text, .int .i64 r.m.edits, .bool true, .int .i64 r.m.reply, .slice r.la r.ln r.lc] 52)).alloc (.cells #[.int .i64 r.m.num, .int .i64 r.m.sdr, .int .i64 r.m.tick, .int .i64 r.m.edits, .int .i64 1, .int .i64 r.m.reply] 2)) (w.heap.size + 2) (some ⟨w.heap.size + 1, 0, none⟩) 6 (numsOf r.m) := by
      rw [HN.out]
      have := row_new6 (w.alloc (.cells #[.int .i64 r.m.num, .int .i64 r.m.sdr, .int .i64 r.m.tick, .string r.m.text, .int .i64 r.m.edits, .bool true, .int .i64 r.m.reply, .slice r.la r.ln r.lc] 52)) 2 r.m.num r.m.sdr r.m.tick r.m.edits 1 r.m.reply
      rwa [show (w.alloc (.cells #[.int .i64 r.m.num, .int .i64 r.m.sdr, .int .i64 r.m.tick, .string r.m.text, .int .i64 r.m.edits, .bool true, .int .i64 r.m.reply, .slice r.la r.ln r.lc] 52)).heap.size = w.heap.size + 1 by simp] at this
    obtain ⟨kM, kN, hb0⟩ := two_boxes w 52 2 #[.int .i64 r.m.num, .int .i64 r.m.sdr, .int .i64 r.m.tick, .string r.m.text, .int .i64 r.m.edits, .bool true, .int .i64 r.m.reply, .slice r.la r.ln r.lc] #[.int .i64 r.m.num, .int .i64 r.m.sdr, .int .i64 r.m.tick, .int .i64 r.m.edits, .int .i64 1, .int .i64 r.m.reply]
    generalize ((w.alloc (.cells #[.int .i64 r.m.num, .int .i64 r.m.sdr, .int .i64 r.m.tick, .string r.m.text, .int .i64 r.m.edits, .bool true, .int .i64 r.m.reply, .slice r.la r.ln r.lc] 52)).alloc (.cells #[.int .i64 r.m.num, .int .i64 r.m.sdr, .int .i64 r.m.tick, .int .i64 r.m.edits, .int .i64 1, .int .i64 r.m.reply] 2)) = W at *
    have hWs := kN.lt
    go_at_call 31; refine (impl_ListText_yes _ _ _ _ _ (hrow.more (by omega)) (by omega) (few_all HS.out.1 rfl) (hL.to hb0)).mono ?_; rintro e w1 ⟨rfl, hb1⟩
    have kM := kM.below hb1 kM.lt
    have hb0 := hb0.trans (hb1.mono hb0.size)
    clear hb1 kN hrow hWs
    have h := (h.below hb0).more hb0.size
    have m3 := kM.cell 3; have m7 := kM.cell 7; have mlt := kM.lt
    go_wp2_with fail
    go_at_call 31; refine (impl_ListText_yes _ _ _ _ _ h (by omega) (few_all HS.out.2.1 hlen) (hL.to hb0)).mono ?_; rintro e w2 ⟨rfl, hb1⟩
    have kM := kM.below hb1 kM.lt
    have hb0 := hb0.trans (hb1.mono hb0.size)
    clear hb1 m3 m7 mlt
    have m3 := kM.cell 3; have mlt := kM.lt
    go_wp2
    go_ret
    exact ⟨by rw [HLN.out]; rfl, hb0⟩
end Go.Proofs.YthekkjblgnjmgabDoor
