/-
  PointsFor answers as its model for every message, all words and every tick, and leaves its arguments as they were: the law returns true for every message, list of words and number. No condition.
-/
import Derived.Test.YteeodjbionjlmaaRows
import Derived.WalkKit
import Derived.ProofKit
import Derived.OpenShut
import Derived.ShutString
import Derived.ChangeOld
import Derived.Below
import Derived.Lib.Hide
import Derived.Deep.RegionHeld3
import Derived.SliceStrings
import Derived.Test.YteeodjbionjlmaaJyd
import Derived.Test.YteeodjbionjlmaaZMsgA
import Derived.Test.YteeodjbionjlmaaZChainW
namespace Go.Proofs.Yteeodjbionjlmaa.fnExactPointsFor
open Go.ChangeShapes Go.WideShapes Go.ChangeAt Go.RowKit
open Go.ChangeMaps (open_string shut_string)
set_option linter.unusedVariables false
set_option maxRecDepth 100000
set_option maxHeartbeats 400000 in
theorem szStringS_left (A : Option Addr) (n c : Nat) (xs : List ByteArray) (l : Int) (w : World) (h : Row strv w w.heap.size A n xs) (hs : ∀ s ∈ xs, s.size ≤ maxLen) (hn : n ≤ maxLen) (hl0 : 0 ≤ l) (hl1 : l ≤ 1048576) :
    Calls Try.prog 20 #[.slice A n c, .int .i64 l] w fun e w' => ∃ r : Int, e = .returned (.int .i64 r) ∧ w = w' ∧ r ≤ 1048576 ∧ (r < 0 ∨ n ≤ 1048576) ∧ -1 ≤ r := by
  unfold maxLen at hn
  go_enter Try.func20, Try.ntmps20
  by_cases hb : (n : Int) ≤ l
  · have hx : ¬ (l - (n : Int) < 0) := by omega
    go_wp2
    go_loopw [1, 5] (fun q i wr => ∃ (k : Nat) (r : Int), k ≤ n ∧ i = .int .i64 k ∧ q = .int .i64 r ∧ 0 ≤ r ∧ r ≤ 1048576 ∧ wr = w) (fun _ i _ => n - (intOf i).toNat)
    case atStart => exact ⟨0, l - (n : Int), by omega, rfl, by go_num, by omega, by omega, rfl⟩
    case round =>
      obtain ⟨k, r, hk, rfl, rfl, hr0, hr1, rfl⟩ := hrel
      by_cases hkn : k < n
      · obtain ⟨bb, off, z, rfl, hblt, hz, hc⟩ := h.ats hkn
        have hzs : z.size ≤ 9223372036854775807 := hs z (List.mem_of_getElem? hz)
        clear hz hs
        by_cases hneg : r - (z.size : Int) < 0
        · go_wp2
          go_ret
          exact ⟨-1, rfl, rfl, by omega, .inl (by omega), by omega⟩
        · go_wp2
          go_roundw
          case rel => exact ⟨k + 1, r - z.size, by omega, by go_num, by go_num, by omega, by omega, by first | rfl | trivial⟩
          case measure => simp [intOf]; omega
      · go_wp2
        go_ret
        exact ⟨r, rfl, rfl, hr1, .inr (by omega), by omega⟩
  · have hx : l - (n : Int) < 0 := by omega
    go_wp2
    go_ret
    exact ⟨-1, rfl, rfl, by omega, .inl (by omega), by omega⟩
set_option maxHeartbeats 6400000 in
theorem pnt_all (m : Rm) (A : Option Addr) (n c : Nat) (xs : List ByteArray) (t : Int) (w : World) (h0 : RmOk w m) (h1 : Row strv w w.heap.size A n xs) (hsx : ∀ s ∈ xs, s.size ≤ maxLen) (hm : n ≤ maxLen) :
    Calls Try.prog 9 #[.agg #[.int .i64 m.m.num, .int .i64 m.m.sdr, .int .i64 m.m.tick, .string m.m.text, .int .i64 m.m.edits, .bool m.m.gone, .int .i64 m.m.reply, .slice m.la m.ln m.lc], .slice A n c, .int .i64 t] w fun e w' => e = .returned (.bool true) ∧ Below w.heap.size w w' := by
  obtain ⟨r0, hr0⟩ : ∃ z, pntM xs m.m t = z := ⟨_, rfl⟩
  have HR := Lib.hid hr0
  clear hr0
  by_cases hs : m.m.text.size + m.ln ≤ 1048576
  · have hl : m.ln ≤ 1048576 := by omega
    have ht : m.m.text.size ≤ 1048576 := by omega
    go_enter Try.func9, Try.ntmps9
    go_wp2_with fail
    obtain ⟨k0, hb0⟩ := one_box w 37 #[.int .i64 m.m.num, .int .i64 m.m.sdr, .int .i64 m.m.tick, .string m.m.text, .int .i64 m.m.edits, .bool m.m.gone, .int .i64 m.m.reply, .slice m.la m.ln m.lc]
    generalize w.alloc (.cells #[.int .i64 m.m.num, .int .i64 m.m.sdr, .int .i64 m.m.tick, .string m.m.text, .int .i64 m.m.edits, .bool m.m.gone, .int .i64 m.m.reply, .slice m.la m.ln m.lc] 37) = W at *
    have h := h0.1.to hb0
    go_at_call 32; refine (szMessage_ok _ _ _ (by omega) (by omega)).mono ?_; rintro e w1 ⟨rfl, hb1⟩
    have h := h.to hb1
    have k0 := k0.below hb1 k0.lt
    have hb0 := hb0.trans (hb1.mono hb0.size)
    clear hb1
    have x1 : ¬ ((1048576 : Int) - (m.m.text.size : Int) - (m.ln : Int) < 0) := by omega
    go_wp2_with fail
    go_at_call 20; refine (szStringS_left A n c xs _ _ (h1.to hb0) hsx hm (by omega) (by omega)).mono ?_; rintro e w' ⟨r, rfl, rfl, hr1, hr2, hr0⟩
    by_cases hr : r < 0
    · go_wp2
      go_ret
      exact ⟨rfl, hb0⟩
    have hn : n ≤ 1048576 := by omega
    clear hr2
    have HSX := Lib.hid hsx
    clear hsx hm
    have l0 := k0.cell 0; have l1 := k0.cell 1; have l2 := k0.cell 2; have l3 := k0.cell 3; have l4 := k0.cell 4; have l5 := k0.cell 5; have l6 := k0.cell 6; have l7 := k0.cell 7; have lt0 := k0.lt
    go_wp2_with fail
    go_at_call 34; refine (toMessage_any _ _ h hl).mono ?_; rintro e w2 ⟨g1, rfl, ho2, hb1⟩
    have h := h.to hb1
    have k0 := k0.below hb1 k0.lt
    have hb0 := hb0.trans (hb1.mono hb0.size)
    clear hb1
    clear l0 l1 l2 l3 l4 l5 l6 l7 lt0
    go_wp2_with fail
    go_at_call 22; refine (toStringS_any _ _ _ _ _ (h1.to hb0) hn).mono ?_; rintro e w2b ⟨g9, rfl, hy2, hb1⟩
    have h := h.to hb1
    have k0 := k0.below hb1 k0.lt
    have ho2 := own_below ho2 hb1 (Nat.le_refl _)
    have hb0 := hb0.trans (hb1.mono hb0.size)
    clear hb1
    go_wp2_with fail
    go_at_call 33; refine (spec_PointsFor_any ⟨m.m, some ⟨g1, 0, none⟩, m.ln, m.ln⟩ _ _ _ xs t _ (Row.of_own_any ho2) hl ht (Row.of_own_any hy2) hn HSX.out).mono ?_; rw [HR.out]; rintro e w3 ⟨rfl, hb1⟩
    have h := h.to hb1
    have k0 := k0.below hb1 k0.lt
    have hb0 := hb0.trans (hb1.mono hb0.size)
    clear hb1
    clear ho2 hy2
    have l0 := k0.cell 0; have l1 := k0.cell 1; have l2 := k0.cell 2; have l3 := k0.cell 3; have l4 := k0.cell 4; have l5 := k0.cell 5; have l6 := k0.cell 6; have l7 := k0.cell 7; have lt0 := k0.lt
    go_wp2_with fail
    go_at_call 34; refine (toMessage_any _ _ h hl).mono ?_; rintro e w4 ⟨g2, rfl, ho4, hb1⟩
    have h := h.to hb1
    have k0 := k0.below hb1 k0.lt
    have hb0 := hb0.trans (hb1.mono hb0.size)
    clear hb1
    clear l0 l1 l2 l3 l4 l5 l6 l7 lt0
    go_wp2_with fail
    obtain ⟨kx, hb1⟩ := one_box w4 41 #[.int .i64 m.m.num, .int .i64 m.m.sdr, .int .i64 m.m.tick, .string m.m.text, .int .i64 m.m.edits, .bool m.m.gone, .int .i64 m.m.reply, .slice (some ⟨g2, 0, none⟩) m.ln m.ln]
    generalize w4.alloc (.cells #[.int .i64 m.m.num, .int .i64 m.m.sdr, .int .i64 m.m.tick, .string m.m.text, .int .i64 m.m.edits, .bool m.m.gone, .int .i64 m.m.reply, .slice (some ⟨g2, 0, none⟩) m.ln m.ln] 41) = w5 at *
    have h := h.to hb1
    have k0 := k0.below hb1 k0.lt
    have ho := own_below ho4 hb1 (Nat.le_refl _)
    have hb0 := hb0.trans (hb1.mono hb0.size)
    clear hb1 ho4
    go_at_call 22; refine (toStringS_any _ _ _ _ _ (h1.to hb0) hn).mono ?_; rintro e w5b ⟨g8, rfl, hy, hb1⟩
    have h := h.to hb1
    have k0 := k0.below hb1 k0.lt
    have kx := kx.below hb1 kx.lt
    have ho := own_below ho hb1 (Nat.le_refl _)
    have hb0 := hb0.trans (hb1.mono hb0.size)
    clear hb1
    have l0 := kx.cell 0; have l1 := kx.cell 1; have l2 := kx.cell 2; have l3 := kx.cell 3; have l4 := kx.cell 4; have l5 := kx.cell 5; have l6 := kx.cell 6; have l7 := kx.cell 7; have lt0 := kx.lt
    go_wp2_with fail
    clear l0 l1 l2 l3 l4 l5 l6 l7 lt0
    go_at_call 35; refine (impl_PointsFor_any ⟨m.m, some ⟨g2, 0, none⟩, m.ln, m.ln⟩ _ _ _ xs t _ (Row.of_own_any ho) hl ht (Row.of_own_any hy) hn HSX.out).mono ?_; rw [HR.out]; rintro e w6 ⟨rfl, hb1⟩
    have h := h.to hb1
    have k0 := k0.below hb1 k0.lt
    have kx := kx.below hb1 kx.lt
    have ho := own_below ho hb1 (Nat.le_refl _)
    have hy := own_below hy hb1 (Nat.le_refl _)
    have hb0 := hb0.trans (hb1.mono hb0.size)
    clear hb1
    go_wp2_with fail
    have h : Row i64v w6.drew w6.drew.heap.size m.la m.ln m.m.likes := h
    have k0 : Blk w6.drew w.heap.size 37 #[.int .i64 m.m.num, .int .i64 m.m.sdr, .int .i64 m.m.tick, .string m.m.text, .int .i64 m.m.edits, .bool m.m.gone, .int .i64 m.m.reply, .slice m.la m.ln m.lc] := k0
    have kx : Blk w6.drew w4.heap.size 41 #[.int .i64 m.m.num, .int .i64 m.m.sdr, .int .i64 m.m.tick, .string m.m.text, .int .i64 m.m.edits, .bool m.m.gone, .int .i64 m.m.reply, .slice (some ⟨g2, 0, none⟩) m.ln m.ln] := kx
    have ho : w6.drew.ownsRow w3.heap.size 2 1 (.slice (some ⟨g2, 0, none⟩) m.ln m.ln) m.ln (m.m.likes.map i64v) := ho
    have hy : w6.drew.ownsRow w5.heap.size 9 1 (.slice (some ⟨g8, 0, none⟩) n n) n (xs.map strv) := hy
    have hb0 : Below w.heap.size w w6.drew := hb0.drew
    go_region_held3 (fun w' => (w'.cell? ⟨w.heap.size, 0, none⟩ = some (.int .i64 m.m.num) ∧ w'.cell? ⟨w.heap.size, 1, none⟩ = some (.int .i64 m.m.sdr) ∧ w'.cell? ⟨w.heap.size, 2, none⟩ = some (.int .i64 m.m.tick) ∧ w'.cell? ⟨w.heap.size, 3, none⟩ = some (.string m.m.text) ∧ w'.cell? ⟨w.heap.size, 4, none⟩ = some (.int .i64 m.m.edits) ∧ w'.cell? ⟨w.heap.size, 5, none⟩ = some (.bool m.m.gone) ∧ w'.cell? ⟨w.heap.size, 6, none⟩ = some (.int .i64 m.m.reply) ∧ w'.cell? ⟨w.heap.size, 7, none⟩ = some (.slice m.la m.ln m.lc)) ∧ (w'.cell? ⟨w4.heap.size, 0, none⟩ = some (.int .i64 m.m.num) ∧ w'.cell? ⟨w4.heap.size, 1, none⟩ = some (.int .i64 m.m.sdr) ∧ w'.cell? ⟨w4.heap.size, 2, none⟩ = some (.int .i64 m.m.tick) ∧ w'.cell? ⟨w4.heap.size, 3, none⟩ = some (.string m.m.text) ∧ w'.cell? ⟨w4.heap.size, 4, none⟩ = some (.int .i64 m.m.edits) ∧ w'.cell? ⟨w4.heap.size, 5, none⟩ = some (.bool m.m.gone) ∧ w'.cell? ⟨w4.heap.size, 6, none⟩ = some (.int .i64 m.m.reply) ∧ w'.cell? ⟨w4.heap.size, 7, none⟩ = some (.slice (some ⟨g2, 0, none⟩) m.ln m.ln))) (first | exact ⟨⟨k8.cell 0, k8.cell 1, k8.cell 2, k8.cell 3, k8.cell 4, k8.cell 5, k8.cell 6, k8.cell 7⟩, kx8.cell 0, kx8.cell 1, kx8.cell 2, kx8.cell 3, kx8.cell 4, kx8.cell 5, kx8.cell 6, kx8.cell 7⟩ | exact ⟨⟨k7.cell 0, k7.cell 1, k7.cell 2, k7.cell 3, k7.cell 4, k7.cell 5, k7.cell 6, k7.cell 7⟩, kx7.cell 0, kx7.cell 1, kx7.cell 2, kx7.cell 3, kx7.cell 4, kx7.cell 5, kx7.cell 6, kx7.cell 7⟩ | exact ⟨⟨k0.cell 0, k0.cell 1, k0.cell 2, k0.cell 3, k0.cell 4, k0.cell 5, k0.cell 6, k0.cell 7⟩, kx.cell 0, kx.cell 1, kx.cell 2, kx.cell 3, kx.cell 4, kx.cell 5, kx.cell 6, kx.cell 7⟩) ((first | (go_at_call 34; refine (toMessage_any _ _ h hl).mono ?_; rintro e w7 ⟨g7, rfl, ho7, hb7⟩; have k7 := k0.below hb7 k0.lt; have kx7 := kx.below hb7 kx.lt; have hx7 := own_below ho hb7 (Nat.le_refl _); have hy7 := own_below hy hb7 (Nat.le_refl _); have hb07 := hb0.trans (hb7.mono hb0.size)) | (go_at_call 36; refine (eqMessage_same m.m _ _ _ _ _ _ _ (Row.of_own_any hx7) (Row.of_own_any ho7) hl).mono ?_; rintro e w8 ⟨rfl, hb8⟩; have k8 := k7.below hb8 k7.lt; have kx8 := kx7.below hb8 kx7.lt; have hy8 := own_below hy7 hb8 (Nat.le_refl _); have hb08 := hb07.trans (hb8.mono hb07.size))))
    have h1' := h1.to hb08
    go_wp2_with fail
    go_at_call 22; refine (toStringS_any _ _ _ _ _ h1' hn).mono ?_; rintro e w9 ⟨g7', rfl, ht9, hb1⟩
    have hy9 := own_below hy8 hb1 (Nat.le_refl _)
    have hb9 := hb08.trans (hb1.mono hb08.size)
    clear hb1
    go_wp2_with fail
    go_at_call 17; refine (eqStringS_same _ _ _ _ _ _ _ _ _ (Row.of_own_any hy9) (Row.of_own_any ht9) (by omega)).mono ?_; rintro e wq ⟨rfl, hq⟩
    have hb9 := hb9.trans ((drew_below hq).mono hb9.size)
    clear hq
    go_wp2
    go_ret
    exact ⟨rfl, hb9⟩
  · have hb1 : (m.ln : Int) ≤ 9223372036854775807 := by have := h0.2.1; unfold maxLen at this; omega
    have hb2 : (m.m.text.size : Int) ≤ 9223372036854775807 := by have := h0.2.2; unfold maxLen at this; omega
    go_enter Try.func9, Try.ntmps9
    go_wp2_with fail
    obtain ⟨k0, hb0⟩ := one_box w 37 #[.int .i64 m.m.num, .int .i64 m.m.sdr, .int .i64 m.m.tick, .string m.m.text, .int .i64 m.m.edits, .bool m.m.gone, .int .i64 m.m.reply, .slice m.la m.ln m.lc]
    generalize w.alloc (.cells #[.int .i64 m.m.num, .int .i64 m.m.sdr, .int .i64 m.m.tick, .string m.m.text, .int .i64 m.m.edits, .bool m.m.gone, .int .i64 m.m.reply, .slice m.la m.ln m.lc] 37) = W at *
    go_at_call 32; refine (szMessage_no _ _ _ (by omega) (by omega) (by omega) hb2 hb1).mono ?_; rintro e w1 ⟨rfl, hb4⟩
    have hb0 := hb0.trans (hb4.mono hb0.size)
    go_wp2
    go_ret
    exact ⟨rfl, hb0⟩
theorem walk (m : Rm) (A : Option Addr) (n c : Nat) (z : List ByteArray) (t : Int) (w : World) (h0 : RmOk w m) (w1 : IsRowS w A n c z) (_ : (Lit.int .i64 t).wf = true) :
    Calls Try.prog 9 #[.agg #[.int .i64 m.m.num, .int .i64 m.m.sdr, .int .i64 m.m.tick, .string m.m.text, .int .i64 m.m.edits, .bool m.m.gone, .int .i64 m.m.reply, .slice m.la m.ln m.lc], .slice A n c, .int .i64 t] w fun e w' => e = .returned (.bool true) ∧ Below w.heap.size w w' :=
  pnt_all m A n c (z.take n) t w h0 (row_of_isRowS w1) (sizes_of_isRowS w1) (len_of_isRowS w1)

theorem own : ownKnob Try.prog.godebug = none := by kernel_rfl
theorem laidOut : laidOutB Try.prog = true := by kernel_rfl
set_option maxRecDepth 100000 in
theorem lifted (os : Os) (started : os.Started) (H : Type) (enc : TypeId × Value → H) :
    ReturnsInHanded {} Try.checked os 9 .any (Rows.fnExactPointsForSpec.pre6 enc Try.prog Try.f9 Rows.fnExactPointsForRow.domain false) (Rows.fnExactPointsForSpec.post enc Try.prog Try.f9 false true false false) := by
  refine returnsInHanded_of_change (C := Try.checked) own started (by kernel_rfl) Try.func9
    (ChangeSpec.witness6 (enc := enc) (C := Try.checked) false ⟨#[], #[.agg #[.int .i64 0, .int .i64 0, .int .i64 0, .string ByteArray.empty, .int .i64 0, .bool false, .int .i64 0, .slice none 0 0], .slice none 0 0, .int .i64 0], []⟩ 8 (by kernel_rfl) (by kernel_rfl) (by kernel_rfl) (by kernel_rfl)) ?_
  intro W base args ds gs before hval0 hW hcnd _
  have hval : ∀ (j : Nat) t v, Try.f9.params[j]? = some t → args[j]? = some v → Value.okWide Try.prog W .any base t v := hval0
  have hW' := hW
  obtain ⟨p, q, hA0, hV, rfl, hfz, hnd⟩ := hW
  have hA : DataW.TrodAll enc Try.prog W 0 (fun _ => true) true Try.f9.params.toList args.toList ds p := hA0
  rw [Try.params9] at hA hval
  obtain ⟨v0, vs0, d0, ds0, p0, q0, hargs, rfl, rfl, h0, r0⟩ := trodAll_cons hA
  obtain ⟨v1, vs1, d1, ds1, p1, q1, rfl, rfl, rfl, h1, r1⟩ := trodAll_cons r0
  obtain ⟨v2, vs2, d2, ds2, p2, q2, rfl, rfl, rfl, h2, r2⟩ := trodAll_cons r1
  obtain ⟨rfl, rfl, rfl⟩ := trodAll_nil r2
  obtain rfl : args = #[v0, v1, v2] := by cases args; simp_all
  obtain ⟨rfl, rfl⟩ := trodVars_none hV
  have k0 := h0
  have lt0 : ∀ x ∈ p0, x.block < W.heap.size := by obtain ⟨m, hm⟩ := k0; exact DataW.trod_lt m _ _ _ hm
  obtain ⟨m0, rfl, w0⟩ := open_msg (hval 0 37 v0 rfl rfl) h0
  obtain ⟨a1, len1, cap1, rfl⟩ := okWide_slice Try.underlying22 (hval 1 22 v1 rfl rfl)
  have k1 := h1
  have lt1 : ∀ x ∈ p1, x.block < W.heap.size := by obtain ⟨m, hm⟩ := k1; exact DataW.trod_lt m _ _ _ hm
  obtain ⟨z1, w1⟩ : ∃ zs, IsRowS W a1 len1 cap1 zs := by
    obtain ⟨fuel, hf⟩ := h1
    rcases open_strings Try.underlying22 Try.underlying9 (by kernel_rfl) hf with ⟨hcs, _⟩ | ⟨x, l, c, zs, hcs, _, hl, hm, hz, _, hcell, hwz⟩
    · simp [Value.cells] at hcs
      obtain ⟨rfl, rfl, rfl⟩ := hcs
      exact ⟨[], .inl ⟨rfl, rfl, rfl, rfl⟩⟩
    · simp [Value.cells] at hcs
      obtain ⟨rfl, rfl, rfl⟩ := hcs
      exact ⟨zs, .inr ⟨_, rfl, hl, hm, by simpa using hz, hcell, hwz⟩⟩
  obtain ⟨a2, rfl, rfl, rfl, w2⟩ := open_int Try.underlying2 (hval 2 2 v2 rfl rfl) h2
  clear hA0 hval0
  refine (walk m0 a1 len1 cap1 z1 a2 W w0 w1 w2).mono fun e W' ⟨he, bel⟩ => ?_
  subst he
  exact ⟨_, rfl, _, _, _, [], _, [], hW', trodAll_mk1 (shut_bool Try.underlying4 _), (trodAll_cons_mk (Below.trod laidOut (by kernel_rfl) (of_decide_eq_true (by kernel_rfl)) k0 bel lt0) (trodAll_cons_mk (Below.trod laidOut (by kernel_rfl) (of_decide_eq_true (by kernel_rfl)) k1 bel lt1) (trodAll_cons_mk (shut_int Try.underlying2 w2) trodAll_mk0))), rfl, bel.frame _, fun h => by cases h⟩

theorem over : Rows.fnExactPointsForRow.holds Try.pinned (OpenSpec.ofChange Rows.fnExactPointsForSpec) :=
  OpenClaim.holds_of_wide 9 Try.f9 rfl rfl rfl rfl rfl rfl rfl ⟨rfl, rfl, rfl, rfl, rfl⟩ rfl rfl rfl rfl rfl (by kernel_rfl) Try.func9 (by kernel_rfl)
    (of_decide_eq_true (by kernel_rfl)) (by unfold Func.isWrapper; first | (rw [if_pos (by decide +kernel)]; kernel_rfl) | (rw [if_neg (by decide +kernel)]; exact ⟨rfl, rfl⟩))
    (fun os started H enc _ => lifted os started H enc)

theorem proved : Rows.FnExactPointsForSaid := over
#print axioms proved
end Go.Proofs.Yteeodjbionjlmaa.fnExactPointsFor
