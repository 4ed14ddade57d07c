import Derived.Test.YtblkonfphaalhaaChecked
import Derived.WalkKit
import Derived.ProofKit
import Derived.OpenShut
import Derived.ShutString
import Derived.ChangeOld
import Derived.Below
import Derived.Lib.Hide
import Derived.RegionTactic
import Derived.ChangeAlike
import Derived.BigRegion
import Derived.Deep.RegionHeld3
import Derived.Deep.QuietTactic
import Derived.BigQuiet
import Derived.IntWalk
import Derived.WalkSpells
import Derived.WalkLawsBesides
import Derived.Laws.IdiomStrings
import Derived.Laws.Cover3
import Derived.Test.YtblkonfphaalhaaReadHexS
import Derived.Test.YtblkonfphaalhaaHexTextC
import Derived.Test.YtblkonfphaalhaaIsMembersC
namespace Go.Proofs.Ytblkonfphaalhaa
open Go.ChangeShapes Go.WideShapes Go.ChangeAt Go.RowKit
open Go.ChangeMaps (open_string shut_string)
set_option linter.unusedVariables false
theorem hexValue_any (c : Int) (w : World) (h0 : 0 ≤ c) (h1 : c < 256) :
    Calls Try.prog 63 #[.int .u8 c] w fun e w' => e = .returned (.int .u8 (hv c)) ∧ w = w' := by
  by_cases a : 97 ≤ c
  · have e : hv c = c - 97 + 10 := by unfold hv; rw [if_pos a]
    have E := Lib.hid e
    clear e
    go_enter Try.func63, Try.ntmps63
    go_wp2
    go_ret
    exact ⟨ret_int E.out.symm, rfl⟩
  · have e : hv c = (c - 48) % 256 := by unfold hv; rw [if_neg a]
    have E := Lib.hid e
    clear e
    by_cases b : 48 ≤ c
    · go_enter Try.func63, Try.ntmps63
      go_wp2
      go_ret
      exact ⟨ret_int (by rw [E.out]; show c - 48 = _; omega), rfl⟩
    · go_enter Try.func63, Try.ntmps63
      go_wp2
      go_ret
      exact ⟨ret_int E.out.symm, rfl⟩
theorem eq_two (d : Nat) (x y z v : Int) (w : World) :
    (Op.equalIn (d + 2) 51 (.agg #[.int .u8 x, .int .u8 y]) (.agg #[.int .u8 z, .int .u8 v])).run Try.prog w = .ok (x == z && y == v) w := by
  have he : Try.prog.underlying 5 = some (.int .u8) := Try.underlying5
  have hsz : ∀ w, (sizeOf 5).run Try.prog w = .ok 1 w := fun _ => by kernel_rfl
  have p0 : ∀ a b : Int, (part 5 #[.int .u8 a, .int .u8 b] (0 * 1)).run Try.prog w = .ok (.int .u8 a) w := fun a b => by simp [part, isAgg, run_underlying he]
  have p1 : ∀ a b : Int, (part 5 #[.int .u8 a, .int .u8 b] (1 * 1)).run Try.prog w = .ok (.int .u8 b) w := fun a b => by simp [part, isAgg, run_underlying he]
  rw [Op.equalIn]
  simp only [Sem.run_bind, run_underlying Try.underlying51, Result.andThen_ok, hsz, Std.Legacy.Range.forIn_eq_forIn_range', Std.Legacy.Range.size, Nat.sub_zero, Nat.add_sub_cancel, Nat.div_one]
  have hl : List.range' 0 2 1 = [0, 1] := rfl
  rw [hl]
  simp only [List.forIn_cons, List.forIn_nil, Sem.run_bind, p0, run_equalIn_int w d 5 .u8 .u8 _ _ he, Result.andThen_ok]
  have p1' : ∀ a b : Int, (part 5 #[.int .u8 a, .int .u8 b] 1).run Try.prog w = .ok (.int .u8 b) w := p1
  cases h1 : (x == z) <;> cases h2 : (y == v) <;> simp [h2, p1', run_equalIn_int w d 5 .u8 .u8 _ _ he]
theorem bits_two16 : ∀ x y : Fin 16, bits BinOp.or IntKind.u8 ((x.1 : Int) * 16 % 256) (y.1 : Int) = 16 * (x.1 : Int) + (y.1 : Int) := by decide
theorem bits_u8 (a b : Int) : 0 ≤ bits BinOp.or IntKind.u8 a b ∧ bits BinOp.or IntKind.u8 a b < 256 := by
  have h1 := bits_lo_u8 BinOp.or a b
  have h2 := bits_hi_u8 BinOp.or a b
  omega
theorem bits_two (a b : Int) (a0 : 0 ≤ a) (a1 : a < 256) (b0 : 0 ≤ b) (b1 : b < 256) (x : 0 ≤ nib a) (y : 0 ≤ nib b) :
    bits BinOp.or IntKind.u8 (hv a * 16 % 256) (hv b) = 16 * nib a + nib b := by
  have ha := nib_bd a
  have hb := nib_bd b
  rw [hv_nib a a0 a1 x, hv_nib b b0 b1 y]
  have := bits_two16 ⟨(nib a).toNat, by omega⟩ ⟨(nib b).toNat, by omega⟩
  simp only at this
  rw [Int.toNat_of_nonneg x, Int.toNat_of_nonneg y] at this
  exact this
theorem conv_two (s : ByteArray) (w : World) (a : Nat) (h : a + 1 < s.size) :
    ∃ C w1, (convert 9 50 (.string (s.extract a (a + 2)))).run Try.prog w = .ok (.slice (some ⟨w.heap.size, 0, none⟩) 2 C) w1 ∧ Below w.heap.size w w1 ∧
      w1.cell? ⟨w.heap.size, 0, none⟩ = some (.int .u8 s[a].toNat) ∧ w1.cell? ⟨w.heap.size, 1, none⟩ = some (.int .u8 s[a + 1].toNat) ∧ w.heap.size + 1 ≤ w1.heap.size := by
  have hs2 : (s.extract a (a + 2)).size = 2 := by simp; omega
  have hr := run_bytes_of_string (P := Try.prog) w 9 50 5 (s.extract a (a + 2)) Try.underlying9 Try.underlying50 Try.underlying5
  rw [hs2] at hr
  have hd0 : (s.extract a (a + 2)).data[0]? = some s[a] := by
    have : (s.extract a (a + 2)).data = s.data.extract a (a + 2) := by simp
    rw [this, Array.getElem?_extract]
    rw [if_pos (by have : s.data.size = s.size := rfl; omega)]
    simp [ByteArray.getElem_eq_getElem_data]
  have hd1 : (s.extract a (a + 2)).data[1]? = some s[a + 1] := by
    have : (s.extract a (a + 2)).data = s.data.extract a (a + 2) := by simp
    rw [this, Array.getElem?_extract]
    rw [if_pos (by have : s.data.size = s.size := rfl; omega)]
    simp [ByteArray.getElem_eq_getElem_data]
  refine ⟨_, _, hr, ((Below.refl _ _).alloc (Nat.le_refl _) _).drew, ?_, ?_, by simp⟩
  · have hg : (w.drew.alloc (.cells (bytesRow (s.extract a (a + 2)) (grownCap w 2 0 5)) 5 ((bytesRow (s.extract a (a + 2)) (grownCap w 2 0 5)).size, (bytesRow (s.extract a (a + 2)) (grownCap w 2 0 5)).size + 1))).heap[w.heap.size]? = some _ := heap_alloc_new w.drew _
    rw [cell_of_row _ _ _ _ _ _ hg, bytesRow, Array.getElem?_append_left (by simp; omega)]
    rw [Array.getElem?_map, hd0]; rfl
  · have hg : (w.drew.alloc (.cells (bytesRow (s.extract a (a + 2)) (grownCap w 2 0 5)) 5 ((bytesRow (s.extract a (a + 2)) (grownCap w 2 0 5)).size, (bytesRow (s.extract a (a + 2)) (grownCap w 2 0 5)).size + 1))).heap[w.heap.size]? = some _ := heap_alloc_new w.drew _
    rw [cell_of_row _ _ _ _ _ _ hg, bytesRow, Array.getElem?_append_left (by simp; omega)]
    rw [Array.getElem?_map, hd1]; rfl
set_option maxHeartbeats 800000 in
set_option maxRecDepth 100000 in
theorem impl_ReadHex_go (s : ByteArray) (w : World) (hs : s.size ≤ 8000) (he : s.size % 2 = 0) :
    Calls Try.prog 30 #[.string s] w fun e w' => e = rhOut s ∧ Below w.heap.size w w' := by
  have he2 : ((s.size : Int) % 2 != 0) = false := by simp; omega
  have HE := Lib.hid he
  clear he
  obtain ⟨i0, hi, hz0, hz1, hz2⟩ := info_parts Try.info_u8
  go_enter Try.func30, Try.ntmps30
  go_wp2_with (at_make; refine wpList_make_own _ rfl _ _ 50 rfl w.heap.size 5 i0 (.int .u8 0) 1 Try.underlying50 hi hz0 hz1 _ _ _ (s.size / 2) rfl rfl (by omega) (by rw [hz2]; omega) (by unfold maxLen; omega) (Nat.le_refl _) ?_; intro w0 hown0 hgrow0)
  have hbel0 : Below w.heap.size w w0 := (Below.refl _ _).grown hgrow0 (Nat.le_refl _) (by simp)
  clear hgrow0
  go_loopw [4, 5] (fun v i wr => ∃ k : Nat, 2 * k ≤ s.size ∧ i = .int .i64 ((2 * k : Nat) : Int) ∧ wr.ownsRow w.heap.size 5 1 v k ((unhL s k).map (Value.int .u8)) ∧ Below w.heap.size w wr ∧ HexTo s (2 * k)) (fun _ i _ => s.size - (intOf i).toNat)
  case atStart => exact ⟨0, by omega, rfl, hown0, hbel0, HexTo.zero _⟩
  case round =>
    obtain ⟨k, hk, rfl, hown, hbel, hx⟩ := hrel
    have HX := Lib.hid hx
    clear hx hown0 hbel0
    by_cases hlt : 2 * k < s.size
    · have hlt1 : 2 * k + 1 < s.size := by have := HE.out; omega
      have hc0 : s[2 * k].toNat < 256 := s[2 * k].toNat_lt
      have hc1 : s[2 * k + 1].toNat < 256 := s[2 * k + 1].toNat_lt
      obtain ⟨C, w1, hcv, hb1, hp0, hp1, hsz⟩ := conv_two s wr (2 * k) hlt1
      have ho1 := own_below hown hb1 (Nat.le_refl _)
      have hbe1 := hbel.trans (hb1.mono hbel.size)
      clear hown hb1
      have har := fun (W : World) => run_arrayAt (P := Try.prog) (w := W) 51 5 2 (some ⟨wr.heap.size, 0, none⟩) 2 C Try.underlying51 (Nat.le_refl _)
      go_wp2_with fail
      have hq0 : (w1.alloc (Obj.cells #[Value.int IntKind.u8 s[2 * k].toNat, Value.int IntKind.u8 s[2 * k + 1].toNat] 51)).cell? ⟨w1.heap.size, 0, none⟩ = some (.int .u8 s[2 * k].toNat) := (Blk.new w1 _ _).cell 0
      have hq1 : (w1.alloc (Obj.cells #[Value.int IntKind.u8 s[2 * k].toNat, Value.int IntKind.u8 s[2 * k + 1].toNat] 51)).cell? ⟨w1.heap.size, 1, none⟩ = some (.int .u8 s[2 * k + 1].toNat) := (Blk.new w1 _ _).cell 1
      have ho2 := ho1.alloc (Obj.cells #[Value.int IntKind.u8 s[2 * k].toNat, Value.int IntKind.u8 s[2 * k + 1].toNat] 51)
      have hbe2 := hbe1.alloc hbe1.size (Obj.cells #[Value.int IntKind.u8 s[2 * k].toNat, Value.int IntKind.u8 s[2 * k + 1].toNat] 51)
      have hlt2 : w1.heap.size < (w1.alloc (Obj.cells #[Value.int IntKind.u8 s[2 * k].toNat, Value.int IntKind.u8 s[2 * k + 1].toNat] 51)).heap.size := by simp
      clear ho1 hcv har hp0 hp1 hsz
      generalize (w1.alloc (Obj.cells #[Value.int IntKind.u8 s[2 * k].toNat, Value.int IntKind.u8 s[2 * k + 1].toNat] 51)) = w2 at *
      go_quiet ((go_at_call 63; exact Calls.quiet_here (hexValue_any _ _ (by omega) (by omega))))
      have hB := bits_u8 (hv (s[2 * k].toNat : Int) * 16 % 256) (hv (s[2 * k + 1].toNat : Int))
      have hV := bits_two (s[2 * k].toNat : Int) (s[2 * k + 1].toNat : Int) (by omega) (by omega) (by omega) (by omega)
      have HV := Lib.hid hV
      clear hV
      generalize bits BinOp.or IntKind.u8 (hv (s[2 * k].toNat : Int) * 16 % 256) (hv (s[2 * k + 1].toNat : Int)) = B at *
      have hq0' : (w2.drewN nq).cell? ⟨w1.heap.size, 0, none⟩ = some (.int .u8 s[2 * k].toNat) := hq0
      have hq1' : (w2.drewN nq).cell? ⟨w1.heap.size, 1, none⟩ = some (.int .u8 s[2 * k + 1].toNat) := hq1
      have ho3 : (w2.drewN nq).ownsRow w.heap.size 5 1 u4 k (List.map (Value.int IntKind.u8) (unhL s k)) := ho2
      have hbe3 : Below w.heap.size w (w2.drewN nq) := ⟨hbe2.os, hbe2.tape, hbe2.output, hbe2.size, hbe2.block⟩
      have hlt3 : w1.heap.size < (w2.drewN nq).heap.size := hlt2
      clear hq0 hq1 ho2 hbe2 hlt2 hbel hbe1
      generalize w2.drewN nq = w3 at *
      have hsz3 := hbe3.size
      by_cases g : 0 ≤ nib (s[2 * k].toNat : Int) ∧ 0 ≤ nib (s[2 * k + 1].toNat : Int)
      · have hBe := Lib.hid (HV.out g.1 g.2)
        have HX2 := Lib.hid (HX.out.two hlt1 g.1 g.2)
        have HL := Lib.hid (unhL_succ s k hlt1)
        have heq : ∀ W, (Op.equalIn 10000 51 (.agg #[.int .u8 (hexD (B / 16)), .int .u8 (hexD (B % 16))]) (.agg #[.int .u8 s[2 * k].toNat, .int .u8 s[2 * k + 1].toNat])).run Try.prog W = .ok true W := by
          intro W
          have n0 := nib_bd (s[2 * k].toNat : Int)
          have n1 := nib_bd (s[2 * k + 1].toNat : Int)
          have e1 : B / 16 = nib (s[2 * k].toNat : Int) := by have := hBe.out; omega
          have e2 : B % 16 = nib (s[2 * k + 1].toNat : Int) := by have := hBe.out; omega
          rw [e1, e2, nib_hexD _ g.1, nib_hexD _ g.2, eq_two 9998]
          simp
        clear g
        go_wp2_with fail
        go_region_held3 (fun w' => w'.cell? ⟨w1.heap.size, 0, none⟩ = some (.int .u8 s[2 * k].toNat) ∧ w'.cell? ⟨w1.heap.size, 1, none⟩ = some (.int .u8 s[2 * k + 1].toNat)) (first | exact ⟨hq0', hq1'⟩ | exact ⟨(hb4.cell (by simp; omega)).trans hq0', (hb4.cell (by simp; omega)).trans hq1'⟩) ((go_at_call 61; refine (hexPair_any _ _ (by omega) (by omega)).mono ?_; rintro e w4 ⟨rfl, hb4⟩))
        have ho4 := own_below ho3.drew hb4 (Nat.le_refl _)
        have hbe4 : Below w.heap.size w w4 := hbe3.drew.trans (hb4.mono hsz3)
        have hsz4 := hbe4.size
        clear hb4 ho3 hbe3 heq hq0' hq1' hsz3 hlt3
        rename_i hHeld
        clear hHeld
        go_wp2_with (at_builtin; refine wpList_append_own _ rfl _ _ 50 rfl w.heap.size 5 i0 (.int .u8 0) 1 1 Try.underlying50 hi hz0 hz1 hz2 rfl (by decide) _ _ _ rfl (ho4.alloc _) ⟨w4.heap.size, 0, none⟩ 1 1 [.int .u8 B] rfl rfl ?c1 ?c2 ?c3 ?c4 ?c5 ?_)
        case c1 => exact cell_one_new _ _ _
        case c2 => intro u hu; simp at hu; subst hu; rfl
        case c3 => unfold maxLen; omega
        case c4 => omega
        case c5 => simp; omega
        intro v' w5 hown' hgrow _
        have hbel' : Below w.heap.size w w5 := (hbe4.alloc hsz4 _).grown hgrow (by simp; omega) (fun g hg => (ho4.lt g hg).1)
        clear hgrow ho4 hbe4
        go_wp2
        go_roundw
        case rel => exact ⟨k + 1, by omega, by go_num, by rw [HL.out, ← hBe.out, List.map_append]; exact hown', hbel', HX2.out⟩
        case measure => simp [intOf]; omega
      · have HN : Hid (¬ HexTo s s.size) := Lib.hid (by
          by_cases g0 : nib (s[2 * k].toNat : Int) < 0
          · exact HexTo.not0 hlt1 g0
          · exact HexTo.not1 hlt1 (by omega))
        have heq : ∀ W, (Op.equalIn 10000 51 (.agg #[.int .u8 (hexD (B / 16)), .int .u8 (hexD (B % 16))]) (.agg #[.int .u8 s[2 * k].toNat, .int .u8 s[2 * k + 1].toNat])).run Try.prog W = .ok false W := by
          intro W
          rw [eq_two 9998]
          have : (hexD (B / 16) == (s[2 * k].toNat : Int) && hexD (B % 16) == (s[2 * k + 1].toNat : Int)) = false := by
            rw [Bool.and_eq_false_iff]
            by_cases a : hexD (B / 16) = (s[2 * k].toNat : Int)
            · right
              rw [beq_eq_false_iff_ne]
              intro b
              apply g
              have n1 := hexD_nib (B / 16) (by omega) (by omega)
              have n2 := hexD_nib (B % 16) (by omega) (by omega)
              rw [a] at n1
              rw [b] at n2
              omega
            · left; rw [beq_eq_false_iff_ne]; exact a
          rw [this]
        clear g
        go_wp2_with fail
        go_region_held3 (fun w' => w'.cell? ⟨w1.heap.size, 0, none⟩ = some (.int .u8 s[2 * k].toNat) ∧ w'.cell? ⟨w1.heap.size, 1, none⟩ = some (.int .u8 s[2 * k + 1].toNat)) (first | exact ⟨hq0', hq1'⟩ | exact ⟨(hb4.cell (by simp; omega)).trans hq0', (hb4.cell (by simp; omega)).trans hq1'⟩) ((go_at_call 61; refine (hexPair_any _ _ (by omega) (by omega)).mono ?_; rintro e w4 ⟨rfl, hb4⟩))
        have hbe4 : Below w.heap.size w w4 := hbe3.drew.trans (hb4.mono hsz3)
        clear hb4 ho3 hbe3 heq hq0' hq1' hsz3 hlt3
        go_wp2
        go_ret2
        exact ⟨(rhOut_no (fun H => HN.out H.2.2)).symm, hbe4⟩
    · have hkn : 2 * k = s.size := by omega
      have hk2 : k = s.size / 2 := by omega
      have HO := Lib.hid (rhOut_yes HE.out hs (by have := HX.out; rw [hkn] at this; exact this))
      have hcv := own_string hown Try.underlying50 Try.underlying5 Try.underlying9
      have HK := Lib.hid hk2
      clear hkn hk2
      go_wp2
      go_ret2
      have hfin : rhOut s = .returned (.tuple #[.string (strOfNums (unhL s k)), .bool true]) := by rw [HO.out, rhYes, ← HK.out]
      exact ⟨hfin.symm, hbel⟩

theorem impl_ReadHex_yes (s : ByteArray) (w : World) (hy : s.size % 2 = 0 ∧ s.size ≤ 8000 ∧ HexTo s s.size) :
    Calls Try.prog 30 #[.string s] w fun e w' => e = rhYes s ∧ Below w.heap.size w w' :=
  (impl_ReadHex_go s w hy.2.1 hy.1).mono fun e w' ⟨he, hb⟩ => ⟨he.trans (rhOut_yes hy.1 hy.2.1 hy.2.2), hb⟩
theorem impl_ReadHex_no (s : ByteArray) (w : World) (h : s.size ≤ maxLen) (hy : ¬ (s.size % 2 = 0 ∧ s.size ≤ 8000 ∧ HexTo s s.size)) :
    Calls Try.prog 30 #[.string s] w fun e w' => e = rhNo ∧ Below w.heap.size w w' := by
  unfold maxLen at h
  by_cases he : s.size % 2 = 0
  · by_cases hs : s.size ≤ 8000
    · exact (impl_ReadHex_go s w hs he).mono fun e w' ⟨he, hb⟩ => ⟨he.trans (rhOut_no hy), hb⟩
    · have he2 : ((s.size : Int) % 2 != 0) = false := by simp; omega
      have hs' : 8000 < s.size := by omega
      clear he hy
      go_enter Try.func30, Try.ntmps30
      go_wp2
      go_ret2
      exact ⟨rfl, Below.refl _ _⟩
  · have he2 : ((s.size : Int) % 2 != 0) = true := by simp; omega
    clear he hy
    go_enter Try.func30, Try.ntmps30
    go_wp2
    go_ret2
    exact ⟨rfl, Below.refl _ _⟩
end Go.Proofs.Ytblkonfphaalhaa
