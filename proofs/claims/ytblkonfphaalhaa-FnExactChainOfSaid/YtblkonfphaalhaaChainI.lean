import Derived.Test.YtblkonfphaalhaaChecked
import Derived.WalkKit
import Derived.ProofKit
import Derived.OpenShut
import Derived.ShutString
import Derived.ChangeOld
import Derived.Below
import Derived.Lib.Hide
import Derived.Laws.Cover3
import Derived.Test.YtblkonfphaalhaaChainC
import Derived.Test.YtblkonfphaalhaaReadHexI
namespace Go.Proofs.Ytblkonfphaalhaa
open Go.ChangeShapes Go.WideShapes Go.ChangeAt Go.RowKit
open Go.ChangeMaps (open_string shut_string)
set_option linter.unusedVariables false
theorem nums_of (b : ByteArray) : ∃ l : List Int, l.length = b.size ∧ strOfNums l = b ∧ ∀ j (h : j < b.size), l[j]? = some (b[j].toNat : Int) := by
  refine ⟨b.data.toList.map fun x => (x.toNat : Int), by simp, ?_, fun j h => ?_⟩
  · have : ∀ a b : ByteArray, a.data = b.data → a = b := fun a b h => by cases a; cases b; simp_all
    apply this
    apply Array.ext'
    have e : ((fun n : Int => UInt8.ofNat n.toNat) ∘ fun x : UInt8 => (x.toNat : Int)) = id := by funext x; simp
    simp only [strOfNums, List.map_map, e, List.map_id]
  · simp [ByteArray.getElem_eq_getElem_data, h]
theorem conv_all (s : ByteArray) (w : World) :
    ∃ C w1, (convert 9 50 (.string s)).run Try.prog w = .ok (.slice (some ⟨w.heap.size, 0, none⟩) s.size C) w1 ∧ Below w.heap.size w w1 ∧
      (∀ j (h : j < s.size), w1.cell? ⟨w.heap.size, j, none⟩ = some (.int .u8 s[j].toNat)) ∧ w.heap.size + 1 ≤ w1.heap.size := by
  have hr := run_bytes_of_string (P := Try.prog) w 9 50 5 s Try.underlying9 Try.underlying50 Try.underlying5
  refine ⟨_, _, hr, ((Below.refl _ _).alloc (Nat.le_refl _) _).drew, ?_, by simp⟩
  intro j hj
  have hg : (w.drew.alloc (.cells (bytesRow s (grownCap w s.size 0 5)) 5 ((bytesRow s (grownCap w s.size 0 5)).size, (bytesRow s (grownCap w s.size 0 5)).size + 1))).heap[w.heap.size]? = some _ := heap_alloc_new w.drew _
  rw [cell_of_row _ _ _ _ _ _ hg, bytesRow, Array.getElem?_append_left (by simpa using hj)]
  have : s.data[j]? = some s[j] := by
    rw [ByteArray.getElem_eq_getElem_data]
    exact Array.getElem?_eq_getElem _
  rw [Array.getElem?_map, this]; rfl
theorem run_loadVar_part {P : Program} (w : World) (g : Nat) (ty : TypeId) (cs : Array Value) (d : TypeDesc) (hc : ∀ j v, cs[j]? = some v → w.cell? ⟨g, j, none⟩ = some v)
    (hu : P.underlying ty = some d) (hd : (match d with | .struct _ | .array _ _ => true | _ => false) = true) (hi : (P.info? ty).map (·.size) = some cs.size) :
    (loadVar ty ⟨g, 0, none⟩).run P w = .ok (.agg cs) w := by
  have hl : (loadCells ⟨g, 0, none⟩ cs.toList.length).run P w = .ok cs.toList.toArray w :=
    run_loadCells_list (P := P) w ⟨g, 0, none⟩ cs.toList (fun j v hv => by
      have hadd : (⟨g, 0, none⟩ : Addr).add j = ⟨g, j, none⟩ := by unfold Addr.add; split <;> simp_all
      rw [hadd]
      exact hc j v (by simpa using hv))
  cases hq : P.info? ty with
  | none => simp [hq] at hi
  | some i =>
    have hs : i.size = cs.size := by simpa [hq] using hi
    have hagg : (isAgg ty).run P w = .ok true w := by
      unfold isAgg
      rw [Sem.run_bind, run_underlying hu w]
      cases d <;> simp_all
    simp only [Array.length_toList, Array.toArray_toList] at hl
    simp [loadVar, Sem.run_bind, hagg, sizeOf, typeInfo, hq, hs, hl]
theorem wpList_load_part {P : Program} {ops : Array Oper} {rest : List Oper} {o : Oper} {a : Act} {w : World} {Q : Exit → Act → World → Prop} (hgd : o.guard = none) (ty : TypeId) (x : Operand) (ho : o.op = .load ty x)
    (g : Nat) (hx : a.eval x = .pointer (some ⟨g, 0, none⟩)) (cs : Array Value) (d : TypeDesc) (hc : ∀ j v, cs[j]? = some v → w.cell? ⟨g, j, none⟩ = some v)
    (hu : P.underlying ty = some d) (hd : (match d with | .struct _ | .array _ _ => true | _ => false) = true) (hi : (P.info? ty).map (·.size) = some cs.size)
    (h : wpList P ops Q rest (a.put o.dst (.agg cs)) w) : wpList P ops Q (o :: rest) a w :=
  wpList_plain hgd fun K hK => by
    unfold Oper.wp execOp
    simp only [ho, hx, Instr.loadAt, Instr.sureAddr, Sem.run_bind, Sem.run_pure, Result.andThen_ok, run_loadVar_part w g ty cs d hc hu hd hi]
    exact hK _ _ h
theorem setRow_grown (w : World) (g : Nat) (cs : Array Value) : w.grownBy (w.setRow g cs) (some g) :=
  ⟨rfl, rfl, rfl, by simp, fun k _ hne => setRow_other w g k cs fun e => hne (by rw [e])⟩
theorem own_far {w : World} {base e size n g : Nat} {v : Value} {xs : List Value} (h : w.ownsRow base e size v n xs) (hg : g < base) : v.ownBlock = none ∨ v.ownBlock ≠ some g := by
  cases hv : v.ownBlock with
  | none => exact .inl rfl
  | some q => exact .inr fun e => by injection e with e; have := (h.lt q hv).1; omega
def lCs (l : List Int) : Array Value := (l.map (Value.int .u8)).toArray
theorem lCs_size (l : List Int) : (lCs l).size = l.length := by simp [lCs]
theorem lCs_one (l : List Int) : (lCs l).all (·.oneCell') = true := by
  rw [Array.all_eq_true_iff_forall_mem]; intro v hv; exact one_u8 _ v (by simpa [lCs] using hv)
theorem isDigest_yes (s : ByteArray) (w : World) (h : s.size = 32) :
    Calls Try.prog 38 #[.string s] w fun e w' => e = .returned (.bool true) ∧ w = w' := by
  have hbi : (s.size : Int) = 32 := by omega
  go_enter Try.func38, Try.ntmps38
  go_wp2
  go_ret
  exact ⟨rfl, rfl⟩
theorem isDigest_no (s : ByteArray) (w : World) (hs : s.size ≤ maxLen) (h : s.size ≠ 32) :
    Calls Try.prog 38 #[.string s] w fun e w' => e = .returned (.bool false) ∧ w = w' := by
  unfold maxLen at hs
  have hbi : decide ((s.size : Int) = 32) = false := by simp; omega
  go_enter Try.func38, Try.ntmps38
  go_wp2
  go_ret
  exact ⟨ret_bool (by simp; omega), rfl⟩
theorem impl_ChainOf_out (A : Option Addr) (n c : Nat) (b : ByteArray) (w : World) (hs : b.size ≤ maxLen) (h : b.size ≠ 32 ∨ 300 < n) :
    Calls Try.prog 42 #[.string b, .slice A n c] w fun e w' => ChNo w e w' := by
  by_cases hb : b.size = 32
  · have hn : 300 < n := by omega
    clear h
    go_enter Try.func42, Try.ntmps42
    go_wp2_with (go_at_call 38; refine (isDigest_yes _ _ hb).mono ?_; rintro e w' ⟨rfl, rfl⟩)
    go_ret2
    exact ⟨rfl, Below.refl _ _⟩
  · clear h
    go_enter Try.func42, Try.ntmps42
    go_wp2_with (go_at_call 38; refine (isDigest_no _ _ hs hb).mono ?_; rintro e w' ⟨rfl, rfl⟩)
    go_ret2
    exact ⟨rfl, Below.refl _ _⟩
set_option maxHeartbeats 1600000 in
set_option maxRecDepth 100000 in
theorem impl_ChainOf_go (A : Option Addr) (n c m : Nat) (b : ByteArray) (xs : List ByteArray) (w : World) (h : Row strv w w.heap.size A n xs) (hb : b.size = 32) (hn : n ≤ 300) (hm : ChAt xs m) :
    Calls Try.prog 42 #[.string b, .slice A n c] w fun e w' => (m = n → WYes w (chTo b xs n).1 e w') ∧ (m ≠ n → ChNo w e w') := by
  obtain ⟨i0, hi, hz0, hz1, hz2⟩ := info_parts Try.info_str
  obtain ⟨hmx, hgood, hbad⟩ := hm
  have hlen := h.1
  rw [hlen] at hmx
  have HL := Lib.hid hlen
  clear hlen
  have HG := Lib.hid hgood
  have HBD := Lib.hid hbad
  clear hgood hbad
  have HSZ := Lib.hid (chTo_size b xs hb)
  have HLN := Lib.hid (chTo_len b xs)
  obtain ⟨l, hll, hlb, hlj⟩ := nums_of b
  rw [hb] at hll
  obtain ⟨C, w1, hcv, hb1, hcells, hs1⟩ := conv_all b w
  rw [hb] at hcv
  have har := fun (W : World) => run_arrayAt (P := Try.prog) (w := W) 58 5 32 (some ⟨w.heap.size, 0, none⟩) 32 C Try.underlying58 (Nat.le_refl _)
  have hcl : ∀ j v, (lCs l)[j]? = some v → w1.cell? ⟨w.heap.size, j, none⟩ = some v := by
    intro j v hv
    have hj : j < l.length := by have := (Array.getElem?_eq_some_iff.1 hv).1; rwa [lCs_size] at this
    rw [hcells j (by omega)]
    have h2 := hlj j (by omega)
    simp [lCs, h2] at hv
    rw [← hv]
  have HCL := Lib.hid hcl
  have HLL := Lib.hid hll
  have HLB := Lib.hid hlb
  clear hcl hlj hcells hll hlb
  have hg : Blk (w1.alloc (.cells dZero 58)) w1.heap.size 58 dZero := heap_alloc_new w1 _
  have hbelA : Below w.heap.size w ((w1.alloc (.cells dZero 58)).setRow w1.heap.size (lCs l)) := below_setRow (hb1.alloc hb1.size _) hb1.size _
  have hgA : Blk ((w1.alloc (.cells dZero 58)).setRow w1.heap.size (lCs l)) w1.heap.size 58 (lCs l) := setRow_heap _ w1.heap.size _ _ 58 (0, 0) hg
  have hszA : w1.heap.size + 1 ≤ ((w1.alloc (.cells dZero 58)).setRow w1.heap.size (lCs l)).heap.size := by simp
  rw [dZero] at hg hbelA hgA hszA
  have HA := Lib.hid (And.intro hbelA (And.intro hgA hszA))
  have HGG := Lib.hid hg
  clear hbelA hgA hg hszA
  go_enter Try.func42, Try.ntmps42
  go_wp2_with (first | (go_at_call 38; refine (isDigest_yes _ _ hb).mono ?_; rintro e w' ⟨rfl, rfl⟩) | (refine wpList_load_part rfl 58 (.tmp 20) rfl w.heap.size rfl (lCs l) _ HCL.out Try.underlying58 rfl (by rw [lCs_size, HLL.out]; exact Try.size_arr32) ?_) | (refine wpList_store_row rfl 58 (.tmp 6) (.tmp 21) rfl w1.heap.size (lCs l) rfl rfl 58 _ HGG.out (by rw [lCs_size, HLL.out]; exact Try.size_arr32) (by rw [lCs_size, HLL.out]; rfl) (lCs_one l) ?_; have hA := HA.out; revert hA; generalize World.setRow _ _ _ = w2; intro hA; obtain ⟨hB2, hb2, hs2⟩ := hA) | (at_make; refine wpList_make_own _ rfl _ _ 34 rfl (w1.heap.size + 1) 9 i0 (.string ByteArray.empty) 1 Try.underlying34 hi hz0 hz1 _ _ _ n rfl rfl (by omega) (by rw [hz2]; omega) (by unfold maxLen; omega) hs2 ?_; intro w0 hown0 hgrow0))
  have hbel0 : Below w.heap.size w w0 := hB2.grown hgrow0 hB2.size (by simp)
  have hblk0 : Blk w0 w1.heap.size 58 (lCs l) := hb2.grown hgrow0 (by simp)
  have hG := hs1
  clear hB2 hb2 hs2 hgrow0 har hcv hb1 HCL HA HGG
  generalize w1.heap.size = G at *
  go_loopw [7, 27] (fun v i wr => ∃ (k : Nat) (l' : List Int), k ≤ m ∧ i = .int .i64 k ∧ l'.length = 32 ∧ (chTo b xs k).2 = strOfNums l' ∧ Blk wr G 58 (lCs l') ∧ wr.ownsRow (G + 1) 9 1 v k ((chTo b xs k).1.map strv) ∧ Below w.heap.size w wr) (fun _ i _ => n - (intOf i).toNat)
  case atStart => exact ⟨0, l, by omega, rfl, HLL.out, HLB.out.symm, hblk0, hown0, hbel0⟩
  case round =>
    obtain ⟨k, l', hk, rfl, hl', hcur, hblk, hown, hbel⟩ := hrel
    clear hown0 hbel0 hblk0 HLL HLB
    have hbs := hbel.size
    by_cases hkn : k < n
    · obtain ⟨bb, off, z, rfl, hblt, hz, hcw⟩ := h.ats hkn
      have hc : wr.cell? ⟨bb, off + k, none⟩ = some (.string z) := (hbel.cell hblt).trans hcw
      clear hcw
      by_cases hkm : k < m
      · have hzs := HG.out k z hkm hz
        have HS := Lib.hid (chTo_succ b xs k z hz)
        have hln := HLN.out k (by have := HL.out; omega)
        clear hz
        generalize hst : chTo b xs k = st at *
        clear hst
        obtain ⟨done, cur⟩ := st
        simp only at hown hcur hln
        subst hcur
        have hln2 := Lib.hid hln
        clear hln
        have hls : (strOfNums l').size = 32 := by rw [strOfNums_size, hl']
        have hsum : (strOfNums l').size + z.size ≤ 9223372036854775807 := by omega
        have hdl : (strOfNums l' ++ z).size ≤ 4000 := by rw [ByteArray.size_append]; omega
        have HD := Lib.hid hdl
        have hcv := fun cap => blk_string (P := Try.prog) (n := 32) (cap := cap) hblk (by simp [lCs]) hl' Try.underlying50 Try.underlying5 Try.underlying9
        have HB := Lib.hid hblk
        have HLP := Lib.hid hl'
        clear hdl hls hl' hblk
        go_wp2_with fail
        go_at_call 67; refine (digestBytes_any _ _ HD.out).mono ?_; rintro e w3 ⟨rfl, hbn, _⟩
        have hblk3 := HB.out.below hbn HB.out.lt
        have hown3 := own_below hown hbn (Nat.le_refl _)
        have hbel3 := hbel.trans (hbn.mono hbs)
        have hbs3 := hbel3.size
        clear hown hbel hbn hc hcv
        have hd32 : (digL (strOfNums l' ++ z)).length = 32 := digL_len _
        have hblk4 : Blk (w3.setRow G (((digL (strOfNums l' ++ z)).map (Value.int .u8)).toArray)) G 58 (((digL (strOfNums l' ++ z)).map (Value.int .u8)).toArray) := setRow_heap _ G _ _ 58 (0, 0) hblk3
        have hown4 := hown3.kept (setRow_grown w3 G (((digL (strOfNums l' ++ z)).map (Value.int .u8)).toArray)) (own_far hown3 (Nat.lt_succ_self _))
        have hbel4 : Below w.heap.size w (w3.setRow G (((digL (strOfNums l' ++ z)).map (Value.int .u8)).toArray)) := below_setRow hbel3 (by omega) _
        have hsz4 : G + 1 ≤ (w3.setRow G (((digL (strOfNums l' ++ z)).map (Value.int .u8)).toArray)).heap.size := by have := hblk3.lt; simp; omega
        have HA := Lib.hid (And.intro hblk4 (And.intro hown4 (And.intro hbel4 hsz4)))
        clear hblk4 hown4 hbel4 hsz4 hown3 hbel3
        have HB3 := Lib.hid hblk3
        have HD32 := Lib.hid hd32
        clear hblk3 hd32 hbs3
        go_wp2_with (refine wpList_store_row rfl 58 (.tmp 6) (.tmp 38) rfl G (((digL (strOfNums l' ++ z)).map (Value.int .u8)).toArray) rfl rfl 58 _ HB3.out ?a1 ?a2 ?a3 ?a4)
        case a1 => rw [List.size_toArray, List.length_map, HD32.out]; exact Try.size_arr32
        case a2 => rw [lCs_size, List.size_toArray, List.length_map, HD32.out, HLP.out]
        case a3 => exact (lCs_one (digL (strOfNums l' ++ z)))
        have hA := HA.out
        revert hA
        generalize World.setRow _ _ _ = w4
        intro hA
        obtain ⟨hblk4, hown4, hbel4, hsz4⟩ := hA
        have hcv := fun cap => blk_string (P := Try.prog) (n := 32) (cap := cap) (xs := digL (strOfNums l' ++ z)) hblk4 (by simp) (digL_len _) Try.underlying50 Try.underlying5 Try.underlying9
        go_wp2
        rw [hcv 32]
        go_wp2_with (at_builtin; refine wpList_append_own _ rfl (.tmp 39) (.tmp 42) 34 rfl (G + 1) 9 i0 (.string ByteArray.empty) 1 16 Try.underlying34 hi hz0 hz1 hz2 rfl (by decide) _ _ _ rfl (hown4.alloc _) ⟨w4.heap.size, 0, none⟩ 1 1 [.string (strOfNums (digL (strOfNums l' ++ z)))] rfl rfl ?_ ?_ ?_ ?_ ?_ ?_)
        all_goals try first | rfl | exact cell_one_new _ _ _ | (intro u hu; simp at hu; subst hu; rfl) | (unfold maxLen; omega) | omega | (simp; omega)
        intro v' w5 hown' hgrow _
        have hbel' : Below w.heap.size w w5 := (hbel4.alloc hbel4.size _).grown hgrow (by have := hbel4.size; simp; omega) (fun g hg => by have := (hown4.lt g hg).1; omega)
        have hblk' : Blk w5 G 58 (lCs (digL (strOfNums l' ++ z))) := (hblk4.alloc _).grown hgrow (by
          intro e
          have := (hown4.lt G e.symm).1
          omega)
        clear hgrow hown4 hbel4 hblk4 hcv
        go_wp2
        go_roundw
        case rel => exact ⟨k + 1, digL (strOfNums l' ++ z), by omega, by go_num, digL_len _, by rw [HS.out]; rfl, hblk', by rw [HS.out]; simpa [chStep, strv, dig] using hown', hbel'⟩
        case measure => simp [intOf]; omega
      · have hke : k = m := by omega
        subst hke
        have hzs := HBD.out z hz
        have hne : k ≠ n := by omega
        clear hz
        go_wp2
        go_ret2
        exact ⟨fun e => absurd e hne, fun _ => ⟨rfl, hbel⟩⟩
    · have hke : k = n := by omega
      have hkm : m = n := by omega
      subst hke
      have hown := own_weaken hown (show w.heap.size ≤ G + 1 by omega)
      obtain ⟨A2, m2, c2, rfl, hmm⟩ := own_shapeS hown
      subst hmm
      go_wp2
      go_ret2
      exact ⟨fun _ => ⟨A2, _, c2, rfl, hown, hbel⟩, fun e => absurd hkm e⟩
end Go.Proofs.Ytblkonfphaalhaa
