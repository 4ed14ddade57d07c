import Derived.Test.YtmnmmjobplbflaaChecked
import Derived.WalkKit
import Derived.ProofKit
import Derived.OpenShut
import Derived.ShutString
import Derived.ChangeOld
import Derived.Below
import Derived.Lib.Hide
import Derived.Deep.Onto
import Derived.Lib.SmallJoins
import Derived.Test.YtmnmmjobplbflaaZPostW
import Derived.Test.YtmnmmjobplbflaaZStrs1
namespace Go.Proofs.Ytmnmmjobplbflaa
open Go.ChangeShapes Go.WideShapes Go.ChangeAt Go.RowKit
open Go.ChangeMaps (open_string shut_string)
set_option linter.unusedVariables false
set_option maxRecDepth 100000
theorem cell_newX (w : World) (t : TypeId) (v : Value) (a : Addr) (ha : a = ⟨w.heap.size, 0, none⟩) : ∀ (j : Nat) (u : Value), [v][j]? = some u → (w.alloc (.cells #[v] t)).cell? (a.add j) = some u := by
  subst ha
  intro j u hu
  have hj : j = 0 := by have := (List.getElem?_eq_some_iff.1 hu).1; simp at this; omega
  subst hj
  simp at hu; subst hu
  have := (Blk.new w t #[v]).cell 0
  first | exact this | simpa [Addr.add] using this
def loadL (bs : List Bx) : List Int := bs.map fun b => (b.held.length : Int)
def loadsL (x : Int) (bs : List Bx) : List Int := if postB x bs = true then loadL bs else []
theorem loadL_take {bs : List Bx} {k : Nat} {b : Bx} (h : bs[k]? = some b) : (loadL (bs.take (k + 1))).map i64v = (loadL (bs.take k)).map i64v ++ [.int .i64 (b.held.length : Int)] := by
  simp [loadL, takeX h]
/-- a list of numbers and a bool -/
def IntsOut (r : Bool) (zl : List Int) (w : World) (e : Ending) (w' : World) : Prop :=
  ∃ A n c zs, e = .returned (.tuple #[.slice A n c, .bool r]) ∧ zs = zl ∧ w'.ownsRow w.heap.size 2 1 (.slice A n c) n (zs.map i64v) ∧ Below w.heap.size w w'
def StrsOut (r : Bool) (zl : List ByteArray) (w : World) (e : Ending) (w' : World) : Prop :=
  ∃ A n c zs, e = .returned (.tuple #[.slice A n c, .bool r]) ∧ zs = zl ∧ w'.ownsRow w.heap.size 9 1 (.slice A n c) n (zs.map strv) ∧ Below w.heap.size w w'
theorem loads_no {x : Int} {bs : List Bx} (h : postB x bs = false) : loadsL x bs = [] := by unfold loadsL; rw [h]; rfl
theorem loads_yes {x : Int} {bs : List Bx} (h : postB x bs = true) : loadsL x bs = loadL bs := by unfold loadsL; rw [h]; rfl
set_option maxHeartbeats 3200000 in
theorem impl_LoadsOf_any (x : Int) (A : Option Addr) (n c : Nat) (rs : List Rb) (w : World) (h : PostAt w w.heap.size A n rs) (hf : fitP (bxs rs)) :
    Calls Try.prog 35 #[.agg #[.int .i64 x, .slice A n c]] w fun e w' => IntsOut (postB x (bxs rs)) (loadsL x (bxs rs)) w e w' := by
  have hn := fitP_n h hf
  have HF := Lib.hid hf
  have HL := Lib.hid (show (bxs rs).length = n by rw [bxs_len, h.len])
  obtain ⟨i0, hi, hz0, hz1, hz2⟩ := info_parts Try.info_i64
  go_enter Try.func35, Try.ntmps35
  go_wp2_with fail
  obtain ⟨k0, hb0⟩ := one_box w 29 #[.int .i64 x, .slice A n c]
  generalize w.alloc (.cells #[.int .i64 x, .slice A n c] 29) = W at *
  have h := h.to hb0
  cases tb : postB x (bxs rs) with
  | false =>
    go_at_call 12; refine (impl_ValidPost_any x A n c rs _ h hf).mono ?_; rw [tb]; rintro e w1 ⟨rfl, hb1⟩
    have hb0 := hb0.trans (hb1.mono hb0.size)
    go_wp2
    all_goals exact bodyPost_ret (v := .tuple #[.slice none 0 0, .bool false]) (by simp [results, Try.results35, go_sem]) rfl (by rw [tb]; exact ⟨none, 0, 0, [], rfl, (loads_no tb).symm, World.ownsRow_nil _ _ _ _, hb0⟩)
  | true =>
    go_at_call 12; refine (impl_ValidPost_any x A n c rs _ h hf).mono ?_; rw [tb]; rintro e w1 ⟨rfl, hb1⟩
    have hn32 : n ≤ 32 := by have := HL.out; have e := tb; simp only [postB, Bool.and_eq_true, decide_eq_true_eq] at e; omega
    have h := h.to hb1
    have k0 := k0.below hb1 k0.lt
    have hb0 := hb0.trans (hb1.mono hb0.size)
    have hWw := hb0.size
    clear hb1
    have l1 := k0.cell 1
    have klt := k0.lt
    go_wp2_with (at_make; refine wpList_make_own _ rfl _ _ 46 rfl w1.heap.size 2 i0 (.int .i64 0) 1 Try.underlying46 hi hz0 hz1 _ _ _ n rfl rfl (by omega) (by rw [hz2]; omega) (by unfold maxLen; omega) (Nat.le_refl _) ?_; intro w0 hown0 hgrow0; have hbel0 : Below w1.heap.size w1 w0 := (Below.refl _ _).grown hgrow0 (Nat.le_refl _) (by simp); have l1 := (k0.below hbel0 klt).cell 1)
    clear hgrow0
    go_loopw [4, 17] (fun v i wr => ∃ k g cc : Nat, k ≤ n ∧ i = .int .i64 k ∧ v = .slice (some ⟨g, 0, none⟩) k cc ∧ wr.ownsRow w1.heap.size 2 1 (.slice (some ⟨g, 0, none⟩) k cc) k ((loadL ((bxs rs).take k)).map i64v) ∧ Below w1.heap.size w1 wr) (fun _ i _ => n - (intOf i).toNat)
    case atStart => exact ⟨0, _, _, by omega, rfl, rfl, by simpa [loadL] using hown0, hbel0⟩
    case round =>
      obtain ⟨k, g, cc, hk, rfl, rfl, hown, hbel⟩ := hrel
      clear hown0 hbel0
      by_cases hlt : k < n
      · have hlt' : decide ((k : Int) < (n : Int)) = true := decide_eq_true (by omega)
        obtain ⟨b, off, r, rfl, hb, hz, hr, c0, c1, c2, c3⟩ := (h.below hbel).atr hlt
        have HT := Lib.hid (loadL_take (bxs_at hz))
        have HLN := Lib.hid (show (r.b.held.length : Int) = (r.ln : Int) by rw [hr.1])
        have hbs := hbel.size
        clear hz hr h
        have ha : Below wr.heap.size wr (wr.alloc (.cells #[.string r.b.tok, .int .i64 r.b.mem, .int .i64 r.b.mis, .slice r.la r.ln r.lc] 62)) := (Below.refl _ _).alloc (Nat.le_refl _) _
        have hsz : (wr.alloc (.cells #[.string r.b.tok, .int .i64 r.b.mem, .int .i64 r.b.mis, .slice r.la r.ln r.lc] 62)).heap.size = wr.heap.size + 1 := by simp
        have hownA := own_below hown ha (Nat.le_refl _)
        have hbelA := hbel.trans (ha.mono hbs)
        clear hown hbel ha
        go_wp2_with (at_builtin; refine wpList_append_own _ rfl _ _ 46 rfl w1.heap.size 2 i0 (.int .i64 0) 1 8 Try.underlying46 hi hz0 hz1 hz2 rfl (by decide) _ _ _ rfl (hownA.alloc _) ⟨wr.heap.size + 1, 0, none⟩ 1 1 [.int .i64 r.ln] rfl rfl (cell_newX _ _ _ _ (by simp)) (by intro u hu; simp at hu; subst hu; rfl) (by unfold maxLen; omega) (by omega) (by simp; omega) ?_; intro v' w5 hown' hgrow _)
        have hbel' : Below w1.heap.size w1 w5 := (hbelA.alloc hbelA.size _).grown hgrow (by simp; omega) (fun g hg => (hownA.lt g hg).1)
        obtain ⟨g5, c5, rfl⟩ := Go.Joins.ownsRow_form hown' (by omega)
        clear hgrow hownA hbelA
        go_roundw
        case rel => exact ⟨k + 1, g5, c5, by omega, by go_num, rfl, by rw [HT.out, HLN.out]; exact hown', hbel'⟩
        case measure => simp [intOf]; omega
      · have hlt' : decide ((k : Int) < (n : Int)) = false := decide_eq_false (by omega)
        have hkn : k = n := by omega
        subst hkn
        rw [List.take_of_length_le (by have := HL.out; omega)] at hown
        have HO := Lib.hid hown
        clear hown
        go_wp2
        refine bodyPost_ret (v := .tuple #[.slice (some ⟨g, 0, none⟩) k cc, .bool true]) (by simp [results, Try.results35, go_sem]) rfl ?_
        exact ⟨_, _, _, _, by rw [tb], (loads_yes tb).symm, World.ownsRow.mono HO.out hWw, hb0.trans (hbel.mono hWw)⟩
set_option maxHeartbeats 3200000 in
theorem spec_LoadsOf_any (x : Int) (A : Option Addr) (n c : Nat) (rs : List Rb) (w : World) (h : PostAt w w.heap.size A n rs) (hf : fitP (bxs rs)) :
    Calls Try.prog 34 #[.agg #[.int .i64 x, .slice A n c]] w fun e w' => IntsOut (postB x (bxs rs)) (loadsL x (bxs rs)) w e w' := by
  have hn := fitP_n h hf
  have HF := Lib.hid hf
  have HL := Lib.hid (show (bxs rs).length = n by rw [bxs_len, h.len])
  obtain ⟨i0, hi, hz0, hz1, hz2⟩ := info_parts Try.info_i64
  go_enter Try.func34, Try.ntmps34
  go_wp2_with fail
  obtain ⟨k0, hb0⟩ := one_box w 29 #[.int .i64 x, .slice A n c]
  generalize w.alloc (.cells #[.int .i64 x, .slice A n c] 29) = W at *
  have h := h.to hb0
  cases tb : postB x (bxs rs) with
  | false =>
    go_at_call 37; refine (l04Is_any w.heap.size x A n c rs _ (k0.cell 0) (k0.cell 1) h hf).mono ?_; rw [tb]; rintro e w1 ⟨rfl, hb1⟩
    have hb0 := hb0.trans (hb1.mono hb0.size)
    go_wp2
    all_goals exact bodyPost_ret (v := .tuple #[.slice none 0 0, .bool false]) (by simp [results, Try.results34, go_sem]) rfl (by rw [tb]; exact ⟨none, 0, 0, [], rfl, (loads_no tb).symm, World.ownsRow_nil _ _ _ _, hb0⟩)
  | true =>
    go_at_call 37; refine (l04Is_any w.heap.size x A n c rs _ (k0.cell 0) (k0.cell 1) h hf).mono ?_; rw [tb]; rintro e w1 ⟨rfl, hb1⟩
    have hn32 : n ≤ 32 := by have := HL.out; have e := tb; simp only [postB, Bool.and_eq_true, decide_eq_true_eq] at e; omega
    have h := h.to hb1
    have k0 := k0.below hb1 k0.lt
    have hb0 := hb0.trans (hb1.mono hb0.size)
    have hWw := hb0.size
    clear hb1
    have l1 := k0.cell 1
    have klt := k0.lt
    go_wp2
    go_loopw [4, 5] (fun v i wr => ∃ k g cc : Nat, k ≤ n ∧ i = .int .i64 k ∧ v = .slice (some ⟨g, 0, none⟩) k cc ∧ wr.ownsRow w1.heap.size 2 1 (.slice (some ⟨g, 0, none⟩) k cc) k ((loadL ((bxs rs).take k)).map i64v) ∧ Below w1.heap.size w1 wr) (fun _ i _ => n - (intOf i).toNat)
    case atStart => exact ⟨0, _, _, by omega, rfl, rfl, World.ownsRow_made w1 #[] 0 (Nat.le_refl _) (by decide) rfl, (Below.refl _ _).alloc (Nat.le_refl _) _⟩
    case round =>
      obtain ⟨k, g, cc, hk, rfl, rfl, hown, hbel⟩ := hrel
      have l1 := (k0.below hbel klt).cell 1
      by_cases hlt : k < n
      · have hlt' : decide ((k : Int) < (n : Int)) = true := decide_eq_true (by omega)
        obtain ⟨b, off, r, rfl, hb, hz, hr, c0, c1, c2, c3⟩ := (h.below hbel).atr hlt
        have HT := Lib.hid (loadL_take (bxs_at hz))
        have HLN := Lib.hid (show (r.b.held.length : Int) = (r.ln : Int) by rw [hr.1])
        have hbs := hbel.size
        clear hz hr h
        have hownA := hown
        go_wp2_with (at_builtin; refine wpList_append_own _ rfl _ _ 46 rfl w1.heap.size 2 i0 (.int .i64 0) 1 8 Try.underlying46 hi hz0 hz1 hz2 rfl (by decide) _ _ _ rfl (hownA.alloc _) ⟨wr.heap.size, 0, none⟩ 1 1 [.int .i64 r.ln] rfl rfl (cell_newX _ _ _ _ rfl) (by intro u hu; simp at hu; subst hu; rfl) (by unfold maxLen; omega) (by omega) (by simp; omega) ?_; intro v' w5 hown' hgrow _)
        have hbel' : Below w1.heap.size w1 w5 := (hbel.alloc hbs _).grown hgrow (by simp; omega) (fun g hg => (hownA.lt g hg).1)
        obtain ⟨g5, c5, rfl⟩ := Go.Joins.ownsRow_form hown' (by omega)
        clear hgrow hownA hbel hown
        go_roundw
        case rel => exact ⟨k + 1, g5, c5, by omega, by go_num, rfl, by rw [HT.out, HLN.out]; exact hown', hbel'⟩
        case measure => simp [intOf]; omega
      · have hlt' : decide ((k : Int) < (n : Int)) = false := decide_eq_false (by omega)
        have hkn : k = n := by omega
        subst hkn
        rw [List.take_of_length_le (by have := HL.out; omega)] at hown
        have HO := Lib.hid hown
        clear hown
        go_wp2
        refine bodyPost_ret (v := .tuple #[.slice (some ⟨g, 0, none⟩) k cc, .bool true]) (by simp [results, Try.results34, go_sem]) rfl ?_
        exact ⟨_, _, _, _, by rw [tb], (loads_yes tb).symm, World.ownsRow.mono HO.out hWw, hb0.trans (hbel.mono hWw)⟩
def tokL (m : Int) (bs : List Bx) : List ByteArray := (bs.filter fun b => b.mem == m).map Bx.tok
def toksL (x m : Int) (bs : List Bx) : List ByteArray := if (postB x bs && idB m) = true then tokL m bs else []
theorem toks_no1 {x m : Int} {bs : List Bx} (h : postB x bs = false) : toksL x m bs = [] := by unfold toksL; rw [h]; rfl
theorem toks_no2 {x m : Int} {bs : List Bx} (h : idB m = false) : toksL x m bs = [] := by unfold toksL; rw [h]; simp
theorem toks_yes {x m : Int} {bs : List Bx} (h : postB x bs = true) (h1 : idB m = true) : toksL x m bs = tokL m bs := by unfold toksL; rw [h, h1]; rfl
theorem toks_len (x m : Int) (bs : List Bx) : (toksL x m bs).length ≤ bs.length := by
  unfold toksL
  split
  · simp only [tokL, List.length_map]; exact List.length_filter_le _ _
  · simp
theorem tokL_le (m : Int) (bs : List Bx) (k : Nat) : (tokL m (bs.take k)).length ≤ k := by
  simp only [tokL, List.length_map]
  exact Nat.le_trans (List.length_filter_le _ _) (by simp; omega)
theorem tokL_yes {m : Int} {bs : List Bx} {k : Nat} {b : Bx} (h : bs[k]? = some b) (he : b.mem = m) : (tokL m (bs.take (k + 1))).map strv = (tokL m (bs.take k)).map strv ++ [.string b.tok] := by
  simp [tokL, takeX h, List.filter_append, he, strv]
theorem tokL_len_yes {m : Int} {bs : List Bx} {k : Nat} {b : Bx} (h : bs[k]? = some b) (he : b.mem = m) : (tokL m (bs.take (k + 1))).length = (tokL m (bs.take k)).length + 1 := by
  simp [tokL, takeX h, List.filter_append, he]
theorem tokL_no {m : Int} {bs : List Bx} {k : Nat} {b : Bx} (h : bs[k]? = some b) (he : ¬ b.mem = m) : tokL m (bs.take (k + 1)) = tokL m (bs.take k) := by
  simp [tokL, takeX h, List.filter_append, he]
end Go.Proofs.Ytmnmmjobplbflaa
