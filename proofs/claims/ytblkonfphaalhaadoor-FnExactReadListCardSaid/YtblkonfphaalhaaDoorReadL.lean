import Derived.Test.YtblkonfphaalhaaDoorChecked
import Derived.WalkKit
import Derived.ProofKit
import Derived.OpenShut
import Derived.ShutString
import Derived.ChangeOld
import Derived.Below
import Derived.Lib.Hide
import Derived.Test.YtblkonfphaalhaaDoorCutS
import Derived.Test.YtblkonfphaalhaaDoorShelfN
namespace Go.Proofs.YtblkonfphaalhaaDoor
open Go.ChangeShapes Go.WideShapes Go.ChangeAt Go.RowKit
open Go.ChangeMaps (open_string shut_string)
set_option linter.unusedVariables false
theorem l01Value_yes (n : Int) (s : ByteArray) (h0 : -1000000000 ≤ n) (h1 : n ≤ 1000000000) (hs : strOfNums (decL n) = s) (w : World) :
    Calls Tryd.prog 24 #[.string s] w fun e w' => RdYes w n e w' := by
  have hl : s.data.toList = Lib.itoa n := by rw [← hs, decL_str]
  have hlen := itoa_len n h0 h1
  have hsz : s.size = (Lib.itoa n).length := by rw [← hl]; simp
  have hm : svL s.data.toList = n := by rw [hl]; exact svL_itoa n
  have hv := l01Value_go s w (by omega) (by omega)
  rw [hm] at hv
  exact hv.mono fun e w' hr => hr.1 ⟨⟨h0, h1⟩, hs⟩
theorem l01Value_no (s : ByteArray) (hs : s.size ≤ maxLen) (hno : ∀ n : Int, -1000000000 ≤ n → n ≤ 1000000000 → strOfNums (decL n) ≠ s) (w : World) :
    Calls Tryd.prog 24 #[.string s] w fun e w' => RdNo w e w' := by
  by_cases h : 1 ≤ s.size ∧ s.size ≤ 11
  · exact (l01Value_go s w h.1 h.2).mono fun e w' hr => hr.2 fun ⟨⟨h0, h1⟩, he⟩ => hno _ h0 h1 he
  · unfold maxLen at hs
    rcases (show s.size < 1 ∨ 11 < s.size by omega) with h1 | h1
    all_goals
      clear h
      go_enter Tryd.func24, Tryd.ntmps24
      go_wp2
      go_ret2
      exact ⟨rfl, Below.refl _ _⟩
def IsDec (n : Int) (s : ByteArray) : Prop := -1000000000 ≤ n ∧ n ≤ 1000000000 ∧ strOfNums (decL n) = s
/-- the numbers of the first parts, and the next part, if there is one, is no number -/
def NumAt (ps : List ByteArray) (ns : List Int) : Prop := ns.length ≤ ps.length ∧ (∀ j s, j < ns.length → ps[j]? = some s → ∃ n, ns[j]? = some n ∧ IsDec n s) ∧ ∀ s, ps[ns.length]? = some s → ∀ n, ¬ IsDec n s
theorem numAt_ex (ps : List ByteArray) : ∃ ns, NumAt ps ns := by
  induction ps with
  | nil => exact ⟨[], Nat.le_refl _, fun j s h => by simp at h, fun s h => by simp at h⟩
  | cons p ps ih =>
    obtain ⟨ns, h1, h2, h3⟩ := ih
    by_cases h : ∃ n, IsDec n p
    · obtain ⟨n, hn⟩ := h
      refine ⟨n :: ns, by simpa using h1, ?_, fun s hs => h3 s (by simpa using hs)⟩
      intro j s hj hs
      cases j with
      | zero => simp at hs; subst hs; exact ⟨n, rfl, hn⟩
      | succ j => obtain ⟨m, e, hm⟩ := h2 j s (by simpa using hj) (by simpa using hs); exact ⟨m, by simpa using e, hm⟩
    · exact ⟨[], Nat.zero_le _, fun j s h => by simp at h, fun s hs n hn => h ⟨n, by simp at hs; subst hs; exact hn⟩⟩
def LYes (w : World) (ns : List Int) (e : Ending) (w' : World) : Prop := ∃ A m c, e = .returned (.tuple #[.slice A m c, .bool true]) ∧ w'.ownsRow w.heap.size 2 1 (.slice A m c) m (ns.map i64v) ∧ Below w.heap.size w w'
def LNo (w : World) (e : Ending) (w' : World) : Prop := e = .returned (.tuple #[.slice none 0 0, .bool false]) ∧ Below w.heap.size w w'
def noneS : ByteArray := ⟨#[110, 111, 110, 101]⟩
theorem take_at {ns : List Int} {k : Nat} {n : Int} (h : ns[k]? = some n) : ns.take (k + 1) = ns.take k ++ [n] := by
  have hk : k < ns.length := (List.getElem?_eq_some_iff.1 h).1
  have hp : ns[k] = n := (List.getElem?_eq_some_iff.1 h).2
  rw [List.take_succ_eq_append_getElem hk, hp]
theorem own_types {w : World} {b1 e1 s1 n1 b2 e2 s2 n2 : Nat} {v1 v2 : Value} {xs ys : List Value} (h1 : w.ownsRow b1 e1 s1 v1 n1 xs) (h2 : w.ownsRow b2 e2 s2 v2 n2 ys) (hne : e1 ≠ e2) : v1.ownBlock = none ∨ v1.ownBlock ≠ v2.ownBlock := by
  rcases h1.2 with ⟨rfl, _⟩ | ⟨g, cap, cur, rfl, _, hg, _⟩
  · exact .inl rfl
  · right
    rcases h2.2 with ⟨rfl, _⟩ | ⟨g', cap', cur', rfl, _, hg', _⟩
    · simp [Value.ownBlock]
    · intro e
      simp only [Value.ownBlock, Option.some.injEq] at e
      subst e
      rw [hg] at hg'
      injection hg' with hg'
      injection hg' with _ ht
      exact hne ht
theorem cutL_part (l : List UInt8) : ∀ p ∈ cutL l, p.length ≤ l.length := by
  induction l with
  | nil => intro p hp; simp [cutL] at hp; subst hp; simp
  | cons b r ih =>
    intro p hp
    have hne := cutL_ne r
    unfold cutL at hp
    split at hp
    · rcases List.mem_cons.1 hp with e | e
      · subst e; simp
      · have := ih p e; simp; omega
    · cases hc : cutL r with
      | nil => exact absurd hc hne
      | cons q qs =>
        rw [hc] at hp ih
        simp only [List.mem_cons] at hp
        rcases hp with e | e
        · subst e
          have := ih q (by simp)
          simp; omega
        · have := ih p (by simp [e]); simp; omega
theorem cutB_size {s p : ByteArray} (h : p ∈ cutB s) : p.size ≤ s.size := by
  unfold cutB at h
  obtain ⟨l, hl, rfl⟩ := List.mem_map.1 h
  have := cutL_part _ l hl
  rw [tl_len] at this
  exact this
set_option maxHeartbeats 1600000 in
set_option maxRecDepth 100000 in
theorem spec_ReadList_go (s : ByteArray) (ns : List Int) (w : World) (hs : s.size ≤ 1048576) (hne : s ≠ noneS) (hm : NumAt (cutB s) ns) :
    Calls Tryd.prog 30 #[.string s] w fun e w' => ((cutB s).length = ns.length ∧ ns.length ≤ 300 → LYes w ns e w') ∧ (¬ ((cutB s).length = ns.length ∧ ns.length ≤ 300) → LNo w e w') := by
  obtain ⟨i0, hi, hz0, hz1, hz2⟩ := info_partsD Tryd.info_i64
  have hbe := toList_ne hne
  rw [show noneS.toList = [110, 111, 110, 101] by rw [ByteArray.toList_eq]; rfl] at hbe
  have HP := Lib.hid (fun p (h : p ∈ cutB s) => Nat.le_trans (cutB_size h) hs)
  generalize hps : cutB s = ps at *
  have HPS := Lib.hid hps
  obtain ⟨hmx, hgood, hbad⟩ := hm
  have HG := Lib.hid hgood
  have HB := Lib.hid hbad
  clear hps hgood hbad
  go_enter Tryd.func30, Tryd.ntmps30
  go_wp2_with fail
  have hbA : Below w.heap.size w (w.alloc (.cells #[] 2)) := (Below.refl _ _).alloc (Nat.le_refl _) _
  have hoA : (w.alloc (.cells #[] 2)).ownsRow w.heap.size 2 1 (.slice (some ⟨w.heap.size, 0, none⟩) 0 0) 0 ([].map i64v) := World.ownsRow_made w #[] 0 (Nat.le_refl _) (by decide) rfl
  generalize (w.alloc (.cells #[] 2)) = wA at *
  go_at_call 46; refine (l01Cut_any s _ hs).mono ?_; rintro e w1 ⟨A1, m1, c1, rfl, ho1, hb1⟩
  rw [HPS.out] at ho1
  have hm1 : m1 = ps.length := by simpa using ho1.1.symm
  subst hm1
  have hoA1 := own_below hoA hb1 (Nat.le_refl _)
  have hbel1 := hbA.trans (hb1.mono hbA.size)
  clear hoA hbA hb1
  by_cases h3 : ps.length ≤ 300
  · go_wp2
    go_loopw [4, 6] (fun v iv wr => ∃ k : Nat, k ≤ ns.length ∧ iv = .int .i64 k ∧ wr.ownsRow w.heap.size 2 1 v k ((ns.take k).map i64v) ∧ Below w.heap.size w wr ∧ wr.ownsRow wA.heap.size 9 1 (.slice A1 ps.length c1) ps.length (ps.map strw)) (fun _ iv _ => ps.length - (intOf iv).toNat)
    case atStart => exact ⟨0, by omega, rfl, hoA1, hbel1, ho1⟩
    case round =>
      obtain ⟨k, hk, rfl, hown, hbel, hbw⟩ := hrel
      clear hoA1 hbel1 ho1
      have hr := Row.of_own_any hbw
      have hbs := hbel.size
      by_cases hkn : k < ps.length
      · obtain ⟨bb, off, p, rfl, _, hp, hc⟩ := hr.ats hkn
        clear hr
        by_cases hkm : k < ns.length
        · obtain ⟨n, hn, hd0, hd1, hd2⟩ := HG.out k p hkm hp
          have HT := Lib.hid (take_at hn)
          clear hp hn
          go_wp2_with fail
          go_at_call 24; refine (l01Value_yes n p hd0 hd1 hd2 _).mono ?_; rintro e w3 ⟨rfl, hbn⟩
          have hown3 := own_below hown hbn (Nat.le_refl _)
          have hbel3 := hbel.trans (hbn.mono hbs)
          have hbw3 := own_below hbw hbn (Nat.le_refl _)
          have hbs3 := hbel3.size
          clear hown hbel hbn hc hbw hd2
          go_wp2_with (at_builtin; refine wpList_append_own _ rfl (.tmp 34) (.tmp 36) 27 rfl w.heap.size 2 i0 (.int .i64 0) 1 8 Tryd.underlying27 hi hz0 hz1 hz2 rfl (by decide) _ _ _ rfl (hown3.alloc _) ⟨w3.heap.size, 0, none⟩ 1 1 [.int .i64 n] rfl rfl ?_ ?_ ?_ ?_ ?_ ?_)
          all_goals try first | rfl | exact cell_one_new _ _ _ | (intro u hu; simp at hu; subst hu; rfl) | (unfold maxLen; omega) | omega | (simp; omega)
          intro v' w5 hown' hgrow _
          have hbel' : Below w.heap.size w w5 := (hbel3.alloc hbs3 _).grown hgrow (by simp; omega) (fun g hg => (hown3.lt g hg).1)
          have hbw' := (hbw3.alloc (Obj.cells #[Value.int IntKind.i64 n] 2)).kept hgrow (own_types hbw3 hown3 (by decide))
          clear hgrow hown3 hbel3 hbw3
          go_wp2
          go_roundw
          case rel => exact ⟨k + 1, by omega, by go_num, by rw [HT.out]; simpa [i64v] using hown', hbel', hbw'⟩
          case measure => simp [intOf]; omega
        · have hke : k = ns.length := by omega
          have hne2 : ps.length ≠ ns.length := by omega
          subst hke
          have hno := HB.out p hp
          have hpz := HP.out p (List.mem_of_getElem? hp)
          clear hp
          go_wp2_with (go_at_call 24; refine (l01Value_no p (Nat.le_trans hpz (by unfold maxLen; omega)) (fun n a b e => hno n ⟨a, b, e⟩) _).mono ?_; rintro e w3 ⟨rfl, hbn⟩)
          go_ret2
          exact ⟨fun h => absurd h.1 hne2, fun _ => ⟨rfl, hbel.trans (hbn.mono hbs)⟩⟩
      · have hke : k = ns.length := by omega
        have hpl : ps.length = ns.length := by omega
        rw [hke, List.take_length] at hown
        rcases hown.2 with ⟨rfl, h0⟩ | ⟨g, cap, cur, rfl, _⟩
        · rw [h0] at hown
          go_wp2
          go_ret2
          exact ⟨fun _ => ⟨none, 0, 0, rfl, hown, hbel⟩, fun h => absurd ⟨hpl, by omega⟩ h⟩
        · go_wp2
          go_ret2
          exact ⟨fun _ => ⟨_, _, _, rfl, hown, hbel⟩, fun h => absurd ⟨hpl, by omega⟩ h⟩
  · have hno : ¬ (ps.length = ns.length ∧ ns.length ≤ 300) := fun h => h3 (by omega)
    go_wp2
    go_ret2
    exact ⟨fun h => absurd h hno, fun _ => ⟨rfl, hbel1⟩⟩
/-- what strings.SplitN asks of a variable of the library's own -/
def MaxL (w : World) : Prop := ∃ m, w.cell? ⟨Tryd.laysM147_ren.g 1, 0, none⟩ = some (.int .i64 m)
theorem MaxL.below {w w' : World} (h : MaxL w) (hb : Below w.heap.size w w') : MaxL w' := by
  obtain ⟨m, hm⟩ := h
  have hlt := World.block_lt_of_cell? w _ hm
  exact ⟨m, (hb.cell hlt).trans hm⟩
theorem row_cells (w : World) (ps : List ByteArray) (N : Nat) : Row strw (w.alloc (.cells (Lib.cellsOf ps N) 9)) (w.heap.size + 1) (some ⟨w.heap.size, 0, none⟩) ps.length ps :=
  ⟨rfl, fun _ => ⟨w.heap.size, 0, rfl, by omega, fun j u hu => by
    have hb : Blk (w.alloc (.cells (Lib.cellsOf ps N) 9)) w.heap.size 9 (Lib.cellsOf ps N) := Blk.new w _ _
    have hj : j < ps.length := (List.getElem?_eq_some_iff.1 hu).1
    rw [Nat.zero_add, hb.cell j]
    have hv := (List.getElem?_eq_some_iff.1 hu).2
    simp [Lib.cellsOf, List.getElem?_append_left, hj, hv]⟩⟩
set_option maxHeartbeats 1600000 in
set_option maxRecDepth 100000 in
theorem impl_ReadList_go (s : ByteArray) (ns : List Int) (w : World) (hs : s.size ≤ 1048576) (hne : s ≠ noneS) (hm : NumAt (cutB s) ns) (hL : Laid w) (hX : MaxL w) :
    Calls Tryd.prog 17 #[.string s] w fun e w' => ((cutB s).length = ns.length ∧ ns.length ≤ 300 → LYes w ns e w') ∧ (¬ ((cutB s).length = ns.length ∧ ns.length ≤ 300) → LNo w e w') := by
  obtain ⟨i0, hi, hz0, hz1, hz2⟩ := info_partsD Tryd.info_i64
  have hbe := toList_ne hne
  rw [show noneS.toList = [110, 111, 110, 101] by rw [ByteArray.toList_eq]; rfl] at hbe
  obtain ⟨mx, hmx0⟩ := hX
  have hsp := Tryd.strings_SplitN s ⟨#[44]⟩ 301 mx w (by omega) hmx0 (by decide) (by decide) (by decide)
  obtain ⟨hc1, hc2⟩ := splitN_cut s
  have HP := Lib.hid (fun p (h : p ∈ cutB s) => Nat.le_trans (cutB_size h) hs)
  obtain ⟨hmx, hgood, hbad⟩ := hm
  have HG := Lib.hid hgood
  have HB := Lib.hid hbad
  clear hgood hbad hmx0
  have hNle : min 301 (s.size + 1) ≤ 301 := Nat.min_le_left _ _
  generalize min 301 (s.size + 1) = N at *
  by_cases h3 : (cutB s).length ≤ 300
  · rw [hc1 h3] at hsp
    have hrow := row_cells w (cutB s) N
    clear hc1 hc2
    generalize cutB s = ps at *
    go_enter Tryd.func17, Tryd.ntmps17
    go_wp2_with fail
    have hbA : Below w.heap.size w (w.alloc (.cells (Lib.cellsOf ps N) 9)) := (Below.refl _ _).alloc (Nat.le_refl _) _
    have hsA : w.heap.size + 1 ≤ (w.alloc (.cells (Lib.cellsOf ps N) 9)).heap.size := by simp
    go_at_call 31; refine hsp.mono ?_; rintro e wA ⟨rfl, hwA⟩
    rw [← hwA] at hrow hbA hsA
    clear hwA hsp
    go_wp2_with (at_make; refine wpList_make_own _ rfl _ _ 27 rfl (w.heap.size + 1) 2 i0 (.int .i64 0) 1 Tryd.underlying27 hi hz0 hz1 _ _ _ ps.length rfl rfl (by omega) (by rw [hz2]; omega) (by unfold maxLen; omega) hsA ?_; intro w0 hown0 hgrow0)
    have hbel0 : Below w.heap.size w w0 := hbA.grown hgrow0 hbA.size (by simp)
    have hbw0 : Below (w.heap.size + 1) wA w0 := (Below.refl _ _).grown hgrow0 hsA (by simp)
    clear hgrow0 hbA
    go_loopw [5, 22] (fun v iv wr => ∃ k : Nat, k ≤ ns.length ∧ iv = .int .i64 k ∧ wr.ownsRow (w.heap.size + 1) 2 1 v k ((ns.take k).map i64v) ∧ Below w.heap.size w wr ∧ Below (w.heap.size + 1) wA wr ∧ w.heap.size + 1 ≤ wr.heap.size) (fun _ iv _ => ps.length - (intOf iv).toNat)
    case atStart => exact ⟨0, by omega, rfl, hown0, hbel0, hbw0, Nat.le_trans hsA hbw0.size⟩
    case round =>
      obtain ⟨k, hk, rfl, hown, hbel, hbw, hsz⟩ := hrel
      clear hown0 hbel0 hbw0
      have hbs := hbel.size
      by_cases hkn : k < ps.length
      · obtain ⟨bb, off, p, hA, hblt, hp, hcw⟩ := hrow.ats hkn
        injection hA with hA
        injection hA with e1 e2 _
        subst e1; subst e2
        have hc : wr.cell? ⟨w.heap.size, 0 + k, none⟩ = some (.string p) := (hbw.cell hblt).trans hcw
        rw [Nat.zero_add] at hc
        have hpz := HP.out p (List.mem_of_getElem? hp)
        clear hcw hblt
        by_cases hkm : k < ns.length
        · obtain ⟨n, hn, hd0, hd1, hd2⟩ := HG.out k p hkm hp
          have HT := Lib.hid (take_at hn)
          clear hp hn
          go_wp2_with fail
          go_at_call 11; refine (impl_ReadDecimal_yes n p hd0 hd1 hd2 _ (hL.below hbel)).mono ?_; rintro e w3 ⟨rfl, hbn⟩
          have hown3 := own_below hown hbn (Nat.le_refl _)
          have hbel3 := hbel.trans (hbn.mono hbs)
          have hbw3 := hbw.trans (hbn.mono hsz)
          have hsz3 := Nat.le_trans hsz hbn.size
          clear hown hbel hbn hc hbw hd2
          go_wp2_with (at_builtin; refine wpList_append_own _ rfl (.tmp 33) (.tmp 35) 27 rfl (w.heap.size + 1) 2 i0 (.int .i64 0) 1 8 Tryd.underlying27 hi hz0 hz1 hz2 rfl (by decide) _ _ _ rfl (hown3.alloc _) ⟨w3.heap.size, 0, none⟩ 1 1 [.int .i64 n] rfl rfl ?_ ?_ ?_ ?_ ?_ ?_)
          all_goals try first | rfl | exact cell_one_new _ _ _ | (intro u hu; simp at hu; subst hu; rfl) | (unfold maxLen; omega) | omega | (simp; omega)
          intro v' w5 hown' hgrow _
          have hbel' : Below w.heap.size w w5 := (hbel3.alloc hbel3.size _).grown hgrow (by simp; omega) (fun g hg => by have := (hown3.lt g hg).1; omega)
          have hbw' : Below (w.heap.size + 1) wA w5 := (hbw3.alloc hsz3 _).grown hgrow (by simp; omega) (fun g hg => (hown3.lt g hg).1)
          have hsz' : w.heap.size + 1 ≤ w5.heap.size := by have := hgrow.size; simp at this; omega
          clear hgrow hown3 hbel3 hbw3
          go_wp2
          go_roundw
          case rel => exact ⟨k + 1, by omega, by go_num, by rw [HT.out]; simpa [i64v] using hown', hbel', hbw', hsz'⟩
          case measure => simp [intOf]; omega
        · have hke : k = ns.length := by omega
          have hne2 : ps.length ≠ ns.length := by omega
          subst hke
          have hno := HB.out p hp
          clear hp
          go_wp2_with (go_at_call 11; refine (impl_ReadDecimal_no p hpz (fun n a b e => hno n ⟨a, b, e⟩) _ (hL.below hbel)).mono ?_; rintro e w3 ⟨rfl, hbn⟩)
          go_ret2
          exact ⟨fun h => absurd h.1 hne2, fun _ => ⟨rfl, hbel.trans (hbn.mono hbs)⟩⟩
      · have hke : k = ns.length := by omega
        have hpl : ps.length = ns.length := by omega
        rw [hke, List.take_length] at hown
        have hown : wr.ownsRow w.heap.size 2 1 u5 ns.length (ns.map i64v) := by
          rcases hown.2 with ⟨h0, h1⟩ | ⟨g, cap, cur, hv, hg, hh, hn, hcap, hsz, htake⟩
          · exact ⟨hown.1, .inl ⟨h0, h1⟩⟩
          · exact ⟨hown.1, .inr ⟨g, cap, cur, hv, by omega, hh, hn, hcap, hsz, htake⟩⟩
        rcases hown.2 with ⟨rfl, h0⟩ | ⟨g, cap, cur, rfl, _⟩
        · rw [h0] at hown
          go_wp2
          go_ret2
          exact ⟨fun _ => ⟨none, 0, 0, rfl, hown, hbel⟩, fun h => absurd ⟨hpl, by omega⟩ h⟩
        · go_wp2
          go_ret2
          exact ⟨fun _ => ⟨_, _, _, rfl, hown, hbel⟩, fun h => absurd ⟨hpl, by omega⟩ h⟩
  · have hno : ¬ ((cutB s).length = ns.length ∧ ns.length ≤ 300) := fun h => h3 (by omega)
    have hlen := hc2 (by omega)
    have hle := Lib.splitB_length_le ⟨#[44]⟩ 0 (N - 1) s
    generalize Lib.splitB ⟨#[44]⟩ 0 (N - 1) s = qs at *
    go_enter Tryd.func17, Tryd.ntmps17
    go_wp2_with (go_at_call 31; refine hsp.mono ?_; rintro e wA ⟨rfl, hwA⟩)
    go_ret2
    exact ⟨fun h => absurd h hno, fun _ => ⟨rfl, (Below.refl _ _).alloc (Nat.le_refl _) _⟩⟩
def RlYes (s : ByteArray) (ns : List Int) : Prop := (s = noneS ∧ ns = []) ∨ (s ≠ noneS ∧ NumAt (cutB s) ns ∧ (cutB s).length = ns.length ∧ ns.length ≤ 300)
def RlNo (s : ByteArray) : Prop := s ≠ noneS ∧ ∃ ns, NumAt (cutB s) ns ∧ ¬ ((cutB s).length = ns.length ∧ ns.length ≤ 300)
theorem rl_or (s : ByteArray) : (∃ ns, RlYes s ns) ∨ RlNo s := by
  by_cases h : s = noneS
  · exact .inl ⟨[], .inl ⟨h, rfl⟩⟩
  · obtain ⟨ns, hn⟩ := numAt_ex (cutB s)
    by_cases hc : (cutB s).length = ns.length ∧ ns.length ≤ 300
    · exact .inl ⟨ns, .inr ⟨h, hn, hc.1, hc.2⟩⟩
    · exact .inr ⟨h, ns, hn, hc⟩
theorem RlYes.len {s : ByteArray} {ns : List Int} (h : RlYes s ns) : ns.length ≤ 300 := by
  rcases h with ⟨_, h⟩ | ⟨_, _, _, h⟩
  · rw [h]; simp
  · exact h
theorem spec_ReadList_yes (s : ByteArray) (ns : List Int) (w : World) (hs : s.size ≤ 1048576) (hy : RlYes s ns) :
    Calls Tryd.prog 16 #[.string s] w fun e w' => LYes w ns e w' := by
  have hn : Calls Tryd.prog 30 #[.string s] w fun e w' => LYes w ns e w' := by
    rcases hy with ⟨rfl, rfl⟩ | ⟨h1, h2, h3⟩
    · unfold noneS
      go_enter Tryd.func30, Tryd.ntmps30
      go_wp2
      go_ret2
      exact ⟨_, 0, _, rfl, World.ownsRow_made w #[] 0 (Nat.le_refl _) (by decide) rfl, (Below.refl _ _).alloc (Nat.le_refl _) _⟩
    · exact (spec_ReadList_go s ns w hs h1 h2).mono fun e w' hr => hr.1 h3
  go_enter Tryd.func16, Tryd.ntmps16
  go_wp2_with (go_at_call 30; refine hn.mono ?_; rintro e w1 ⟨A, m, c, rfl, ho, hb⟩)
  go_ret2
  exact ⟨A, m, c, rfl, ho, hb⟩
theorem spec_ReadList_no (s : ByteArray) (w : World) (hs : s.size ≤ 1048576) (hy : RlNo s) :
    Calls Tryd.prog 16 #[.string s] w fun e w' => LNo w e w' := by
  obtain ⟨h1, ns, h2, h3⟩ := hy
  have hn := (spec_ReadList_go s ns w hs h1 h2).mono fun e w' hr => hr.2 h3
  clear h1 h2 h3
  go_enter Tryd.func16, Tryd.ntmps16
  go_wp2_with (go_at_call 30; refine hn.mono ?_; rintro e w1 ⟨rfl, hb⟩)
  go_ret2
  exact ⟨rfl, hb⟩
theorem impl_ReadList_yes (s : ByteArray) (ns : List Int) (w : World) (hs : s.size ≤ 1048576) (hy : RlYes s ns) (hL : Laid w) (hX : MaxL w) :
    Calls Tryd.prog 17 #[.string s] w fun e w' => LYes w ns e w' := by
  rcases hy with ⟨rfl, rfl⟩ | ⟨h1, h2, h3⟩
  · unfold noneS
    clear hL hX
    go_enter Tryd.func17, Tryd.ntmps17
    go_wp2
    go_ret2
    exact ⟨none, 0, 0, rfl, World.ownsRow_nil _ _ _ _, Below.refl _ _⟩
  · exact (impl_ReadList_go s ns w hs h1 h2 hL hX).mono fun e w' hr => hr.1 h3
theorem impl_ReadList_no (s : ByteArray) (w : World) (hs : s.size ≤ 1048576) (hy : RlNo s) (hL : Laid w) (hX : MaxL w) :
    Calls Tryd.prog 17 #[.string s] w fun e w' => LNo w e w' := by
  obtain ⟨h1, ns, h2, h3⟩ := hy
  exact (impl_ReadList_go s ns w hs h1 h2 hL hX).mono fun e w' hr => hr.2 h3
end Go.Proofs.YtblkonfphaalhaaDoor
