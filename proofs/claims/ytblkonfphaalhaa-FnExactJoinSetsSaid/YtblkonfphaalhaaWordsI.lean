import Derived.Test.YtblkonfphaalhaaChecked
import Derived.WalkKit
import Derived.ProofKit
import Derived.OpenShut
import Derived.ShutString
import Derived.ChangeOld
import Derived.Below
import Derived.Lib.Hide
import Derived.WalkSpells
import Derived.WalkLawsBesides
import Derived.Lib.OthersKept
import Derived.WalkSmall
import Derived.Laws.Cover4
import Derived.Laws.RangeString
import Derived.Test.YtblkonfphaalhaaWordsS
import Derived.Test.YtblkonfphaalhaaIsNameC
namespace Go.Proofs.Ytblkonfphaalhaa
open Go.ChangeShapes Go.WideShapes Go.ChangeAt Go.RowKit
open Go.ChangeMaps (open_string shut_string)
set_option linter.unusedVariables false
theorem Try.info_i32 : (Try.prog.info? 21).map (fun i => (i.zero, i.size, i.bytes)) = some (some (.int .i32 0), 1, 4) := by kernel_rfl
def i32v : Int → Value := fun x => Value.int .i32 x
theorem encode_ascii (n : Int) (h0 : 0 ≤ n) (h1 : n < 128) : Utf8.encode n = strOfNums [n] := by
  have hv : Utf8.valid n = true := by simp [Utf8.valid]; omega
  have hn : n.toNat < 128 := by omega
  simp [Utf8.encode, hv, hn, strOfNums]
theorem runes_ascii (l : List Int) (h : ByteL l) : runesBytes l = strOfNums l := by
  have gen : ∀ (l acc : List Int), ByteL l → l.foldl (fun r n => r ++ Utf8.encode n) (strOfNums acc) = strOfNums (acc ++ l) := by
    intro l
    induction l with
    | nil => intro acc _; simp
    | cons x l ih =>
      intro acc h
      rw [List.foldl_cons, encode_ascii x (h x (by simp)).1 (h x (by simp)).2, strOfNums_snoc, ih (acc ++ [x]) (fun y hy => h y (by simp [hy]))]
      simp
  exact gen l [] h
/-- one step of a range over a string whose next byte is ASCII, other rows kept -/
theorem next_pack (w0 wr : World) (B : Nat) (s : ByteArray) (k : Nat) (hk : wr.heap[B]? = some (.stringIter s k)) (h : k < s.size) (ha : s[k].toNat < 128) (hb : Below B w0 wr) :
    ∃ w1, (∀ ty, (Instr.next (.pointer (some ⟨B, 0, none⟩)) true ty).run Try.prog wr = .ok (.tuple #[.bool true, .int .i64 k, .int .i32 s[k].toNat]) w1) ∧ w1.heap[B]? = some (.stringIter s (k + 1)) ∧
      (∀ base e size v n xs, B < base → wr.ownsRow base e size v n xs → w1.ownsRow base e size v n xs) ∧ w1.heap.size = wr.heap.size ∧ Below B w0 w1 :=
  ⟨_, fun ty => Lib.run_next_ascii_at wr B s k ty hk h ha, Lib.iterAt_heap wr B s k (k + 1) hk, fun _ _ _ _ _ _ hlt ho => ownsRow_iterAt ho hlt s (k + 1), Lib.iterAt_size _ _ _ _, Lib.below_iterAt hb (Nat.le_refl _) s (k + 1)⟩
theorem own_types {w : World} {b1 e1 s1 n1 b2 e2 s2 n2 : Nat} {v1 v2 : Value} {xs ys : List Value} (h1 : w.ownsRow b1 e1 s1 v1 n1 xs) (h2 : w.ownsRow b2 e2 s2 v2 n2 ys) (hne : e1 ≠ e2) : v1.ownBlock = none ∨ v1.ownBlock ≠ v2.ownBlock := by
  rcases h1.2 with ⟨rfl, _⟩ | ⟨g, cap, cur, rfl, _, hg, _⟩
  · exact .inl rfl
  · right
    rcases h2.2 with ⟨rfl, _⟩ | ⟨g', cap', cur', rfl, _, hg', _⟩
    · simp [Value.ownBlock]
    · intro e
      simp only [Value.ownBlock, Option.some.injEq] at e
      subst e
      rw [hg] at hg'
      injection hg' with hg'
      injection hg' with _ ht
      exact hne ht
theorem own_weaken {w : World} {b b' e size n : Nat} {v : Value} {xs : List Value} (h : w.ownsRow b e size v n xs) (hb : b' ≤ b) : w.ownsRow b' e size v n xs := by
  rcases h.2 with ⟨h0, h1⟩ | ⟨g, cap, cur, hv, hg, hh, hn, hcap, hsz, htake⟩
  · exact ⟨h.1, .inl ⟨h0, h1⟩⟩
  · exact ⟨h.1, .inr ⟨g, cap, cur, hv, Nat.le_trans hb hg, hh, hn, hcap, hsz, htake⟩⟩
theorem own_cut {w : World} {base e n g cap : Nat} {xs : List Value} (h : w.ownsRow base e 1 (.slice (some ⟨g, 0, none⟩) n cap) n xs) : w.ownsRow base e 1 (.slice (some ⟨g, 0, none⟩) 0 cap) 0 [] := by
  rcases h.2 with ⟨h0, _⟩ | ⟨g', cap', cur, hv, hg, hh, hn, hcap, hsz, htake⟩
  · cases h0
  · cases hv
    exact ⟨rfl, .inr ⟨g, cap, cur, rfl, hg, hh, by omega, hcap, hsz, by simp⟩⟩
theorem isDigit_yes (r : Int) (w : World) (h1 : 48 ≤ r) (h2 : r ≤ 57) :
    Calls Try.prog 70 #[.int .i32 r] w fun e w' => e = .returned (.bool true) ∧ w = w' := by
  go_enter Try.func70, Try.ntmps70
  go_wp2
  go_ret
  exact ⟨rfl, rfl⟩
theorem isDigit_no (r : Int) (w : World) (h : r < 48 ∨ 57 < r) :
    Calls Try.prog 70 #[.int .i32 r] w fun e w' => e = .returned (.bool false) ∧ w = w' := by
  by_cases h1 : r < 48
  · clear h
    go_enter Try.func70, Try.ntmps70
    go_wp2
    go_ret
    exact ⟨rfl, rfl⟩
  · have h2 : 57 < r := by omega
    clear h
    go_enter Try.func70, Try.ntmps70
    go_wp2
    go_ret
    exact ⟨ret_bool (by simp; omega), rfl⟩
/-- the text with a blank behind it -/
def blanked (s : ByteArray) : ByteArray := s ++ ⟨#[32]⟩
theorem blanked_size (s : ByteArray) : (blanked s).size = s.size + 1 := by rw [blanked, ByteArray.size_append]; rfl
theorem blanked_at (s : ByteArray) (k : Nat) (h : k < (blanked s).size) (ht : textB s = true) : ∃ b : Int, ((blanked s)[k].toNat : Int) = b ∧ 32 ≤ b ∧ b ≤ 126 ∧ wTo s (k + 1) = wstep (wTo s k) b := by
  rw [blanked_size] at h
  by_cases hk : k < s.size
  · have e : (blanked s)[k] = s[k] := by simp [blanked, ByteArray.getElem_append_left hk]
    have hb := textB_at ht k hk
    refine ⟨(s[k].toNat : Int), by rw [e], hb.1, hb.2, ?_⟩
    show wstep (wTo s k) (byteAt s k) = _
    rw [byteAt_eq s k hk]
  · have hk2 : k = s.size := by omega
    subst hk2
    refine ⟨32, ?_, by omega, by omega, ?_⟩
    · have e : (blanked s)[s.size] = (32 : UInt8) := by
        simp only [blanked]
        rw [ByteArray.getElem_append_right (Nat.le_refl _)]
        simp
        rfl
      rw [e]; rfl
    · show wstep (wTo s s.size) (byteAt s s.size) = _
      rw [byteAt_out]
      simp [wstep, lowC]

theorem iter_grown {w1 w2 : World} {B base e size n : Nat} {v : Value} {xs : List Value} {o X : Obj} (h : w1.heap[B]? = some X) (hB : B < base) (hv : w1.ownsRow base e size v n xs) (hg : (w1.alloc o).grownBy w2 v.ownBlock) : w2.heap[B]? = some X := by
  have hlt : B < w1.heap.size := by
    rcases Nat.lt_or_ge B w1.heap.size with hlt | hge
    · exact hlt
    · rw [Array.getElem?_eq_none hge] at h; cases h
  rw [hg.block B (by simp; omega) (fun e => by have := (hv.lt B e.symm).1; omega), Below.heap_alloc w1 o B hlt]
  exact h
set_option maxHeartbeats 1600000 in
set_option maxRecDepth 100000 in
theorem impl_WordsOf_yes (s : ByteArray) (w : World) (hs : s.size ≤ maxLen) (ht : textB s = true) :
    Calls Try.prog 47 #[.string s] w fun e w' => WYes w (wordsL s) e w' := by
  have HT := Lib.hid ht
  have hsz := textB_size ht
  clear ht
  obtain ⟨i0, hi, hz0, hz1, hz2⟩ := info_parts Try.info_str
  obtain ⟨i1, hi', hz0', hz1', hz2'⟩ := info_parts Try.info_i32
  have hsum : s.size + (⟨#[32]⟩ : ByteArray).size ≤ 9223372036854775807 := by show s.size + 1 ≤ _; omega
  have HBS := Lib.hid (blanked_size s)
  go_enter Try.func47, Try.ntmps47
  go_wp2_with (go_at_call 22; refine (impl_IsText_any _ _ hs).mono ?_; rintro e w' ⟨he, rfl⟩; rw [HT.out] at he; subst he)
  go_loopw [4, 5] (fun v u wr => ∃ k : Nat, k ≤ s.size + 1 ∧ wr.heap[w.heap.size]? = some (.stringIter (blanked s) k) ∧ wr.ownsRow (w.heap.size + 1) 9 1 v (wTo s k).1.length (wRow (wTo s k)) ∧ wr.ownsRow (w.heap.size + 1) 21 1 u (wTo s k).2.length ((wTo s k).2.map i32v) ∧ Below w.heap.size w wr ∧ w.heap.size + 1 ≤ wr.heap.size) (fun _ _ wr => s.size + 1 - wr.iterPos w.heap.size)
  case atStart =>
    refine ⟨0, by omega, ?_, World.ownsRow_nil _ _ _ _, World.ownsRow_nil _ _ _ _, ?_, ?_⟩
    · exact World.iter_heap _ _ _
    · exact (Below.refl _ _).alloc (Nat.le_refl _) _
    · simp [World.iter]
  case round =>
    obtain ⟨k, hk, hit, hown, hcur, hbel, hsz1⟩ := hrel
    have HIP := Lib.hid (iterPos_of hit)
    by_cases hlt : k < (blanked s).size
    · obtain ⟨b, hb, hb0, hb1, hst⟩ := blanked_at s k hlt HT.out
      obtain ⟨w1, hnx, hit1, hkeep, hsize, hbel1⟩ := next_pack w wr w.heap.size (blanked s) k hit hlt (by omega) hbel
      rw [hb] at hnx
      have hown1 := hkeep _ _ _ _ _ _ (by omega) hown
      have hcur1 := hkeep _ _ _ _ _ _ (by omega) hcur
      have hk2 : k < s.size + 1 := by have := HBS.out; omega
      have hbd := wTo_bd s k
      have HB := Lib.hid (wTo_byte s k)
      have HST := Lib.hid hst
      have hsz2 : w.heap.size + 1 ≤ w1.heap.size := by omega
      clear hst hb hlt hown hcur hkeep hbel hsize
      generalize hws : wTo s k = st at *
      clear hws
      obtain ⟨done, cur⟩ := st
      simp only at hbd hown1 hcur1 HB
      by_cases hC : 65 ≤ b ∧ b ≤ 90
      · obtain ⟨c1, c2⟩ := hC
        have HS := Lib.hid (HST.out.trans (wstep_put (done, cur) b (b + 32) (by rw [lowC_cap b c1 c2]; omega) (by omega)))
        go_wp2_with (first | (at_builtin; refine wpList_append_own _ rfl (.tmp 31) (.tmp 33) 62 rfl (w.heap.size + 1) 21 i1 (.int .i32 0) 1 4 Try.underlying62 hi' hz0' hz1' hz2' rfl (by decide) _ _ _ rfl (hcur1.alloc _) ⟨w1.heap.size, 0, none⟩ 1 1 [.int .i32 (b + 32)] rfl rfl ?a1 ?a2 ?a3 ?a4 ?a5 ?_))
        all_goals try first | rfl | exact cell_one_new _ _ _ | (intro u hu; simp at hu; subst hu; rfl) | (unfold maxLen; omega) | omega | (simp; omega)
        intro v' w5 hcur' hgrow _
        have hit5 := iter_grown hit1 (Nat.lt_succ_self _) hcur1 hgrow
        have hown5 := (hown1.alloc (Obj.cells #[Value.int IntKind.i32 (b + 32)] 21)).kept hgrow (own_types hown1 hcur1 (by decide))
        have hbel5 : Below w.heap.size w w5 := (hbel1.alloc hbel1.size _).grown hgrow (by simp; omega) (fun g hg => by have := (hcur1.lt g hg).1; omega)
        have hsz5 : w.heap.size + 1 ≤ w5.heap.size := by have := hgrow.size; simp at this; omega
        have HIP5 := Lib.hid (iterPos_of hit5)
        clear hgrow hcur1 hown1 hbel1 hit1
        go_wp2
        go_roundw
        case rel => exact ⟨k + 1, by omega, hit5, by rw [HS.out]; exact hown5, by rw [HS.out, List.map_append, List.length_append]; exact hcur', hbel5, hsz5⟩
        case measure => rw [HIP.out, HIP5.out]; omega
      · by_cases hA : 97 ≤ b ∧ b ≤ 122
        · obtain ⟨c1, c2⟩ := hA
          clear hC
          have HS := Lib.hid (HST.out.trans (wstep_put (done, cur) b b (by exact lowC_small b c1 c2) (by omega)))
          go_wp2_with (first | (go_at_call 54; refine (isSmall_yes _ _ c1 c2).mono ?_; rintro e w' ⟨rfl, rfl⟩) | (at_builtin; refine wpList_append_own _ rfl (.tmp 31) (.tmp 33) 62 rfl (w.heap.size + 1) 21 i1 (.int .i32 0) 1 4 Try.underlying62 hi' hz0' hz1' hz2' rfl (by decide) _ _ _ rfl (hcur1.alloc _) ⟨w1.heap.size, 0, none⟩ 1 1 [.int .i32 b] rfl rfl ?b1 ?b2 ?b3 ?b4 ?b5 ?_))
          all_goals try first | rfl | exact cell_one_new _ _ _ | (intro u hu; simp at hu; subst hu; rfl) | (unfold maxLen; omega) | omega | (simp; omega)
          intro v' w5 hcur' hgrow _
          have hit5 := iter_grown hit1 (Nat.lt_succ_self _) hcur1 hgrow
          have hown5 := (hown1.alloc (Obj.cells #[Value.int IntKind.i32 b] 21)).kept hgrow (own_types hown1 hcur1 (by decide))
          have hbel5 : Below w.heap.size w w5 := (hbel1.alloc hbel1.size _).grown hgrow (by simp; omega) (fun g hg => by have := (hcur1.lt g hg).1; omega)
          have hsz5 : w.heap.size + 1 ≤ w5.heap.size := by have := hgrow.size; simp at this; omega
          have HIP5 := Lib.hid (iterPos_of hit5)
          clear hgrow hcur1 hown1 hbel1 hit1
          go_wp2
          go_roundw
          case rel => exact ⟨k + 1, by omega, hit5, by rw [HS.out]; exact hown5, by rw [HS.out, List.map_append, List.length_append]; exact hcur', hbel5, hsz5⟩
          case measure => rw [HIP.out, HIP5.out]; omega
        · by_cases hD : 48 ≤ b ∧ b ≤ 57
          · obtain ⟨c1, c2⟩ := hD
            clear hA hC
            have HS := Lib.hid (HST.out.trans (wstep_put (done, cur) b b (by exact lowC_dig b c1 c2) (by omega)))
            go_wp2_with (first | (go_at_call 54; refine (isSmall_no _ _ (by omega)).mono ?_; rintro e w' ⟨rfl, rfl⟩) | (go_at_call 70; refine (isDigit_yes _ _ c1 c2).mono ?_; rintro e w' ⟨rfl, rfl⟩) | (at_builtin; refine wpList_append_own _ rfl (.tmp 31) (.tmp 33) 62 rfl (w.heap.size + 1) 21 i1 (.int .i32 0) 1 4 Try.underlying62 hi' hz0' hz1' hz2' rfl (by decide) _ _ _ rfl (hcur1.alloc _) ⟨w1.heap.size, 0, none⟩ 1 1 [.int .i32 b] rfl rfl ?d1 ?d2 ?d3 ?d4 ?d5 ?_))
            all_goals try first | rfl | exact cell_one_new _ _ _ | (intro u hu; simp at hu; subst hu; rfl) | (unfold maxLen; omega) | omega | (simp; omega)
            intro v' w5 hcur' hgrow _
            have hit5 := iter_grown hit1 (Nat.lt_succ_self _) hcur1 hgrow
            have hown5 := (hown1.alloc (Obj.cells #[Value.int IntKind.i32 b] 21)).kept hgrow (own_types hown1 hcur1 (by decide))
            have hbel5 : Below w.heap.size w w5 := (hbel1.alloc hbel1.size _).grown hgrow (by simp; omega) (fun g hg => by have := (hcur1.lt g hg).1; omega)
            have hsz5 : w.heap.size + 1 ≤ w5.heap.size := by have := hgrow.size; simp at this; omega
            have HIP5 := Lib.hid (iterPos_of hit5)
            clear hgrow hcur1 hown1 hbel1 hit1
            go_wp2
            go_roundw
            case rel => exact ⟨k + 1, by omega, hit5, by rw [HS.out]; exact hown5, by rw [HS.out, List.map_append, List.length_append]; exact hcur', hbel5, hsz5⟩
            case measure => rw [HIP.out, HIP5.out]; omega
          · have hlow := lowC_oth b hA hD hC
            have HLW := Lib.hid hlow
            clear hlow
            by_cases hcur : cur = []
            · have HS := Lib.hid (HST.out.trans (wstep_none (done, cur) b HLW.out hcur))
              have HC := Lib.hid hcur
              have hown5 := hown1
              have hit5 := hit1
              have hsz5 := hsz2
              have hbel5 := hbel1
              have hsub := hcur1
              clear hcur1 hown1 hit1 hbel1
              subst hcur
              rcases hsub.2 with ⟨rfl, _⟩ | ⟨g, cap, cur', rfl, hg, hh, hn, hcap, hsz, htake⟩
              · rcases (show decide (65 ≤ b) = false ∨ (decide (65 ≤ b) = true ∧ decide (b ≤ 90) = false) by simp; omega) with hside | ⟨hside, hside2⟩
                all_goals
                  go_wp2_with (first | (go_at_call 54; refine (isSmall_no _ _ (by omega)).mono ?_; rintro e w' ⟨rfl, rfl⟩) | (go_at_call 70; refine (isDigit_no _ _ (by omega)).mono ?_; rintro e w' ⟨rfl, rfl⟩))
                  go_roundw
                  case rel => exact ⟨k + 1, by omega, hit5, by rw [HS.out]; exact hown5, by rw [HS.out]; exact World.ownsRow_nil _ _ _ _, hbel5, hsz5⟩
                  case measure => rw [HIP.out, (iterPos_of hit5)]; omega
              · clear hh hn hsz htake
                rcases (show decide (65 ≤ b) = false ∨ (decide (65 ≤ b) = true ∧ decide (b ≤ 90) = false) by simp; omega) with hside | ⟨hside, hside2⟩
                all_goals
                  go_wp2_with (first | (go_at_call 54; refine (isSmall_no _ _ (by omega)).mono ?_; rintro e w' ⟨rfl, rfl⟩) | (go_at_call 70; refine (isDigit_no _ _ (by omega)).mono ?_; rintro e w' ⟨rfl, rfl⟩))
                  go_roundw
                  case rel => exact ⟨k + 1, by omega, hit5, by rw [HS.out]; exact hown5, by rw [HS.out]; exact own_cut hsub, hbel5, hsz5⟩
                  case measure => rw [HIP.out, (iterPos_of hit5)]; omega
            · have HS := Lib.hid (HST.out.trans (wstep_end (done, cur) b HLW.out hcur))
              have hpos : 0 < cur.length := List.length_pos_iff.2 hcur
              have HR := Lib.hid (runes_ascii cur HB.out)
              rcases hcur1.2 with ⟨rfl, h0⟩ | ⟨g, cap, cur', rfl, hg, hh, hn, hcap, hszc, htake⟩
              · omega
              · have hcv : (convert 62 9 (.slice (some ⟨g, 0, none⟩) cur.length cap)).run Try.prog w1 = .ok (.string (strOfNums cur)) w1 := by
                  rw [run_convert_runes w1 62 9 21 ⟨g, 0, none⟩ cur.length cap cur (Nat.le_refl _) Try.underlying62 Try.underlying21 Try.underlying9 ?_, List.take_length, HR.out]
                  intro j hj
                  refine hcur1.cells (g := g) rfl j _ ?_
                  simp [i32v, List.getD, hj]
                have hgl : g < w1.heap.size := (hcur1.lt g rfl).2
                clear hh hn hszc htake
                rcases (show decide (65 ≤ b) = false ∨ (decide (65 ≤ b) = true ∧ decide (b ≤ 90) = false) by simp; omega) with hside | ⟨hside, hside2⟩
                all_goals
                  go_wp2_with (first | (go_at_call 54; refine (isSmall_no _ _ (by omega)).mono ?_; rintro e w' ⟨rfl, rfl⟩) | (go_at_call 70; refine (isDigit_no _ _ (by omega)).mono ?_; rintro e w' ⟨rfl, rfl⟩) | (at_builtin; refine wpList_append_own _ rfl (.tmp 38) (.tmp 41) 34 rfl (w.heap.size + 1) 9 i0 (.string ByteArray.empty) 1 16 Try.underlying34 hi hz0 hz1 hz2 rfl (by decide) _ _ _ rfl (hown1.alloc _) ⟨w1.heap.size, 0, none⟩ 1 1 [.string (strOfNums cur)] rfl rfl ?_ ?_ ?_ ?_ ?_ ?_))
                  all_goals try first | rfl | exact cell_one_new _ _ _ | (intro u hu; simp at hu; subst hu; rfl) | (unfold maxLen; omega) | omega | (simp; omega)
                  intro v' w5 hown' hgrow _
                  have hit5 := iter_grown hit1 (Nat.lt_succ_self _) hown1 hgrow
                  have hcur5 := (hcur1.alloc (Obj.cells #[Value.string (strOfNums cur)] 9)).kept hgrow (own_types hcur1 hown1 (by decide))
                  have hbel5 : Below w.heap.size w w5 := (hbel1.alloc hbel1.size _).grown hgrow (by simp; omega) (fun g hg => by have := (hown1.lt g hg).1; omega)
                  have hsz5 : w.heap.size + 1 ≤ w5.heap.size := by have := hgrow.size; simp at this; omega
                  have HIP5 := Lib.hid (iterPos_of hit5)
                  clear hgrow hcur1 hown1 hbel1 hit1 hcv
                  go_wp2
                  go_roundw
                  case rel => exact ⟨k + 1, by omega, hit5, by rw [HS.out]; show w5.ownsRow _ _ _ _ (done ++ [cur]).length _; rw [wRow_put, List.length_append]; exact hown', by rw [HS.out]; exact own_cut hcur5, hbel5, hsz5⟩
                  case measure => rw [HIP.out, HIP5.out]; omega
    · have hke : k = s.size + 1 := by have := HBS.out; omega
      subst hke
      have hnx : ∀ ty, (Instr.next (.pointer (some ⟨w.heap.size, 0, none⟩)) true ty).run Try.prog wr = .ok (.tuple #[.bool false]) wr := fun ty => Lib.run_next_end_at wr w.heap.size (blanked s) (s.size + 1) ty hit hlt
      have hown5 : wr.ownsRow w.heap.size 9 1 u4 (wTo s (s.size + 1)).1.length ((wordsL s).map strv) := own_weaken hown (Nat.le_succ _)
      clear hown hcur
      obtain ⟨A2, m2, c2, rfl, hmm⟩ := own_shapeS hown5
      rw [← hmm] at hown5
      go_wp2
      go_ret2
      exact ⟨A2, m2, c2, rfl, hown5, hbel⟩
end Go.Proofs.Ytblkonfphaalhaa
