import Derived.Test.YtmnmmjobplbflaaGreatChecked
import Derived.WalkKit
import Derived.ProofKit
import Derived.OpenShut
import Derived.ShutString
import Derived.ChangeOld
import Derived.Below
import Derived.Lib.Hide
import Derived.Deep.QuietTactic
import Derived.BigQuiet
import Derived.Lib.SmallJoins
import Derived.Test.YtmnmmjobplbflaaGreatZRankD
import Derived.Test.YtmnmmjobplbflaaGreatZRankT
import Derived.Test.YtmnmmjobplbflaaGreatZSpecLv
import Derived.Test.YtmnmmjobplbflaaGreatJm
import Derived.Test.YtmnmmjobplbflaaGreatJh
namespace Go.Proofs.YtmnmmjobplbflaaGreat
open Go.ChangeShapes Go.WideShapes Go.ChangeAt Go.RowKit
open Go.ChangeMaps (open_string shut_string)
set_option linter.unusedVariables false
set_option maxRecDepth 100000
def rkL (ms : List Mb) : List Int := (rankL ms.length ms).map Mb.id
/-- the members by their ranks, and whether the room is one -/
def RankOut (r : Bool) (ms : List Mb) (w : World) (e : Ending) (w' : World) : Prop :=
  ∃ A n c zs, e = .returned (.tuple #[.slice A n c, .bool r]) ∧ zs = (if r = true then rkL ms else []) ∧ w'.ownsRow w.heap.size 2 1 (.slice A n c) n (zs.map i64v) ∧ Below w.heap.size w w'
theorem rkL_len (ms : List Mb) : (rkL ms).length ≤ ms.length := by
  have h : ∀ n (l : List Mb), (rankL n l).length ≤ n := by
    intro n
    induction n with
    | zero => intro l; simp [rankL]
    | succ n ih =>
      intro l
      rw [rankL]
      cases bestM l with
      | none => simp
      | some m => simp; exact ih _
  unfold rkL
  rw [List.length_map]
  exact h _ _
set_option maxHeartbeats 1600000 in
theorem impl_RanksOf_any (o : Bool) (A1 A2 A3 : Option Addr) (n1 c1 n2 c2 n3 c3 : Nat) (ms : List Mb) (vs : List Iv) (bs : List Bn) (w : World)
    (h : RoomAt w w.heap.size A1 n1 A2 n2 A3 n3 ms vs bs) (hn : n1 + n2 + n3 ≤ 1048576) :
    Calls Tryz.prog 7 #[.agg #[.bool o, .slice A1 n1 c1, .slice A2 n2 c2, .slice A3 n3 c3]] w fun e w' => RankOut (roomB ms vs bs) ms w e w' := by
  go_enter Tryz.func7, Tryz.ntmps7
  go_wp2_with fail
  obtain ⟨k0, hb0⟩ := one_box w 35 #[.bool o, .slice A1 n1 c1, .slice A2 n2 c2, .slice A3 n3 c3]
  generalize w.alloc (.cells #[.bool o, .slice A1 n1 c1, .slice A2 n2 c2, .slice A3 n3 c3] 35) = W at *
  have h := (h.below hb0).more hb0.size
  have HL1 := Lib.hid h.1.1
  cases hb : roomB ms vs bs with
  | false =>
    go_at_call 22; refine (impl_ValidRoom_any _ _ _ _ _ _ _ _ _ _ _ _ _ _ h hn).mono ?_; rw [hb]; rintro e w1 ⟨rfl, hb1⟩
    have hb0 := hb0.trans (hb1.mono hb0.size)
    go_wp2
    all_goals exact bodyPost_ret (v := .tuple #[.slice none 0 0, .bool false]) (by simp [results, Tryz.results7, go_sem]) rfl (by rw [hb]; exact ⟨none, 0, 0, [], rfl, by simp, World.ownsRow_nil _ _ _ _, hb0⟩)
  | true =>
    have HV := Lib.hid (roomB_iff.1 hb)
    have HB := Lib.hid hb
    go_at_call 22; refine (impl_ValidRoom_any _ _ _ _ _ _ _ _ _ _ _ _ _ _ h hn).mono ?_; rw [hb]; rintro e w1 ⟨rfl, hb1⟩
    have h1 := (h.to hb1).1
    have k0 := k0.below hb1 k0.lt
    have hb0 := hb0.trans (hb1.mono hb0.size)
    have hW := hb0.size
    clear hb1 h hb
    have l1 := k0.cell 1
    have klt := k0.lt
    go_wp2_with fail
    go_at_call 24; refine (ranked_any _ _ _ _ _ (by omega) h1).mono ?_; rintro e w2 ⟨v, ys, rfl, hp, hs, ho2, hb2⟩
    obtain ⟨A, c, rfl⟩ : ∃ A c, v = .slice A n1 c := by
      rcases ho2.2 with ⟨hv, h0⟩ | ⟨g, cap, cur, hv, _⟩
      · exact ⟨none, 0, by rw [hv, h0]⟩
      · exact ⟨_, _, hv⟩
    have HP := Lib.hid hp
    have HS := Lib.hid hs
    have hb0 := hb0.trans (hb2.mono hW)
    have hr := SRow.of_own_any mbC_len (by omega) ho2
    clear hp hs ho2 hb2 h1
    go_wp2_with fail
    go_at_call 23; refine (idsOfM_any _ _ _ _ _ hr (by omega)).mono ?_; rintro e w3 ⟨g, c', rfl, ho3, hb3⟩
    have HZ := Lib.hid (show mids ys = rkL ms by
      unfold rkL
      have e := HP.out.length_eq
      rw [← e, rankL_sorted ys ms (rise_ne HV.out.r1) HP.out HS.out]
      rfl)
    have hb4 := hb0.trans (hb3.mono hb0.size)
    have ho4 := World.ownsRow.mono ho3 hb0.size
    go_wp2
    refine bodyPost_ret (v := .tuple #[.slice (some ⟨g, 0, none⟩) n1 c', .bool true]) (by simp [results, Tryz.results7, go_sem]) rfl ?_
    rw [HB.out]
    exact ⟨_, _, _, _, rfl, by rw [if_pos rfl], by rw [← HZ.out]; exact ho4, hb4⟩
theorem drop_len1 {ls : List Mb} {m : Mb} (hp : ls.Pairwise fun a b => a.id ≠ b.id) (hm : m ∈ ls) : (dropK Mb.id m.id ls).length + 1 = ls.length := by
  obtain ⟨a, b, e⟩ := List.append_of_mem hm
  have h1 : (m :: (a ++ b)).Perm ls := by rw [e]; exact List.perm_middle.symm
  have h2 := (drop_cons_perm hp h1).length_eq
  have h3 := h1.length_eq
  rw [List.length_cons] at h3
  omega
theorem rankL_step {ls : List Mb} {m : Mb} (hp : ls.Pairwise fun a b => a.id ≠ b.id) (hb : bestM ls = some m) : rankL ls.length ls = m :: rankL (dropK Mb.id m.id ls).length (dropK Mb.id m.id ls) := by
  have hm := (best_spec hp hb).1
  have h := drop_len1 hp hm
  rw [← h, rankL, hb]
def lenOf : Value → Nat
  | .slice _ n _ => n
  | _ => 0
theorem range_dN2 {w : World} {b o q : Nat} {vs : List Value} (h : w.rangeAt b o vs) : (w.drewN q).rangeAt b o vs := h
theorem exN2 {w wr : World} {q m : Nat} (h : wr = w.drewN q) : ∃ q', wr.drewN m = w.drewN q' := by
  subst h; exact ⟨_, World.drewN_drewN ..⟩
theorem rowS_range2 {w : World} {B n g k : Nat} {ls : List Mb} {z : Mb} (h : SRow 4 mbC w B (some ⟨g, 0, none⟩) n ls) (hz : ls[k]? = some z) : w.rangeAt g (k * 4) (mbC z) := by
  have hk : k < n := by rw [← h.1]; exact (List.getElem?_eq_some_iff.1 hz).1
  obtain ⟨b, off, z', ha, _, hz', hc⟩ := h.at_ hk
  injection ha with ha
  injection ha with h1 h2
  subst h1 h2
  rw [hz] at hz'; cases hz'
  rw [Nat.zero_add] at hc
  exact hc
theorem Calls.quiet_atR {P : Program} {f : FuncId} {args : Array Value} {w : World} {n : Nat} {v : Value}
    (h : Calls P f args (w.drewN n) fun e w' => e = .returned v ∧ ∃ q, w' = (w.drewN n).drewN q) : Calls P f args (w.drewN n) fun e w'' => e = .returned v ∧ ∃ m, w'' = w.drewN m :=
  h.mono fun _ _ ⟨he, q, hm⟩ => ⟨he, n + q, by rw [hm, World.drewN_drewN]⟩
theorem cell_newR (w : World) (t : TypeId) (v : Value) : ∀ (j : Nat) (u : Value), [v][j]? = some u → (w.alloc (.cells #[v] t)).cell? ((⟨w.heap.size, 0, none⟩ : Addr).add j) = some u := by
  intro j u hu
  have hj : j = 0 := by have := (List.getElem?_eq_some_iff.1 hu).1; simp at this; omega
  subst hj
  simp at hu; subst hu
  have := (Blk.new w t #[v]).cell 0
  first | exact this | simpa [Addr.add] using this
set_option maxHeartbeats 6400000 in
theorem spec_RanksOf_any (o : Bool) (a1 a2 a3 : Addr) (n1 c1 n2 c2 n3 c3 : Nat) (ms : List Mb) (vs : List Iv) (bs : List Bn) (w : World)
    (h : RoomAt w w.heap.size (some a1) n1 (some a2) n2 (some a3) n3 ms vs bs) (hn : n1 + n2 + n3 ≤ 1048576) :
    Calls Tryz.prog 5 #[.agg #[.bool o, .slice (some a1) n1 c1, .slice (some a2) n2 c2, .slice (some a3) n3 c3]] w fun e w' => RankOut (roomB ms vs bs) ms w e w' := by
  obtain ⟨i1, hi1, hx0, hx1, hx2⟩ := info_parts Tryz.info_Member
  obtain ⟨i0, hi, hz0, hz1, hz2⟩ := info_parts Tryz.info_i64
  go_enter Tryz.func5, Tryz.ntmps5
  go_wp2_with fail
  obtain ⟨k0, hb0⟩ := one_box w 35 #[.bool o, .slice (some a1) n1 c1, .slice (some a2) n2 c2, .slice (some a3) n3 c3]
  generalize w.alloc (.cells #[.bool o, .slice (some a1) n1 c1, .slice (some a2) n2 c2, .slice (some a3) n3 c3] 35) = W at *
  have h := (h.below hb0).more hb0.size
  have HL1 := Lib.hid h.1.1
  have cI := l02Is_any w.heap.size _ _ _ n1 c1 n2 c2 n3 c3 W.heap.size ms vs bs W (k0.cell 1) (k0.cell 2) (k0.cell 3) h hn
  cases hb : roomB ms vs bs with
  | false =>
    rw [hb] at cI
    go_at_call 16; refine cI.mono ?_; rintro e w' ⟨rfl, q, rfl⟩
    have hb0 := hb0.trans (Below.mono (drew_below ⟨q, rfl⟩) hb0.size)
    clear cI
    go_wp2
    all_goals exact bodyPost_ret (v := .tuple #[.slice none 0 0, .bool false]) (by simp [results, Tryz.results5, go_sem]) rfl (by rw [hb]; exact ⟨none, 0, 0, [], rfl, by simp, World.ownsRow_nil _ _ _ _, hb0⟩)
  | true =>
    rw [hb] at cI
    have HV := Lib.hid (roomB_iff.1 hb)
    have HB := Lib.hid hb
    go_at_call 16; refine cI.mono ?_; rintro e w' ⟨rfl, q, rfl⟩
    have k0 : Blk (W.drewN q) w.heap.size 35 #[.bool o, .slice (some a1) n1 c1, .slice (some a2) n2 c2, .slice (some a3) n3 c3] := k0
    have hM : SRow 4 mbC (W.drewN q) (W.drewN q).heap.size (some a1) n1 ms := h.1
    have hb0 := hb0.trans (Below.mono (drew_below ⟨q, rfl⟩) hb0.size)
    clear cI h hb
    generalize W.drewN q = W1 at *
    have hW := hb0.size
    have ho := World.ownsRow_made W1 (base := w.heap.size) (e := 50) (size := 4) #[] 0 hW (by decide) rfl
    have l1 : (W1.alloc (.cells #[] 50)).cell? ⟨w.heap.size, 1, none⟩ = some (.slice (some a1) n1 c1) := (k0.alloc (.cells #[] 50)).cell 1
    have hC := hM.alloc (Nat.le_refl _) (.cells #[] 50)
    have HN1 := Lib.hid (And.intro (flat_cells (f := mbC) mbC_len (by decide) hC) (show (ms.flatMap mbC).length = n1 * 4 by rw [flat_len mbC_len, HL1.out]))
    clear hC hM
    go_wp2_with (at_builtin; refine wpList_append_own _ rfl (.tmp 10) (.tmp 12) 31 rfl w.heap.size 50 i1 (.agg #[.int .i64 0, .int .i64 0, .int .i64 0, .int .i64 0]) 4 32 Tryz.underlying31 hi1 hx0 hx1 hx2 rfl (by decide) (.slice (some ⟨W1.heap.size, 0, none⟩) 0 0) 0 [] rfl ho a1 n1 c1 (ms.flatMap mbC) rfl HN1.out.2 HN1.out.1 (mbC_cells ms) (by unfold maxLen; omega) (by omega) (by simp; omega) ?_; intro v1 w1 ho1 hg1 _; rw [Nat.zero_add, List.nil_append] at ho1; have hbA : Below w.heap.size w w1 := (hb0.alloc hW (.cells #[] 50)).grown hg1 (by simp; omega) (fun g hg => (ho.lt g hg).1); have hown0 := World.ownsRow_made w1 (base := w.heap.size) (e := 2) (size := 1) #[] 0 hbA.size (by decide) rfl; have hbB := hbA.alloc hbA.size (.cells #[] 2); have ho1 := own_below ho1 ((Below.refl w1.heap.size w1).alloc (Nat.le_refl _) (.cells #[] 2)) (Nat.le_refl _); clear hg1 ho hbA l1 k0)
    obtain ⟨B1, d1, rfl⟩ : ∃ A c, v1 = .slice A n1 c := by
      rcases ho1.2 with ⟨hv, h0⟩ | ⟨g, cap, cur, hv, _⟩
      · exact ⟨none, 0, by rw [hv, h0]⟩
      · exact ⟨_, _, hv⟩
    have HR0 := Lib.hid (rise_ne HV.out.r1)
    have hn1 : n1 ≤ 1048576 := by omega
    generalize w1.alloc (.cells #[] 2) = w2 at *
    go_loopw [4, 5] (fun l v wr => ∃ (ls dn : List Mb) (A : Option Addr) (c : Nat) (u : Value), l = .slice A ls.length c ∧ v = u ∧ Hid (dn ++ rankL ls.length ls = rankL ms.length ms) ∧ Hid (ls.Pairwise fun a b => a.id ≠ b.id) ∧ Hid (dn.length + ls.length = n1) ∧ wr.ownsRow w.heap.size 50 4 (.slice A ls.length c) ls.length (ls.flatMap mbC) ∧ wr.ownsRow w.heap.size 2 1 u dn.length ((dn.map Mb.id).map i64v) ∧ Below w.heap.size w wr) (fun l _ _ => lenOf l)
    case atStart => exact ⟨ms, [], B1, d1, _, by rw [HL1.out], rfl, Lib.hid rfl, HR0, Lib.hid (by simpa using HL1.out), by rw [HL1.out]; exact ho1, hown0, hbB⟩
    case round =>
      obtain ⟨ls, dn, A, c, u, rfl, hvu, HT, HP, HN, hrow, hout, hbel⟩ := hrel
      have hvu := hvu.symm
      subst hvu
      clear ho1 hown0 hbB
      have hlen : ls.length ≤ 1048576 := by have := HN.out; omega
      by_cases h0 : ls.length = 0
      · have x1 : decide ((0 : Int) < (ls.length : Int)) = false := decide_eq_false (by omega)
        have x2 : decide (0 < ls.length) = false := decide_eq_false (by omega)
        have HZ := Lib.hid (show dn.map Mb.id = rkL ms by
          have e := HT.out
          rw [h0, rankL, List.append_nil] at e
          rw [e]; rfl)
        have HO := Lib.hid hout
        have hdl : dn.length = n1 := by have := HN.out; omega
        rcases hout.2 with ⟨hv, hv0⟩ | ⟨g', cap', cur', hv, _⟩
        · subst hv
          clear hout hrow
          go_wp2
          refine bodyPost_ret (v := .tuple #[.slice none 0 0, .bool true]) (by simp [results, Tryz.results5, go_sem]) rfl ?_
          rw [HB.out]
          exact ⟨_, _, _, _, rfl, by rw [if_pos rfl], by rw [← HZ.out]; have := HO.out; rwa [hv0] at this, hbel⟩
        · subst hv
          clear hout hrow
          go_wp2
          refine bodyPost_ret (v := .tuple #[.slice (some ⟨g', 0, none⟩) dn.length cap', .bool true]) (by simp [results, Tryz.results5, go_sem]) rfl ?_
          rw [HB.out]
          exact ⟨_, _, _, _, rfl, by rw [if_pos rfl], by rw [← HZ.out]; exact HO.out, hbel⟩
      · have x1 : decide ((0 : Int) < (ls.length : Int)) = true := decide_eq_true (by omega)
        have x2 : decide (0 < ls.length) = true := decide_eq_true (by omega)
        have hlz : 0 < ls.length := by omega
        clear h0
        obtain ⟨g5, rfl, hg5⟩ := own_some hrow hlz
        have HXS := Lib.hid (SRow.of_own mbC_len (by decide) hrow)
        have HROW := Lib.hid hrow
        have HOUT := Lib.hid hout
        have HBEL := Lib.hid hbel
        clear hrow hout hbel
        obtain ⟨W3, hW3⟩ : ∃ x, x = wr := ⟨_, rfl⟩
        subst hW3
        go_wp2
        go_loopw [6, 7] (fun b i wq => ∃ (k j : Nat), b = .int .i64 k ∧ i = .int .i64 j ∧ 1 ≤ j ∧ j ≤ ls.length ∧ Hid (BestAt ls j k) ∧ Hid (∃ q, wq = W3.drewN q)) (fun _ i _ => ls.length - (intOf i).toNat)
        case atStart => exact ⟨0, 1, rfl, rfl, by omega, by omega, Lib.hid (BestAt.one (List.getElem?_eq_getElem hlz)), Lib.hid ⟨0, rfl⟩⟩
        case round =>
          obtain ⟨k, j, rfl, rfl, hj1, hj2, HBK, HW⟩ := hrel
          have hSw : SRow 4 mbC wr W3.heap.size (some ⟨g5, 0, none⟩) ls.length ls := by obtain ⟨q, hq⟩ := HW.out; rw [hq]; exact HXS.out
          by_cases hlt : j < ls.length
          · have hlt' : decide ((j : Int) < (ls.length : Int)) = true := decide_eq_true (by omega)
            obtain ⟨m, hkm, hbm⟩ := HBK.out
            have hkl : k < ls.length := (List.getElem?_eq_some_iff.1 hkm).1
            obtain ⟨z, hz⟩ : ∃ z, ls[j]? = some z := ⟨_, List.getElem?_eq_getElem hlt⟩
            have XZZ := Lib.hid (rowS_range2 hSw hz)
            have XMM := Lib.hid (rowS_range2 hSw hkm)
            have hp1 : (0 : Int) ≤ (j : Int) := by omega
            have hp2 : (j : Int) < (ls.length : Int) := by omega
            have hp3 : (0 : Int) ≤ (k : Int) := by omega
            have hp4 : (k : Int) < (ls.length : Int) := by omega
            cases hr : rankLt z m with
            | true =>
              have HS := Lib.hid (HBK.out.yes hkm hz hr)
              clear hkm hbm hz hSw
              go_wp2
              go_quiet ((go_at_call 17; exact Calls.quiet_atR (l02Before_any g5 (j * 4) g5 (k * 4) z m _ _ (range_dN2 XZZ.out) (range_dN2 XMM.out) hr)))
              go_wp2
              go_roundw
              case rel => exact ⟨j, j + 1, rfl, by go_num, by omega, by omega, HS, Lib.hid (by obtain ⟨q, hq⟩ := HW.out; exact exN2 hq)⟩
              case measure => simp [intOf]; omega
            | false =>
              have HS := Lib.hid (HBK.out.no hkm hz hr)
              clear hkm hbm hz hSw
              go_wp2
              go_quiet ((go_at_call 17; exact Calls.quiet_atR (l02Before_any g5 (j * 4) g5 (k * 4) z m _ _ (range_dN2 XZZ.out) (range_dN2 XMM.out) hr)))
              go_wp2
              go_roundw
              case rel => exact ⟨k, j + 1, rfl, by go_num, by omega, by omega, HS, Lib.hid (by obtain ⟨q, hq⟩ := HW.out; exact exN2 hq)⟩
              case measure => simp [intOf]; omega
          · have hlt' : decide ((j : Int) < (ls.length : Int)) = false := decide_eq_false (by omega)
            obtain ⟨m, hkm, hbm⟩ := HBK.out.full (by omega)
            have hkl : k < ls.length := (List.getElem?_eq_some_iff.1 hkm).1
            have rc : wr.cell? ⟨g5, k * 4, none⟩ = some (.int .i64 m.id) := (rowS_range2 hSw hkm) 0 _ rfl
            have hrowW : wr.ownsRow w.heap.size 50 4 (.slice (some ⟨g5, 0, none⟩) ls.length c) ls.length (ls.flatMap mbC) := own_drew HROW.out HW.out
            have houtW : wr.ownsRow w.heap.size 2 1 u dn.length ((dn.map Mb.id).map i64v) := own_drew HOUT.out HW.out
            have hbelW : Below w.heap.size w wr := by obtain ⟨q, hq⟩ := HW.out; rw [hq]; exact HBEL.out.trans (Below.mono (drew_below ⟨q, rfl⟩) HBEL.out.size)
            have hbs := hbelW.size
            have hp3 : (0 : Int) ≤ (k : Int) := by omega
            have hp4 : (k : Int) < (ls.length : Int) := by omega
            have hdn : dn.length ≤ 1048576 := by have := HN.out; omega
            have HKM := Lib.hid hkm
            have HBM := Lib.hid hbm
            clear hkm hbm hSw
            go_wp2_with (at_builtin; refine wpList_append_own _ rfl _ _ 28 rfl w.heap.size 2 i0 (.int .i64 0) 1 8 Tryz.underlying28 hi hz0 hz1 hz2 rfl (by decide) _ _ _ rfl (houtW.alloc _) ⟨wr.heap.size, 0, none⟩ 1 1 [.int .i64 m.id] rfl rfl (cell_newR _ _ _) (by intro u hu; simp at hu; subst hu; rfl) (by unfold maxLen; omega) (by omega) (by simp; omega) ?_; intro v' w5 hown' hgrow _; have hrow5 := (hrowW.alloc (.cells #[.int .i64 m.id] 2)).kept hgrow (own_types2 hrowW houtW (by decide)); have hbel5 : Below w.heap.size w w5 := (hbelW.alloc hbs (.cells #[.int .i64 m.id] 2)).grown hgrow (by simp; omega) (fun g hg => (houtW.lt g hg).1); have rc5 : w5.cell? ⟨g5, k * 4, none⟩ = some (.int .i64 m.id) := (rowS_range2 (SRow.of_own mbC_len (by decide) hrow5) HKM.out) 0 _ rfl; clear hgrow hrowW houtW hbelW rc)
            go_at_call 18; refine (l02Rest_any _ _ _ _ m.id _ (SRow.of_own_any mbC_len (by omega) hrow5) (by omega)).mono ?_; rintro e w6 ⟨A6, m6, c6, rfl, hm6, ho6, hb6⟩
            subst hm6
            have hown6 := own_below hown' hb6 (Nat.le_refl _)
            have ho7 := World.ownsRow.mono ho6 hbel5.size
            have hbel6 := hbel5.trans (hb6.mono hbel5.size)
            have HLN := Lib.hid (drop_len1 HP.out (best_spec HP.out HBM.out).1)
            clear hown' hb6 ho6 hrow5 hbel5 rc5
            go_wp2
            go_roundw
            case rel => exact ⟨dropK Mb.id m.id ls, dn ++ [m], A6, c6, v', rfl, rfl, Lib.hid (by rw [List.append_assoc, List.singleton_append, ← rankL_step HP.out HBM.out]; exact HT.out), Lib.hid (HP.out.filter _), Lib.hid (by have := HN.out; have := HLN.out; simp; omega), ho7, by simpa [i64v] using hown6, hbel6⟩
            case measure => simp only [lenOf]; have := HLN.out; omega
end Go.Proofs.YtmnmmjobplbflaaGreat
