import Derived.Test.YteeodjbionjlmaaChecked
import Derived.WalkKit
import Derived.ProofKit
import Derived.OpenShut
import Derived.ShutString
import Derived.ChangeOld
import Derived.Below
import Derived.Lib.Hide
import Derived.Shelf.Abstract
import Derived.OwnWalkIn
import Derived.TacticsInMore
import Derived.LoopNIn
import Derived.LoopIn
import Derived.RangeFuncBox
import Derived.RangeFuncNested
import Derived.RangeFuncLeaves
import Derived.RangeFuncBound
import Derived.RangeFuncCalls
import Derived.Maps.AppendAt
import Derived.Lib.OthersKept
import Derived.Test.YteeodjbionjlmaaZRnsC
import Derived.Test.YteeodjbionjlmaaJya
import Derived.Test.YteeodjbionjlmaaJyb
namespace Go.Proofs.Yteeodjbionjlmaa
open Go.ChangeShapes Go.WideShapes Go.ChangeAt Go.RowKit
open Go.ChangeMaps (open_string shut_string)
set_option linter.unusedVariables false
set_option maxRecDepth 100000
attribute [local go_sem] Oper.semAt_some
abbrev encR (x : Nat × List Int) : Array Value := #[.int .i64 x.1, .string (strOfNums x.2)]
abbrev TR : TypeId := 21
def TK : TypeId → Bool := fun e => e == 21 || e == 126
theorem rl_iterAt {t : TypeId} {B0 B pos : Nat} {s : ByteArray} {X : World} (h : X.heap[B]? = some (.stringIter s pos)) (hB : B0 ≤ B) (pos' : Nat) : Rl t B0 X (X.iterAt B s pos') :=
  ⟨rfl, rfl, rfl, by rw [Lib.iterAt_size]; exact Nat.le_refl _, fun k o hk hb => by
    refine (Lib.iterAt_other X B k s pos' (fun e => ?_)).trans hk
    subst e
    rw [h] at hk; cases hk
    rcases hb with hb | hb
    · omega
    · cases hb⟩
/-- one step of a range over a text, in an iterator -/
theorem next_packR (wr : World) (B0 B : Nat) (s : ByteArray) (k : Nat) (hk : wr.heap[B]? = some (.stringIter s k)) (h : k < s.size) (ha : s[k].toNat < 128) (hB : B0 ≤ B) :
    ∃ w1, (∀ ty, (Instr.next (.pointer (some ⟨B, 0, none⟩)) true ty).run Try.prog wr = .ok (.tuple #[.bool true, .int .i64 k, .int .i32 s[k].toNat]) w1) ∧ w1.heap[B]? = some (.stringIter s (k + 1)) ∧
      (∀ base e size v n xs, B < base → wr.ownsRow base e size v n xs → w1.ownsRow base e size v n xs) ∧ w1.heap.size = wr.heap.size ∧ Rl TR B0 wr w1 :=
  ⟨_, fun ty => Lib.run_next_ascii_at wr B s k ty hk h ha, Lib.iterAt_heap wr B s k (k + 1) hk, fun _ _ _ _ _ _ hlt ho => ownsRow_iterAt ho hlt s (k + 1), Lib.iterAt_size _ _ _ _, rl_iterAt hk hB (k + 1)⟩
/-- the row of runes grows -/
theorem rl_runes {B0 B base n size : Nat} {v : Value} {xs : List Value} {o : Obj} {X Y : World} (hv : X.ownsRow base TR size v n xs) (hb : B0 ≤ base) (hg : (X.alloc o).grownBy Y v.ownBlock) : Rl TR B0 X Y := by
  refine ((Rl.refl TR B0 X).alloc o).trans (.of_grown hg (fun r er => ?_))
  have hl := hv.lt r er
  refine ⟨by omega, fun o2 h2 => ?_⟩
  rcases hv.2 with ⟨rfl, _⟩ | ⟨g, cap, cur, rfl, hbg, hh, -⟩
  · cases er
  · cases er
    rw [Below.heap_alloc _ _ _ hl.2, hh] at h2
    cases h2
    simp [loose]
theorem blanked_atR (s : ByteArray) (k : Nat) (h : k < (blanked s).size) (ht : textB s = true) : ∃ b : Int, ((blanked s)[k].toNat : Int) = b ∧ 32 ≤ b ∧ b ≤ 126 ∧ rTo s (k + 1) = rstep k (rTo s k) b := by
  have hk' := h
  rw [blanked_size] at h
  obtain ⟨b, hb, h0, h1, -⟩ := blanked_at s k hk' ht
  refine ⟨b, hb, h0, h1, ?_⟩
  by_cases hk : k < s.size
  · have e : (blanked s)[k] = s[k] := by simp [blanked, ByteArray.getElem_append_left hk]
    show rstep k (rTo s k) (byteAt s k) = _
    rw [byteAt_eq s k hk, ← hb, e]
  · have hk2 : k = s.size := by omega
    subst hk2
    have e : (blanked s)[s.size] = (32 : UInt8) := by
      simp only [blanked]
      rw [ByteArray.getElem_append_right (Nat.le_refl _)]
      simp
      rfl
    have hb2 : b = 32 := by rw [← hb, e]; rfl
    subst hb2
    show rstep s.size (rTo s s.size) (byteAt s s.size) = _
    rw [byteAt_out]
    simp [rstep, lowC]
theorem rTo_prefix (s : ByteArray) (k d : Nat) : (rTo s k).1 <+: (rTo s (k + d)).1 := by
  induction d with
  | zero => exact List.prefix_refl _
  | succ d ih =>
    refine ih.trans ?_
    show (rTo s (k + d)).1 <+: (rstep (k + d) (rTo s (k + d)) (byteAt s (k + d))).1
    unfold rstep
    split
    · exact List.prefix_refl _
    · split
      · exact List.prefix_refl _
      · exact List.prefix_append _ _
set_option maxHeartbeats 3200000 in
theorem runs1_in (n l Bt : Nat) (hn : 1 ≤ n) (s : ByteArray) (ht : textB s = true) (J Jx : List (Nat × List Int) → World → Prop)
    (hY : ∀ pre x W1, J pre W1 → pre.length < s.size + 1 → pre ++ [x] <+: runsL s → YieldAt Fence.wide (n - 1) Try.prog l (encR x) W1 fun e W' => KeepsFrom (l + 1) W1 W' ∧
      ((e = .returned (.bool true) ∧ J (pre ++ [x]) W' ∧ Kt TK W1 W') ∨ (e = .returned (.bool false) ∧ Jx (pre ++ [x]) W')))
    (W : World) (hJ : RlFrom TR W.heap.size J) (hc : W.cell? ⟨Bt, 0, none⟩ = some (.string s)) (h0 : J [] W) :
    CallsIn Fence.wide n Try.prog 118 #[.func (.yield l) #[] #[], .pointer (some ⟨Bt, 0, none⟩)] W fun e W' => (∃ v, e = .returned v) ∧
      ((∃ ys, ys = runsL s ∧ J ys W') ∨ (∃ pre, pre <+: runsL s ∧ Jx pre W')) := by
  have HT := Lib.hid ht
  have hsz := textB_size ht
  clear ht
  obtain ⟨i1, hi', hz0', hz1', hz2'⟩ := info_parts Try.info_i32
  have hsum : s.size + (⟨#[32]⟩ : ByteArray).size ≤ 9223372036854775807 := by show s.size + 1 ≤ _; omega
  have HBS := Lib.hid (blanked_size s)
  have hF1 : Fence.wide.fn 119 := trivial
  have hF2 : Fence.wide.fn 120 := trivial
  have hF0 : ∀ f : FuncId, none = some f → Fence.wide.fn f := fun _ h => by cases h
  refine callsIn_of_wp Try.func118 rfl trivial ?_ rfl
  simp only [Try.ntmps118, List.size_toArray, List.length_cons, List.length_nil, Nat.reduceAdd, Nat.reduceSub, Array.replicate_succ, Array.replicate_zero, List.push_toArray, List.append_toArray, List.nil_append, List.cons_append]
  gi_wp2
  gi_loopw [3] (fun u wr => ∃ k : Nat, k ≤ s.size + 1 ∧ wr.heap[W.heap.size]? = some (.stringIter (blanked s) k) ∧ wr.ownsRow (W.heap.size + 1) 21 1 u (rTo s k).2.length ((rTo s k).2.map i32v) ∧ J (rTo s k).1 wr ∧ W.heap.size + 1 ≤ wr.heap.size) (fun _ wr => s.size + 1 - wr.iterPos W.heap.size)
  case atStart =>
    refine ⟨0, by omega, ?_, World.ownsRow_nil _ _ _ _, ?_, ?_⟩
    · exact World.iter_heap _ _ _
    · exact hJ _ _ _ h0 ((Rl.refl _ _ _).alloc _)
    · simp [World.iter]
  case round =>
    obtain ⟨k, hk, hit, hcur, hJ0, hsz1⟩ := hrel
    have HIP := Lib.hid (iterPos_of hit)
    by_cases hlt : k < (blanked s).size
    · obtain ⟨b, hb, hb0, hb1, hst⟩ := blanked_atR s k hlt HT.out
      obtain ⟨w1, hnx, hit1, hkeep, hsize, hrl⟩ := next_packR wr W.heap.size W.heap.size (blanked s) k hit hlt (by omega) (Nat.le_refl _)
      rw [hb] at hnx
      have hcur1 := hkeep _ _ _ _ _ _ (by omega) hcur
      have hJ1 := hJ _ _ _ hJ0 hrl
      have hk2 : k < s.size + 1 := by have := HBS.out; omega
      have hbd := rTo_bd s k
      have HB := Lib.hid (rTo_byte s k)
      have HST := Lib.hid hst
      have HPX := Lib.hid (show (rTo s (k + 1)).1 <+: runsL s by have := rTo_prefix s (k + 1) (s.size - k); rwa [show k + 1 + (s.size - k) = s.size + 1 by omega] at this)
      have hsz2 : W.heap.size + 1 ≤ w1.heap.size := by omega
      clear hst hb hlt hcur hkeep hrl hsize hJ0
      generalize hws : rTo s k = st at *
      clear hws
      obtain ⟨done, cur⟩ := st
      simp only at hbd hcur1 HB hJ1
      by_cases hC : 65 ≤ b ∧ b ≤ 90
      · obtain ⟨c1, c2⟩ := hC
        have HS := Lib.hid (HST.out.trans (rstep_put k (done, cur) b (b + 32) (by rw [lowC_cap b c1 c2]; omega) (by omega)))
        gi_wp2_with (first | (gi_at_builtin; refine wpListIn_append_own _ rfl (.tmp 27) (.tmp 29) 127 rfl (W.heap.size + 1) 21 i1 (.int .i32 0) 1 4 Try.underlying127 hi' hz0' hz1' hz2' rfl (by decide) _ _ _ rfl (hcur1.alloc _) ⟨w1.heap.size, 0, none⟩ 1 1 [.int .i32 (b + 32)] rfl rfl ?a1 ?a2 ?a3 ?a4 ?a5 ?_))
        all_goals try first | rfl | exact cell_one_new _ _ _ | (intro u hu; simp at hu; subst hu; rfl) | (unfold maxLen; omega) | omega | (simp; omega)
        intro v' w5 hcur' hgrow _
        have hit5 := iter_grown hit1 (Nat.lt_succ_self _) hcur1 hgrow
        have hJ5 := hJ _ _ _ hJ1 (rl_runes (B := 0) hcur1 (Nat.le_succ _) hgrow)
        have hsz5 : W.heap.size + 1 ≤ w5.heap.size := by have := hgrow.size; simp at this; omega
        have HIP5 := Lib.hid (iterPos_of hit5)
        clear hgrow hcur1 hJ1 hit1
        gi_wp2
        go_roundw
        case rel => exact ⟨k + 1, by omega, hit5, by rw [HS.out, List.map_append, List.length_append]; exact hcur', by rw [HS.out]; exact hJ5, hsz5⟩
        case measure => rw [HIP.out, HIP5.out]; omega
      · by_cases hA : 97 ≤ b ∧ b ≤ 122
        · obtain ⟨c1, c2⟩ := hA
          clear hC
          have HS := Lib.hid (HST.out.trans (rstep_put k (done, cur) b b (by exact lowC_small b c1 c2) (by omega)))
          gi_wp2_with (first | (gi_at_call 119; refine (callsIn_wide.2 (isSmall_yes _ _ c1 c2)).mono ?_; rintro e w' ⟨rfl, rfl⟩) | (gi_at_builtin; refine wpListIn_append_own _ rfl (.tmp 27) (.tmp 29) 127 rfl (W.heap.size + 1) 21 i1 (.int .i32 0) 1 4 Try.underlying127 hi' hz0' hz1' hz2' rfl (by decide) _ _ _ rfl (hcur1.alloc _) ⟨w1.heap.size, 0, none⟩ 1 1 [.int .i32 (b)] rfl rfl ?b1 ?b2 ?b3 ?b4 ?b5 ?_))
          all_goals try first | rfl | exact cell_one_new _ _ _ | (intro u hu; simp at hu; subst hu; rfl) | (unfold maxLen; omega) | omega | (simp; omega)
          intro v' w5 hcur' hgrow _
          have hit5 := iter_grown hit1 (Nat.lt_succ_self _) hcur1 hgrow
          have hJ5 := hJ _ _ _ hJ1 (rl_runes (B := 0) hcur1 (Nat.le_succ _) hgrow)
          have hsz5 : W.heap.size + 1 ≤ w5.heap.size := by have := hgrow.size; simp at this; omega
          have HIP5 := Lib.hid (iterPos_of hit5)
          clear hgrow hcur1 hJ1 hit1
          gi_wp2
          go_roundw
          case rel => exact ⟨k + 1, by omega, hit5, by rw [HS.out, List.map_append, List.length_append]; exact hcur', by rw [HS.out]; exact hJ5, hsz5⟩
          case measure => rw [HIP.out, HIP5.out]; omega
        · by_cases hD : 48 ≤ b ∧ b ≤ 57
          · obtain ⟨c1, c2⟩ := hD
            clear hA hC
            have HS := Lib.hid (HST.out.trans (rstep_put k (done, cur) b b (by exact lowC_dig b c1 c2) (by omega)))
            gi_wp2_with (first | (gi_at_call 119; refine (callsIn_wide.2 (isSmall_no _ _ (by omega))).mono ?_; rintro e w' ⟨rfl, rfl⟩) | (gi_at_call 120; refine (callsIn_wide.2 (isDigit_yes _ _ c1 c2)).mono ?_; rintro e w' ⟨rfl, rfl⟩) | (gi_at_builtin; refine wpListIn_append_own _ rfl (.tmp 27) (.tmp 29) 127 rfl (W.heap.size + 1) 21 i1 (.int .i32 0) 1 4 Try.underlying127 hi' hz0' hz1' hz2' rfl (by decide) _ _ _ rfl (hcur1.alloc _) ⟨w1.heap.size, 0, none⟩ 1 1 [.int .i32 (b)] rfl rfl ?d1 ?d2 ?d3 ?d4 ?d5 ?_))
            all_goals try first | rfl | exact cell_one_new _ _ _ | (intro u hu; simp at hu; subst hu; rfl) | (unfold maxLen; omega) | omega | (simp; omega)
            intro v' w5 hcur' hgrow _
            have hit5 := iter_grown hit1 (Nat.lt_succ_self _) hcur1 hgrow
            have hJ5 := hJ _ _ _ hJ1 (rl_runes (B := 0) hcur1 (Nat.le_succ _) hgrow)
            have hsz5 : W.heap.size + 1 ≤ w5.heap.size := by have := hgrow.size; simp at this; omega
            have HIP5 := Lib.hid (iterPos_of hit5)
            clear hgrow hcur1 hJ1 hit1
            gi_wp2
            go_roundw
            case rel => exact ⟨k + 1, by omega, hit5, by rw [HS.out, List.map_append, List.length_append]; exact hcur', by rw [HS.out]; exact hJ5, hsz5⟩
            case measure => rw [HIP.out, HIP5.out]; omega
          · have hlow := lowC_oth b hA hD hC
            have HLW := Lib.hid hlow
            clear hlow
            by_cases hcur : cur = []
            · have HS := Lib.hid (HST.out.trans (rstep_none k (done, cur) b HLW.out hcur))
              have hit5 := hit1
              have hsz5 := hsz2
              have hJ5 := hJ1
              have hsub := hcur1
              clear hcur1 hJ1 hit1
              subst hcur
              rcases hsub.2 with ⟨rfl, _⟩ | ⟨g, cap, cur', rfl, hg, hh, hn, hcap, hszc, htake⟩
              · rcases (show decide (65 ≤ b) = false ∨ (decide (65 ≤ b) = true ∧ decide (b ≤ 90) = false) by simp; omega) with hside | ⟨hside, hside2⟩
                all_goals
                  gi_wp2_with (first | (gi_at_call 119; refine (callsIn_wide.2 (isSmall_no _ _ (by omega))).mono ?_; rintro e w' ⟨rfl, rfl⟩) | (gi_at_call 120; refine (callsIn_wide.2 (isDigit_no _ _ (by omega))).mono ?_; rintro e w' ⟨rfl, rfl⟩))
                  refine ⟨hF0, ?_⟩
                  gi_wp2
                  go_roundw
                  case rel => exact ⟨k + 1, by omega, hit5, by rw [HS.out]; exact World.ownsRow_nil _ _ _ _, by rw [HS.out]; exact hJ5, hsz5⟩
                  case measure => rw [HIP.out, (iterPos_of hit5)]; omega
              · clear hh hn hszc htake
                rcases (show decide (65 ≤ b) = false ∨ (decide (65 ≤ b) = true ∧ decide (b ≤ 90) = false) by simp; omega) with hside | ⟨hside, hside2⟩
                all_goals
                  gi_wp2_with (first | (gi_at_call 119; refine (callsIn_wide.2 (isSmall_no _ _ (by omega))).mono ?_; rintro e w' ⟨rfl, rfl⟩) | (gi_at_call 120; refine (callsIn_wide.2 (isDigit_no _ _ (by omega))).mono ?_; rintro e w' ⟨rfl, rfl⟩))
                  refine ⟨hF0, ?_⟩
                  gi_wp2
                  go_roundw
                  case rel => exact ⟨k + 1, by omega, hit5, by rw [HS.out]; exact own_cut hsub, by rw [HS.out]; exact hJ5, hsz5⟩
                  case measure => rw [HIP.out, (iterPos_of hit5)]; omega
            · have HS := Lib.hid (HST.out.trans (rstep_end k (done, cur) b HLW.out hcur))
              have hpos : 0 < cur.length := List.length_pos_iff.2 hcur
              have HR := Lib.hid (runes_ascii cur HB.out)
              rcases hcur1.2 with ⟨rfl, h0⟩ | ⟨g, cap, cur', rfl, hg, hh, hn, hcap, hszc, htake⟩
              · omega
              · have hcv : (convert 127 9 (.slice (some ⟨g, 0, none⟩) cur.length cap)).run Try.prog w1 = .ok (.string (strOfNums cur)) w1 := by
                  rw [run_convert_runes w1 127 9 21 ⟨g, 0, none⟩ cur.length cap cur (Nat.le_refl _) Try.underlying127 Try.underlying21 Try.underlying9 ?_, List.take_length, HR.out]
                  intro j hj
                  refine hcur1.cells (g := g) rfl j _ ?_
                  simp [i32v, List.getD, hj]
                have hgl : g < w1.heap.size := (hcur1.lt g rfl).2
                clear hh hn hszc htake
                have hkc : cur.length ≤ k := hbd.2
                obtain ⟨fn, tmps, assign, body, hy, hRd⟩ := hY _ (k - cur.length, cur) _ hJ1 (by omega) (by have := HPX.out; rwa [HS.out] at this)
                have hcast : ((k - cur.length : Nat) : Int) = (k : Int) - (cur.length : Int) := by omega
                have hy2 : (Instr.yield l #[.int .i64 ((k : Int) - (cur.length : Int)), .string (strOfNums cur)]).run Try.prog w1 = .ok (.round l fn tmps assign body) w1 := by rw [← hcast]; exact hy
                have hwr : IntKind.i64.wrap ((k : Int) - (cur.length : Int)) = (k : Int) - (cur.length : Int) := IntWalk.i64_in _ (by omega)
                clear hy hcast
                rcases (show decide (65 ≤ b) = false ∨ (decide (65 ≤ b) = true ∧ decide (b ≤ 90) = false) by simp; omega) with hside | ⟨hside, hside2⟩
                all_goals
                  gi_wp2_with (first | (gi_at_call 119; refine (callsIn_wide.2 (isSmall_no _ _ (by omega))).mono ?_; rintro e w' ⟨rfl, rfl⟩) | (gi_at_call 120; refine (callsIn_wide.2 (isDigit_no _ _ (by omega))).mono ?_; rintro e w' ⟨rfl, rfl⟩))
                  refine hRd.mono ?_
                  rintro e W3 ⟨-, ⟨rfl, hJ3, hk3⟩ | ⟨rfl, hJx3⟩⟩
                  · have hit3 := hk3.same _ _ hit1 rfl
                    have hcur3 := hk3.own hcur1 (by rfl)
                    have hsz3 : W.heap.size + 1 ≤ W3.heap.size := Nat.le_trans hsz2 hk3.size
                    clear hit1 hcur1 hk3 hJ1 hcv
                    gi_wp2
                    go_roundw
                    case rel => exact ⟨k + 1, by omega, hit3, by rw [HS.out]; exact own_cut hcur3, by rw [HS.out]; exact hJ3, hsz3⟩
                    case measure => rw [HIP.out, (iterPos_of hit3)]; omega
                  · gi_wp2
                    refine bodyPost_ret (results_none rfl _ _ _) rfl ?_
                    exact ⟨⟨_, rfl⟩, .inr ⟨_, by have := HPX.out; rwa [HS.out] at this, hJx3⟩⟩
    · have hke : k = s.size + 1 := by have := HBS.out; omega
      subst hke
      have hnx : ∀ ty, (Instr.next (.pointer (some ⟨W.heap.size, 0, none⟩)) true ty).run Try.prog wr = .ok (.tuple #[.bool false]) wr := fun ty => Lib.run_next_end_at wr W.heap.size (blanked s) (s.size + 1) ty hit hlt
      clear hcur
      gi_wp2
      go_end0
      exact ⟨⟨_, rfl⟩, .inl ⟨_, rfl, hJ0⟩⟩
theorem runs_seq (n Bt : Nat) (hn : 1 ≤ n) (s : ByteArray) (ht : textB s = true) (w : World) (hc : w.cell? ⟨Bt, 0, none⟩ = some (.string s)) (hlt : Bt < w.heap.size) :
    SeqR TR Fence.wide n Try.prog 118 #[.pointer (some ⟨Bt, 0, none⟩)] encR (Kt TK) (fun ys => ys = runsL s) (fun pre => pre <+: runsL s) (s.size + 1) w := fun l J Jx W hW _ hJ _ hY h0 =>
  runs1_in n l Bt hn s ht J Jx hY W hJ ((hW.cell (p := ⟨Bt, 0, none⟩) hlt).trans hc) h0
theorem runsOf_in (n : Nat) (s : ByteArray) (w : World) :
    CallsIn Fence.wide n Try.prog 63 #[.string s] w fun e w' => e = .returned (.func (.func 118) #[] #[.pointer (some ⟨w.heap.size, 0, none⟩)]) ∧ w' = w.alloc (.cells #[.string s] 9) := by
  refine callsIn_of_wp Try.func63 rfl trivial ?_ rfl
  simp only [Try.ntmps63, List.size_toArray, List.length_cons, List.length_nil, Nat.reduceAdd, Nat.reduceSub, Array.replicate_succ, Array.replicate_zero, List.push_toArray, List.append_toArray, List.nil_append, List.cons_append]
  gi_wp2
  go_ret
  exact ⟨rfl, rfl⟩
end Go.Proofs.Yteeodjbionjlmaa
