import Derived.Test.YteeodjbionjlmaaChecked
import Derived.WalkKit
import Derived.ProofKit
import Derived.OpenShut
import Derived.ShutString
import Derived.ChangeOld
import Derived.Below
import Derived.Lib.Hide
import Derived.Shelf.Abstract
import Derived.OwnWalkIn
import Derived.TacticsInMore
import Derived.LoopNIn
import Derived.LoopIn
import Derived.RangeFuncBox
import Derived.RangeFuncNested
import Derived.RangeFuncLeaves
import Derived.RangeFuncBound
import Derived.RangeFuncCalls
import Derived.Maps.AppendAt
import Derived.Test.YteeodjbionjlmaaZRnsI
import Derived.Test.YteeodjbionjlmaaZFndS
namespace Go.Proofs.Yteeodjbionjlmaa
open Go.ChangeShapes Go.WideShapes Go.ChangeAt Go.RowKit
open Go.ChangeMaps (open_string shut_string)
set_option linter.unusedVariables false
set_option maxRecDepth 100000
attribute [local go_sem] Oper.semAt_some
set_option maxHeartbeats 800000 in
theorem indexS_any (A : Option Addr) (n c B : Nat) (xs : List ByteArray) (z : ByteArray) (w : World) (h : Row strv w B A n xs) (hn : n ≤ 1048576) :
    Calls Try.prog 163 #[.slice A n c, .string z] w fun e w' => ∃ r : Int, e = .returned (.int .i64 r) ∧ decide (0 ≤ r) = hasS xs z ∧ w = w' := by
  have HL := Lib.hid h.1
  go_enter Try.func163, Try.ntmps163
  go_wp2
  go_loopw [8] (fun i wr => ∃ k : Nat, k ≤ n ∧ i = .int .i64 k ∧ Hid (z ∉ xs.take k) ∧ wr = w) (fun i _ => n - (intOf i).toNat)
  case atStart => exact ⟨0, by omega, rfl, Lib.hid (by simp), rfl⟩
  case round =>
    obtain ⟨k, hk, rfl, HN, rfl⟩ := hrel
    by_cases hlt : k < n
    · obtain ⟨b, off, y, rfl, hb, hz, c0⟩ := h.at_ hlt
      have HZ := Lib.hid hz
      clear hz
      by_cases hy : z = y
      · subst hy
        have heq := toList_same z
        go_wp2
        go_ret
        exact ⟨_, rfl, by rw [hasS_yes (List.mem_of_getElem? HZ.out)]; exact decide_eq_true (by omega), rfl⟩
      · have HY := Lib.hid hy
        have hne := toList_ne hy
        clear hy
        go_wp2
        go_roundw
        case rel => exact ⟨k + 1, by omega, by go_num, Lib.hid (by rw [List.take_add_one, HZ.out]; intro hm; rcases List.mem_append.1 hm with hm | hm; exact HN.out hm; simp at hm; exact HY.out hm), by first | rfl | trivial⟩
        case measure => simp [intOf]; omega
    · have hke : k = n := by omega
      have HF := Lib.hid (show hasS xs z = false from hasS_no (by have := HN.out; rwa [hke, ← HL.out, List.take_length] at this))
      clear hke
      go_wp2
      go_ret
      exact ⟨_, rfl, by rw [HF.out]; rfl, rfl⟩
theorem containsS_any (A : Option Addr) (n c B : Nat) (xs : List ByteArray) (z : ByteArray) (w : World) (h : Row strv w B A n xs) (hn : n ≤ 1048576) :
    Calls Try.prog 133 #[.slice A n c, .string z] w fun e w' => e = .returned (.bool (hasS xs z)) ∧ w = w' := by
  go_enter Try.func133, Try.ntmps133
  go_wp2_with (go_at_call 163; refine (indexS_any A n c B xs z _ h hn).mono ?_; rintro e w' ⟨r, rfl, hr, rfl⟩)
  go_ret
  exact ⟨rfl, rfl⟩
/-- what a body that ranges over the hits leaves as it lay -/
structure KH (n0 Bw : Nat) (X Y : World) : Prop where
  kt : Kt TK X Y
  below : Below n0 X Y
  box : ∀ v, Boxed X Bw 22 v → Boxed Y Bw 22 v
theorem KH.trans {n0 Bw : Nat} {X Y Z : World} (h : KH n0 Bw X Y) (k : KH n0 Bw Y Z) : KH n0 Bw X Z := ⟨h.kt.trans k.kt, h.below.trans k.below, fun v hv => k.box v (h.box v hv)⟩
theorem KH.loop {n0 Bw : Nat} (W : World) (l : Nat) (r r' : Loop) (hl : n0 ≤ l) (h : W.heap[l]? = some (.loop r)) : KH n0 Bw W (W.putObj l (.loop r')) :=
  ⟨Kt.loop W l r r' h, (Below.refl n0 W).grown (grownBy_putObj' W l _) (by have := (Array.getElem?_eq_some_iff.1 h).1; omega) (fun k e => by cases e; omega), fun v hv => hv.kept (grownBy_putObj' W l _) (fun e => by
    cases e
    rw [show W.heap[Bw]? = _ from hv] at h; cases h)⟩
def hitsL (xs : List ByteArray) (s : ByteArray) : List (Nat × List Int) := (runsL s).filter (hitR xs)
theorem roundIn_wide {m m' l l2 : Nat} {P : Program} {f : FuncId} {tmps : Array Value} {assign body : Code} {w : World} {R : Ending → World → Prop} (h : RoundIn Fence.wide m P l f tmps assign body w R) : RoundIn (Fence.wide.inRound l2) m' P l f tmps assign body w R :=
  ⟨trivial, fun c cs _ => h.2 c cs (room_wide _)⟩
theorem filter_snoc_yes {β : Type} {p : β → Bool} {l : List β} {x : β} (h : p x = true) : (l ++ [x]).filter p = l.filter p ++ [x] := by
  rw [List.filter_append, List.filter_cons_of_pos h]; rfl
theorem filter_snoc_no {β : Type} {p : β → Bool} {l : List β} {x : β} (h : p x = false) : (l ++ [x]).filter p = l.filter p := by
  rw [List.filter_append, List.filter_cons_of_neg (by rw [h]; simp)]; simp
set_option maxHeartbeats 3200000 in
theorem hits_seq (m n0 Bt Bw : Nat) (A : Option Addr) (n c : Nat) (xs : List ByteArray) (s : ByteArray) (ht : textB s = true) (w : World) (hn0 : n0 ≤ w.heap.size)
    (hc : w.cell? ⟨Bt, 0, none⟩ = some (.string s)) (hlt : Bt < w.heap.size) (hw : Boxed w Bw 22 (.slice A n c)) (hr : Row strv w n0 A n xs) (hn : n ≤ 1048576) :
    SeqR TR Fence.wide m Try.prog 132 #[.pointer (some ⟨Bt, 0, none⟩), .pointer (some ⟨Bw, 0, none⟩)] encR (KH n0 Bw) (fun ys => ys = hitsL xs s) (fun pre => pre <+: hitsL xs s) (s.size + 1) w := by
  intro l J Jx W hW hl hJ hJx hY h0
  have HT := Lib.hid ht
  have hsz := textB_size ht
  clear ht
  have hcW := (hW.cell (p := ⟨Bt, 0, none⟩) hlt).trans hc
  have hwW : Boxed W Bw 22 (.slice A n c) := (hW.block Bw hw.lt).trans hw
  have hb0 : Below n0 w W := hW.mono hn0
  have hbw := hw.lt
  have hsW := hW.size
  clear hc hw
  have hBt : Bt < W.heap.size := by omega
  have hBw : Bw < W.heap.size := by omega
  have bY := Boxed.new W 126 (.func (.yield l) #[] #[])
  have hcA : (W.alloc (.cells #[.func (.yield l) #[] #[]] 126)).cell? ⟨Bt, 0, none⟩ = some (.string s) := (((Below.refl _ W).alloc (Nat.le_refl _) _).cell (p := ⟨Bt, 0, none⟩) hBt).trans hcW
  have bW := hwW.alloc (.cells #[.func (.yield l) #[] #[]] 126)
  have hszA : (W.alloc (.cells #[.func (.yield l) #[] #[]] 126)).heap.size = W.heap.size + 1 := by simp
  have hJA := hJ _ _ _ h0 ((Rl.refl TR _ W).alloc (.cells #[.func (.yield l) #[] #[]] 126))
  have hbA : Below n0 w (W.alloc (.cells #[.func (.yield l) #[] #[]] 126)) := hb0.alloc (Nat.le_trans hn0 hsW) _
  have hF1 : Fence.wide.fn 63 := trivial
  refine (callsIn_wide (n := m)).2 ((callsIn_wide (n := 9)).1 ?_)
  refine callsIn_of_wp_marks Try.func132 rfl trivial ?_ rfl
  simp only [Try.ntmps132, List.size_toArray, List.length_cons, List.length_nil, Nat.reduceAdd, Nat.reduceSub, Array.replicate_succ, Array.replicate_zero, List.push_toArray, List.append_toArray, List.nil_append, List.cons_append]
  gi_wp2
  generalize W.alloc (.cells #[.func (.yield l) #[] #[]] 126) = V at *
  gi_wp2_with (gi_at_call 63; refine (runsOf_in _ s _).mono ?_; rintro e w' ⟨rfl, rfl⟩)
  have bY := bY.alloc (.cells #[.string s] 9)
  have bW := bW.alloc (.cells #[.string s] 9)
  have hcB := (Boxed.new V 9 (.string s)).cell
  have hJB := hJ _ _ _ hJA ((Rl.refl TR _ V).alloc (.cells #[.string s] 9))
  have hbB : Below n0 w (V.alloc (.cells #[.string s] 9)) := hbA.alloc (by omega) _
  have hszB : (V.alloc (.cells #[.string s] 9)).heap.size = W.heap.size + 2 := by simp [hszA]
  rw [hszA] at hcB
  clear hJA hbA h0
  clear hwW hcW hb0 hcA
  have hHR := Lib.hid hr
  generalize V.alloc (.cells #[.string s] 9) = U at *
  clear hr
  refine wpIn_rangeR (t := TR) rfl (by omega) (gf := 118) (lb := #[.pointer (some ⟨W.heap.size + 1, 0, none⟩)]) rfl trivial (enters_of Try.func118 (by kernel_rfl) rfl)
    (runs_seq _ (W.heap.size + 1) (by omega) s HT.out U hcB (by omega)) Kt.trans (fun W l r r' _ h => Kt.loop W l r r' h) (Below.refl _ _) (fun _ => rfl)
    (fun pre X => (J (pre.filter (hitR xs)) X ∧ Below n0 w X) ∧ Boxed X W.heap.size 126 (.func (.yield l) #[] #[]) ∧ Boxed X Bw 22 (.slice A n c))
    (fun c pre X => c = .ret ∧ Jx (pre.filter (hitR xs)) X)
    (fun pre X Y ⟨⟨h1, h2⟩, h3, h4⟩ hr => ⟨⟨hJ _ _ _ h1 (hr.mono (by omega)), hr.below h2 hn0 (by omega)⟩, hr.boxed h3 (.inr (by omega)), hr.boxed h4 (.inr (by omega))⟩)
    (fun c pre X Y ⟨h1, h2⟩ hr => ⟨h1, hJx _ _ _ h2 (hr.mono (by omega))⟩)
    ⟨⟨hJB, hbB⟩, bY, bW⟩
    ?act
    ?assign ?body ?done ?stop
  case assign =>
    intro l x W K hK
    gi_wp2
    exact hK
  case body =>
    rintro l2 pre x X hl2 ⟨⟨hJ1, hb1⟩, hv, hbx⟩ hlt hsp
    have hc1 := hv.cell
    have hc2 := hbx.cell
    have hF3 : Fence.wide.fn 133 := trivial
    have hF0 : ∀ f : FuncId, none = some f → (Fence.wide.inRound l2).fn f := fun _ h => by cases h
    cases hh : hasS xs (strOfNums x.2) with
    | false =>
      have HX := Lib.hid (filter_snoc_no (l := pre) (show hitR xs x = false from hh))
      gi_wp2_with (gi_at_call 133; refine (CallsIn.inRound l2 (callsIn_wide.2 (containsS_any A n c n0 xs _ _ (hHR.out.below hb1) hn))).mono ?_; rw [hh]; rintro e w' ⟨rfl, rfl⟩)
      refine ⟨hF0, ?_⟩
      gi_wp2
      exact ⟨KeepsFrom.refl _ _, Kt.refl _ _, ⟨by rw [HX.out]; exact hJ1, hb1⟩, hv, hbx⟩
    | true =>
      have HX := Lib.hid (filter_snoc_yes (l := pre) (show hitR xs x = true from hh))
      obtain ⟨fn, tmps, assign, body, hy, hRd⟩ := hY _ x _ hJ1 (Nat.lt_of_le_of_lt (List.length_filter_le _ _) hlt) (by have := List.IsPrefix.filter (hitR xs) hsp; rwa [HX.out] at this)
      gi_wp2_with (gi_at_call 133; refine (CallsIn.inRound l2 (callsIn_wide.2 (containsS_any A n c n0 xs _ _ (hHR.out.below hb1) hn))).mono ?_; rw [hh]; rintro e w' ⟨rfl, rfl⟩)
      refine (roundIn_wide hRd).mono ?_
      rintro e W3 ⟨hkf, ⟨rfl, hJ3, hk3⟩ | ⟨rfl, hJx3⟩⟩
      · gi_wp2
        exact ⟨⟨hkf.size, fun k o hk => hkf.same k o (by omega)⟩, hk3.kt, ⟨by rw [HX.out]; exact hJ3, hb1.trans hk3.below⟩, hk3.kt.boxed hv (by rfl), hk3.box _ hbx⟩
      · gi_wp2
        exact ⟨⟨hkf.size, fun k o hk => hkf.same k o (by omega)⟩, rfl, by rw [HX.out]; exact hJx3⟩
  case done =>
    rintro D ys X hD rfl ⟨⟨hJ1, -⟩, -, -⟩ hK
    refine ⟨by simp, .inl ⟨_, _, rfl, run_takeDeferred hK, ?_⟩⟩
    exact ⟨_, results_none rfl _ _ _, ⟨_, rfl⟩, .inl ⟨_, rfl, hJ.turn _ hJ1 (by omega) hK rfl⟩⟩
  case stop =>
    rintro D c2 pre X hD hpre ⟨rfl, hx⟩ hK
    gi_wp2
    refine ⟨by simp, .inl ⟨_, _, rfl, run_takeDeferred hK, ?_⟩⟩
    exact ⟨_, results_none rfl _ _ _, ⟨_, rfl⟩, .inr ⟨_, List.IsPrefix.filter _ hpre, hJx.turn _ hx (by omega) hK rfl⟩⟩
theorem hitsIn_in (n : Nat) (s : ByteArray) (A : Option Addr) (m c : Nat) (w : World) :
    CallsIn Fence.wide n Try.prog 81 #[.string s, .slice A m c] w fun e w' => e = .returned (.func (.func 132) #[] #[.pointer (some ⟨w.heap.size, 0, none⟩), .pointer (some ⟨w.heap.size + 1, 0, none⟩)]) ∧ w' = (w.alloc (.cells #[.string s] 9)).alloc (.cells #[.slice A m c] 22) := by
  refine callsIn_of_wp Try.func81 rfl trivial ?_ rfl
  simp only [Try.ntmps81, List.size_toArray, List.length_cons, List.length_nil, Nat.reduceAdd, Nat.reduceSub, Array.replicate_succ, Array.replicate_zero, List.push_toArray, List.append_toArray, List.nil_append, List.cons_append]
  gi_wp2
  go_ret
  exact ⟨rfl, rfl⟩
end Go.Proofs.Yteeodjbionjlmaa
