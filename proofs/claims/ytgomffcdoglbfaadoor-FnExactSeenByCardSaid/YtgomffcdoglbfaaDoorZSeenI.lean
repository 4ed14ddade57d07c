import Derived.Test.YtgomffcdoglbfaaDoorChecked
import Derived.WalkKit
import Derived.ProofKit
import Derived.OpenShut
import Derived.ShutString
import Derived.ChangeOld
import Derived.Below
import Derived.Lib.Hide
import Derived.RegionTactic
import Derived.BigRegion
import Derived.Test.YtgomffcdoglbfaaDoorZNumC
namespace Go.Proofs.YtgomffcdoglbfaaDoor
open Go.ChangeShapes Go.WideShapes Go.ChangeAt Go.RowKit
open Go.ChangeMaps (open_string shut_string)
set_option linter.unusedVariables false
set_option maxRecDepth 100000
def RefR (w : World) (a : Addr) : Prop := w.cell? ⟨0, 0, none⟩ = some (.iface 77 (.pointer (some a)))
theorem RefR.below {w w' : World} {a : Addr} (h : RefR w a) (hb : Below w.heap.size w w') : RefR w' a := (hb.cell (World.block_lt_of_cell? w _ h)).trans h
theorem CopyAt.mono {w : World} {g base base' : Nat} {x : Int} {A : Option Addr} {n c : Nat} {qs : List Rm} (h : CopyAt w g base x A n c qs) (hb : base' ≤ base) : CopyAt w g base' x A n c qs := ⟨Nat.le_trans hb h.1, h.2.1, h.2.2.mono hb⟩
set_option maxHeartbeats 1600000 in
theorem sees_means (tb sb : Nat) (t s : Int) (qs : List Rm) (w : World) (ht : Blk w tb 2 #[.int .i64 t]) (hs : Blk w sb 2 #[.int .i64 s]) :
    Means 22 #[.pointer (some ⟨sb, 0, none⟩), .pointer (some ⟨tb, 0, none⟩)] (seesB t s) qs w := by
  intro w' z _ hb
  have qt := ((ht.below hb ht.lt).alloc (.cells #[.int .i64 z.m.num, .int .i64 z.m.sdr, .int .i64 z.m.tick, .string z.m.text, .int .i64 z.m.edits, .bool z.m.gone, .int .i64 z.m.reply, .slice z.la z.ln z.lc] 44)).cell 0
  have qs := ((hs.below hb hs.lt).alloc (.cells #[.int .i64 z.m.num, .int .i64 z.m.sdr, .int .i64 z.m.tick, .string z.m.text, .int .i64 z.m.edits, .bool z.m.gone, .int .i64 z.m.reply, .slice z.la z.ln z.lc] 44)).cell 0
  have lt1 := (ht.below hb ht.lt).lt
  have lt2 := (hs.below hb hs.lt).lt
  have hbx : Below w'.heap.size w' (w'.alloc (.cells #[.int .i64 z.m.num, .int .i64 z.m.sdr, .int .i64 z.m.tick, .string z.m.text, .int .i64 z.m.edits, .bool z.m.gone, .int .i64 z.m.reply, .slice z.la z.ln z.lc] 44)) := (Below.refl _ _).alloc (Nat.le_refl _) _
  obtain ⟨gg, hgg⟩ : ∃ q, z.m.gone = q := ⟨_, rfl⟩
  have HG := Lib.hid hgg
  rw [hgg] at hbx qt qs ⊢
  clear hgg ht hs hb
  show Calls Tryd.prog 22 #[.agg #[.int .i64 z.m.num, .int .i64 z.m.sdr, .int .i64 z.m.tick, .string z.m.text, .int .i64 z.m.edits, .bool gg, .int .i64 z.m.reply, .slice z.la z.ln z.lc], .pointer (some ⟨sb, 0, none⟩), .pointer (some ⟨tb, 0, none⟩)] w' _
  by_cases h1 : s ≤ z.m.num
  · have h1' : decide (s ≤ z.m.num) = true := decide_eq_true h1
    have H1 := Lib.hid h1
    cases gg with
    | false =>
      go_enter Tryd.func22, Tryd.ntmps22
      go_wp2
      go_ret
      exact ⟨by simp [seesB, H1.out, HG.out], hbx⟩
    | true =>
      by_cases h2 : z.m.sdr = t
      · have h2' : (z.m.sdr == t) = true := by simp [h2]
        have H2 := Lib.hid h2
        clear h2
        go_enter Tryd.func22, Tryd.ntmps22
        go_wp2
        go_ret
        exact ⟨by simp [seesB, H1.out, HG.out, H2.out], hbx⟩
      · have h2' : (z.m.sdr == t) = false := by simp [h2]
        have H2 := Lib.hid h2
        clear h2
        go_enter Tryd.func22, Tryd.ntmps22
        go_wp2
        go_ret
        exact ⟨by simp [seesB, HG.out, H2.out], hbx⟩
  · have h1' : decide (s ≤ z.m.num) = false := decide_eq_false h1
    have H1 := Lib.hid h1
    go_enter Tryd.func22, Tryd.ntmps22
    go_wp2
    go_ret
    exact ⟨by rw [show seesB t s z.m = false by unfold seesB; rw [decide_eq_false (by have := H1.out; omega)]; rfl]; rfl, hbx⟩
/-- a question that answers numbers, put to a log's copy -/
def AskNums (fid : FuncId) (caps : Array Value) (r : Bool) (l : List Int) (x : Int) (ms : List Mg) (w : World) : Prop :=
  ∀ (w' : World) (g : Nat) (A : Option Addr) (n c : Nat) (qs : List Rm), Below w.heap.size w w' → CopyAt w' g w.heap.size x A n c qs → mgs qs = ms → n ≤ 1048576 →
    Calls Tryd.prog fid (#[.iface 63 (.pointer (some ⟨g, 0, none⟩))] ++ caps) w' fun e w'' => ((r = true ∧ ∃ A' n' c', e = .returned (.tuple #[.slice A' n' c', .nilIface]) ∧ w''.ownsRow w'.heap.size 2 1 (.slice A' n' c') n' (l.map i64v)) ∨ (r = false ∧ ∃ v, e = .returned (.tuple #[.slice none 0 0, .iface 77 v]))) ∧ Below w'.heap.size w' w''
set_option maxHeartbeats 3200000 in
theorem answerNums_any (fid : FuncId) (caps : Array Value) (hen : Enters Tryd.prog fid) (r : Bool) (l : List Int) (x : Int) (A : Option Addr) (n c : Nat) (rs : List Rm) (w : World) (h : LogAt w w.heap.size A n rs) (hf : fitL (mgs rs)) (hc : AskNums fid caps r l x (mgs rs) w) :
    Calls Tryd.prog 18 #[.agg #[.int .i64 x, .slice A n c], .func (.func fid) #[] caps] w fun e w' => NumsOut (logB x (mgs rs) && r) l w e w' := by
  have hn := fit_n h hf
  have HF := Lib.hid hf
  unfold Enters at hen
  clear hf
  go_enter Tryd.func18, Tryd.ntmps18
  go_wp2_with fail
  obtain ⟨k0, hb0⟩ := one_box w 31 #[.int .i64 x, .slice A n c]
  generalize w.alloc (.cells #[.int .i64 x, .slice A n c] 31) = W at *
  have h := h.to hb0
  cases tb : logB x (mgs rs) with
  | false =>
    go_at_call 28; refine (impl_ValidLog_any _ _ _ _ _ _ h HF.out).mono ?_; rw [tb]; rintro e w1 ⟨rfl, hb1⟩
    have hb0 := hb0.trans (hb1.mono hb0.size)
    go_wp2
    all_goals exact bodyPost_ret (v := .tuple #[.slice none 0 0, .bool false]) (by simp [results, Tryd.results18, go_sem]) rfl (by rw [tb]; exact numsOut_no hb0)
  | true =>
    go_at_call 28; refine (impl_ValidLog_any _ _ _ _ _ _ h HF.out).mono ?_; rw [tb]; rintro e w1 ⟨rfl, hb1⟩
    have h := h.to hb1
    have k0 := k0.below hb1 k0.lt
    have hb0 := hb0.trans (hb1.mono hb0.size)
    clear hb1
    have l0 := k0.cell 0; have l1 := k0.cell 1; have lt := k0.lt
    go_wp2_with fail
    clear l0 l1 lt
    go_at_call 29; refine (shelfOf_any _ _ _ _ _ _ h HF.out).mono ?_; rintro e w2 ⟨g, A', c', qs, rfl, hC, hM, hb2⟩
    have hz0 := hb0.size
    have hb0 := hb0.trans (hb2.mono hb0.size)
    have cc := hc w2 g A' n c' qs hb0 (hC.mono hz0) hM hn
    clear hC hM hb2 h k0 hc
    have hz2 := hb0.size
    go_wp2_with fail
    go_at_fn fid; refine cc.mono ?_; rintro e w3 ⟨hy, hb3⟩
    have hb4 := hb0.trans (hb3.mono hz2)
    rcases hy with ⟨rfl, A2, n2, c2, rfl, ho⟩ | ⟨rfl, v, rfl⟩
    · have ho := World.ownsRow.mono ho hz2
      go_wp2
      refine bodyPost_ret (v := .tuple #[.slice A2 n2 c2, .bool true]) (by simp [results, Tryd.results18, go_sem]) rfl ?_
      rw [tb]
      exact ⟨_, _, _, l, rfl, by simp, ho, hb4⟩
    · go_wp2
      all_goals exact bodyPost_ret (v := .tuple #[.slice none 0 0, .bool false]) (by simp [results, Tryd.results18, go_sem]) rfl (by rw [tb]; exact numsOut_no hb4)
set_option maxHeartbeats 1600000 in
theorem seenAsk_any (tb sb : Nat) (t s : Int) (x : Int) (ms : List Mg) (w : World) (a : Addr) (ht : Blk w tb 2 #[.int .i64 t]) (hs : Blk w sb 2 #[.int .i64 s]) (he : RefR w a) :
    AskNums 19 #[.pointer (some ⟨tb, 0, none⟩), .pointer (some ⟨sb, 0, none⟩)] (idB t && amtB s) (seenL t s ms) x ms w := by
  intro w' g A n c qs hb hC hM hn
  have ht := ht.below hb ht.lt
  have hs := hs.below hb hs.lt
  have he := he.below hb
  have q1 := ht.cell 0
  have q2 := hs.cell 0
  have q3 : w'.cell? ⟨0, 0, none⟩ = some (.iface 77 (.pointer (some a))) := he
  show Calls Tryd.prog 19 #[.iface 63 (.pointer (some ⟨g, 0, none⟩)), .pointer (some ⟨tb, 0, none⟩), .pointer (some ⟨sb, 0, none⟩)] w' _
  cases t1 : idB t with
  | false =>
    go_enter Tryd.func19, Tryd.ntmps19
    go_wp2_with (first | (go_at_call 20; refine (isMember_b _ _ _ t1).mono ?_; rintro e w1 ⟨rfl, rfl⟩))
    go_region
    all_goals (try go_wp2)
    go_ret2
    exact ⟨.inr ⟨rfl, _, rfl⟩, (Below.refl _ _).drew⟩
  | true =>
    cases t2 : amtB s with
    | false =>
      go_enter Tryd.func19, Tryd.ntmps19
      go_wp2_with (first | (go_at_call 20; refine (isMember_b _ _ _ t1).mono ?_; rintro e w1 ⟨rfl, rfl⟩) | (go_at_call 21; refine (isAmount_b _ _ _ t2).mono ?_; rintro e w1 ⟨rfl, rfl⟩))
      go_region
      all_goals (try go_wp2)
      go_ret2
      exact ⟨.inr ⟨rfl, _, rfl⟩, (Below.refl _ _).drew⟩
    | true =>
      have hm : ∀ w : World, (method 200 63 (.pointer (some ⟨g, 0, none⟩)) "loop.example/g01202/impl.numbers").run Tryd.prog w = .ok (65, .pointer (some ⟨g, 0, none⟩)) w := fun _ => by kernel_rfl
      have cn := numbers_any 22 #[.pointer (some ⟨sb, 0, none⟩), .pointer (some ⟨tb, 0, none⟩)] (enters_of Tryd.func22 (by kernel_rfl) rfl) (seesB t s) g w.heap.size x A n c qs w' hC hn (sees_means tb sb t s qs w' ht hs)
      go_enter Tryd.func19, Tryd.ntmps19
      go_wp2_with (first | (go_at_call 20; refine (isMember_b _ _ _ t1).mono ?_; rintro e w1 ⟨rfl, rfl⟩) | (go_at_call 21; refine (isAmount_b _ _ _ t2).mono ?_; rintro e w1 ⟨rfl, rfl⟩) | (go_at_call 65; refine cn.mono ?_; rintro e w1 ⟨A2, n2, c2, rfl, ho, hb1⟩))
      go_ret2
      exact ⟨.inl ⟨rfl, _, _, _, rfl, by rw [← hM]; exact ho⟩, hb1⟩
set_option maxHeartbeats 1600000 in
theorem impl_SeenBy_any (x : Int) (A : Option Addr) (n c : Nat) (rs : List Rm) (t s : Int) (w : World) (a : Addr) (h : LogAt w w.heap.size A n rs) (hf : fitL (mgs rs)) (he : RefR w a) :
    Calls Tryd.prog 7 #[.agg #[.int .i64 x, .slice A n c], .int .i64 t, .int .i64 s] w fun e w' => NumsOut (logB x (mgs rs) && (idB t && amtB s)) (seenL t s (mgs rs)) w e w' := by
  go_enter Tryd.func7, Tryd.ntmps7
  go_wp2_with fail
  have ht : Blk (((w.alloc (.cells #[.int .i64 x, .slice A n c] 31)).alloc (.cells #[.int .i64 t] 2)).alloc (.cells #[.int .i64 s] 2)) (w.heap.size + 1) 2 #[.int .i64 t] := by
    have q := (Blk.new (w.alloc (.cells #[.int .i64 x, .slice A n c] 31)) 2 #[.int .i64 t]).alloc (.cells #[.int .i64 s] 2)
    rw [show (w.alloc (.cells #[.int .i64 x, .slice A n c] 31)).heap.size = w.heap.size + 1 by simp] at q
    exact q
  have hs : Blk (((w.alloc (.cells #[.int .i64 x, .slice A n c] 31)).alloc (.cells #[.int .i64 t] 2)).alloc (.cells #[.int .i64 s] 2)) (w.heap.size + 1 + 1) 2 #[.int .i64 s] := by
    have q := Blk.new ((w.alloc (.cells #[.int .i64 x, .slice A n c] 31)).alloc (.cells #[.int .i64 t] 2)) 2 #[.int .i64 s]
    rw [show ((w.alloc (.cells #[.int .i64 x, .slice A n c] 31)).alloc (.cells #[.int .i64 t] 2)).heap.size = w.heap.size + 1 + 1 by simp] at q
    exact q
  have hb : Below w.heap.size w (((w.alloc (.cells #[.int .i64 x, .slice A n c] 31)).alloc (.cells #[.int .i64 t] 2)).alloc (.cells #[.int .i64 s] 2)) := (((Below.refl _ _).alloc (Nat.le_refl _) _).alloc (by simp) _).alloc (by simp; omega) _
  generalize (((w.alloc (.cells #[.int .i64 x, .slice A n c] 31)).alloc (.cells #[.int .i64 t] 2)).alloc (.cells #[.int .i64 s] 2)) = W at *
  have h := h.to hb
  have he := he.below hb
  have ca := answerNums_any 19 #[.pointer (some ⟨w.heap.size + 1, 0, none⟩), .pointer (some ⟨w.heap.size + 1 + 1, 0, none⟩)] (enters_of Tryd.func19 (by kernel_rfl) rfl) (idB t && amtB s) (seenL t s (mgs rs)) x A n c rs W h hf (seenAsk_any _ _ t s x (mgs rs) W a ht hs he)
  go_at_call 18; refine ca.mono ?_; rintro e w2 ⟨A2, n2, c2, zs, rfl, hzs, ho, hb2⟩
  have ho := World.ownsRow.mono ho hb.size
  have hb2 := hb.trans (hb2.mono hb.size)
  go_wp2
  go_ret2
  exact ⟨_, _, _, zs, rfl, hzs, ho, hb2⟩
end Go.Proofs.YtgomffcdoglbfaaDoor
