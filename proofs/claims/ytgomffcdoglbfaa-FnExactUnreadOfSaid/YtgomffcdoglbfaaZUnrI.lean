import Derived.Test.YtgomffcdoglbfaaChecked
import Derived.WalkKit
import Derived.ProofKit
import Derived.OpenShut
import Derived.ShutString
import Derived.ChangeOld
import Derived.Below
import Derived.Lib.Hide
import Derived.Test.YtgomffcdoglbfaaZPresM
import Derived.Test.YtgomffcdoglbfaaZAnsO
import Derived.Test.YtgomffcdoglbfaaZUnrP
namespace Go.Proofs.Ytgomffcdoglbfaa
open Go.ChangeShapes Go.WideShapes Go.ChangeAt Go.RowKit
open Go.ChangeMaps (open_string shut_string)
set_option linter.unusedVariables false
set_option maxRecDepth 100000
set_option maxHeartbeats 1600000 in
theorem unr_means (mb tb : Nat) (mk t : Int) (qs : List Rm) (w : World) (hm : Blk w mb 2 #[.int .i64 mk]) (ht : Blk w tb 2 #[.int .i64 t]) :
    Means 68 #[.pointer (some ⟨mb, 0, none⟩), .pointer (some ⟨tb, 0, none⟩)] (unrB mk t) qs w := by
  intro w' z _ hb
  have qm := ((hm.below hb hm.lt).alloc (.cells #[.int .i64 z.m.num, .int .i64 z.m.sdr, .int .i64 z.m.tick, .string z.m.text, .int .i64 z.m.edits, .bool z.m.gone, .int .i64 z.m.reply, .slice z.la z.ln z.lc] 96)).cell 0
  have qt := ((ht.below hb ht.lt).alloc (.cells #[.int .i64 z.m.num, .int .i64 z.m.sdr, .int .i64 z.m.tick, .string z.m.text, .int .i64 z.m.edits, .bool z.m.gone, .int .i64 z.m.reply, .slice z.la z.ln z.lc] 96)).cell 0
  have lt1 := (hm.below hb hm.lt).lt
  have lt2 := (ht.below hb ht.lt).lt
  have hbx : Below w'.heap.size w' (w'.alloc (.cells #[.int .i64 z.m.num, .int .i64 z.m.sdr, .int .i64 z.m.tick, .string z.m.text, .int .i64 z.m.edits, .bool z.m.gone, .int .i64 z.m.reply, .slice z.la z.ln z.lc] 96)) := (Below.refl _ _).alloc (Nat.le_refl _) _
  obtain ⟨gg, hgg⟩ : ∃ q, z.m.gone = q := ⟨_, rfl⟩
  have HG := Lib.hid hgg
  rw [hgg] at hbx qm qt ⊢
  clear hgg hm ht hb
  show Calls Try.prog 68 #[.agg #[.int .i64 z.m.num, .int .i64 z.m.sdr, .int .i64 z.m.tick, .string z.m.text, .int .i64 z.m.edits, .bool gg, .int .i64 z.m.reply, .slice z.la z.ln z.lc], .pointer (some ⟨mb, 0, none⟩), .pointer (some ⟨tb, 0, none⟩)] w' _
  by_cases h1 : mk < z.m.num
  · have h1' : decide (mk < z.m.num) = true := decide_eq_true h1
    have H1 := Lib.hid h1
    cases gg with
    | true =>
      go_enter Try.func68, Try.ntmps68
      go_wp2
      go_ret
      exact ⟨by simp [unrB, HG.out], hbx⟩
    | false =>
      by_cases h2 : z.m.sdr = t
      · have h2' : (z.m.sdr == t) = true := by simp [h2]
        have h2'' : (z.m.sdr != t) = false := by simp [h2]
        have H2 := Lib.hid h2
        clear h2
        go_enter Try.func68, Try.ntmps68
        go_wp2
        go_ret
        exact ⟨by simp [unrB, H2.out], hbx⟩
      · have h2' : (z.m.sdr == t) = false := by simp [h2]
        have h2'' : (z.m.sdr != t) = true := by simp [h2]
        have H2 := Lib.hid h2
        clear h2
        go_enter Try.func68, Try.ntmps68
        go_wp2
        go_ret
        exact ⟨by simp [unrB, H1.out, HG.out, H2.out], hbx⟩
  · have h1' : decide (mk < z.m.num) = false := decide_eq_false h1
    have H1 := Lib.hid h1
    go_enter Try.func68, Try.ntmps68
    go_wp2
    go_ret
    exact ⟨by rw [show unrB mk t z.m = false by unfold unrB; rw [decide_eq_false (by have := H1.out; omega)]; rfl]; rfl, hbx⟩
set_option maxHeartbeats 1600000 in
theorem unrAsk_any (mb tb : Nat) (mk t : Int) (x : Int) (ms : List Mg) (w : World) (hm : Blk w mb 2 #[.int .i64 mk]) (ht : Blk w tb 2 #[.int .i64 t]) :
    AskOk 67 #[.pointer (some ⟨mb, 0, none⟩), .pointer (some ⟨tb, 0, none⟩)] (pickL (unrB mk t) ms) x ms w := by
  intro w' g A n c qs hb hC hM hn
  have hm := hm.below hb hm.lt
  have ht := ht.below hb ht.lt
  show Calls Try.prog 67 #[.iface 134 (.pointer (some ⟨g, 0, none⟩)), .pointer (some ⟨mb, 0, none⟩), .pointer (some ⟨tb, 0, none⟩)] w' _
  have hme : ∀ w : World, (method 313 134 (.pointer (some ⟨g, 0, none⟩)) "loop.example/g01202/impl.numbers").run Try.prog w = .ok (183, .pointer (some ⟨g, 0, none⟩)) w := fun _ => by kernel_rfl
  have cn := numbers_any 68 #[.pointer (some ⟨mb, 0, none⟩), .pointer (some ⟨tb, 0, none⟩)] (enters_of Try.func68 (by kernel_rfl) rfl) (unrB mk t) g w.heap.size x A n c qs w' hC hn (unr_means mb tb mk t qs w' hm ht)
  go_enter Try.func67, Try.ntmps67
  go_wp2_with (go_at_call 183; refine cn.mono ?_; rintro e w1 ⟨A2, n2, c2, rfl, ho, hb1⟩)
  go_ret2
  exact ⟨⟨_, _, _, rfl, by rw [← hM]; exact ho⟩, hb1⟩
theorem three_boxesU (w : World) (t t' t'' : TypeId) (c c' c'' : Array Value) : Blk (((w.alloc (.cells c t)).alloc (.cells c' t')).alloc (.cells c'' t'')) w.heap.size t c ∧ Blk (((w.alloc (.cells c t)).alloc (.cells c' t')).alloc (.cells c'' t'')) (w.heap.size + 1) t' c' ∧ Blk (((w.alloc (.cells c t)).alloc (.cells c' t')).alloc (.cells c'' t'')) (w.heap.size + 1 + 1) t'' c'' ∧ Below w.heap.size w (((w.alloc (.cells c t)).alloc (.cells c' t')).alloc (.cells c'' t'')) := by
  obtain ⟨a, b, d⟩ := two_boxes w t t' c c'
  refine ⟨a.alloc _, b.alloc _, ?_, d.alloc (by simp; omega) _⟩
  have := Blk.new ((w.alloc (.cells c t)).alloc (.cells c' t')) t'' c''
  simpa using this
set_option maxHeartbeats 3200000 in
theorem impl_UnreadOf_any (A1 A2 A3 : Option Addr) (n1 c1 n2 c2 n3 c3 : Nat) (hs ts ks : List Bn) (x : Int) (A : Option Addr) (n c : Nat) (rs : List Rm) (t : Int) (w : World) (h : PresAt w w.heap.size A1 n1 A2 n2 A3 n3 hs ts ks) (hn : n1 + n2 + n3 ≤ 1048576) (hL : LogAt w w.heap.size A n rs) (hf : fitL (mgs rs)) (wft : (Lit.int .i64 t).wf = true) :
    Calls Try.prog 30 #[.agg #[.slice A1 n1 c1, .slice A2 n2 c2, .slice A3 n3 c3], .agg #[.int .i64 x, .slice A n c], .int .i64 t] w fun e w' => NumsOut ((presB hs ts ks && idB t) && logB x (mgs rs)) (pickL (unrB (numOf ks t 0) t) (mgs rs)) w e w' := by
  have HF := Lib.hid hf
  clear hf
  go_enter Try.func30, Try.ntmps30
  go_wp2_with fail
  obtain ⟨k0, k1, k2, hb0⟩ := three_boxesU w 31 52 2 #[.slice A1 n1 c1, .slice A2 n2 c2, .slice A3 n3 c3] #[.int .i64 x, .slice A n c] #[.int .i64 t]
  have h := h.to hb0
  have hL := hL.to hb0
  generalize (((w.alloc (.cells #[.slice A1 n1 c1, .slice A2 n2 c2, .slice A3 n3 c3] 31)).alloc (.cells #[.int .i64 x, .slice A n c] 52)).alloc (.cells #[.int .i64 t] 2)) = W at *
  cases tb : (presB hs ts ks && idB t) with
  | false =>
    go_at_call 20; refine (impl_MarkOf_any _ _ _ _ _ _ _ _ _ _ _ _ _ _ h hn wft).mono ?_; rw [tb]; rintro e w1 ⟨rfl, hb1⟩
    have hb0 := hb0.trans (hb1.mono hb0.size)
    have hbz := hb0.alloc hb0.size (.cells #[.int .i64 (markZ false ks t)] 2)
    go_wp2
    all_goals exact bodyPost_ret (v := .tuple #[.slice none 0 0, .bool false]) (by simp [results, Try.results30, go_sem]) rfl (by rw [tb, Bool.false_and]; exact numsOut_no hbz)
  | true =>
    go_at_call 20; refine (impl_MarkOf_any _ _ _ _ _ _ _ _ _ _ _ _ _ _ h hn wft).mono ?_; rw [tb]; rintro e w1 ⟨rfl, hb1⟩
    have hL := hL.to hb1; have k1 := k1.below hb1 k1.lt; have k2 := k2.below hb1 k2.lt; have hb0 := hb0.trans (hb1.mono hb0.size)
    have HZ := Lib.hid (show markZ true ks t = numOf ks t 0 from rfl)
    clear hb1 k0 h
    have l0 := k1.cell 0; have l1 := k1.cell 1; have llt := k1.lt
    go_wp2_with fail
    obtain ⟨km, hb1⟩ := one_box w1 2 #[.int .i64 (markZ true ks t)]
    have hL := hL.to hb1; have k2 := k2.below hb1 k2.lt
    have hs0 := hb0.size
    have hb0 := hb0.trans (hb1.mono hb0.size)
    have hs1 := hb0.size
    clear hb1 l0 l1 llt k1
    generalize w1.alloc (.cells #[.int .i64 (markZ true ks t)] 2) = W2 at *
    have ca := answerOk_any 67 #[.pointer (some ⟨w1.heap.size, 0, none⟩), .pointer (some ⟨w.heap.size + 1 + 1, 0, none⟩)] (enters_of Try.func67 (by kernel_rfl) rfl) (pickL (unrB (numOf ks t 0) t) (mgs rs)) x A n c rs W2 hL HF.out (by rw [HZ.out] at km; exact unrAsk_any _ _ (numOf ks t 0) t x (mgs rs) W2 km k2)
    have HTB := Lib.hid tb
    clear tb
    go_at_call 66; refine ca.mono ?_; rintro e w3 ⟨A2, n2, c2, zs, rfl, hzs, ho, hb2⟩
    have ho := World.ownsRow.mono ho hs1
    have hb2 := hb0.trans (hb2.mono hs1)
    go_wp2
    go_ret2
    rw [HTB.out, Bool.true_and]
    exact ⟨_, _, _, zs, rfl, hzs, ho, hb2⟩
end Go.Proofs.Ytgomffcdoglbfaa
