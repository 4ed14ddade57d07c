import Derived.Test.YtmdoddikaaaamabChecked
import Derived.WalkKit
import Derived.ProofKit
import Derived.OpenShut
import Derived.ShutString
import Derived.ChangeOld
import Derived.Below
import Derived.Lib.Hide
import Derived.Shelf.Abstract
import Derived.Test.YtmdoddikaaaamabZChnI
import Derived.Test.YtmdoddikaaaamabZBoolR
namespace Go.Proofs.Ytmdoddikaaaamab
open Go.ChangeShapes Go.WideShapes Go.ChangeAt Go.RowKit
open Go.ChangeMaps (open_string shut_string)
set_option linter.unusedVariables false
set_option maxRecDepth 100000
/-- what a closure answers, one number after another, and its state behind them -/
def runG {σ : Type} (st : σ → Int → Bool × σ) : σ → List Int → List Bool × σ
  | s, [] => ([], s)
  | s, t :: r => ((st s t).1 :: (runG st (st s t).2 r).1, (runG st (st s t).2 r).2)
theorem runG_append {σ : Type} (st : σ → Int → Bool × σ) : ∀ (a b : List Int) (s : σ), runG st s (a ++ b) = ((runG st s a).1 ++ (runG st (runG st s a).2 b).1, (runG st (runG st s a).2 b).2) := by
  intro a
  induction a with
  | nil => intro b s; rfl
  | cons t r ih => intro b s; simp [runG, ih]
theorem runG_len {σ : Type} (st : σ → Int → Bool × σ) : ∀ (a : List Int) (s : σ), (runG st s a).1.length = a.length := by
  intro a
  induction a with
  | nil => intro s; rfl
  | cons t r ih => intro s; simp [runG, ih]
theorem runG_step {σ : Type} {st : σ → Int → Bool × σ} {s : σ} {xs : List Int} {k : Nat} {t : Int} (h : xs[k]? = some t) :
    runG st s (xs.take (k + 1)) = ((runG st s (xs.take k)).1 ++ [(st (runG st s (xs.take k)).2 t).1], (st (runG st s (xs.take k)).2 t).2) := by
  rw [takeX h, runG_append]
  rfl
/-- bools in memory of the answer's own, and whether they are told; and what else holds behind the call -/
def RunOut (r : Bool) (l : List Bool) (base : Nat) (P : World → Prop) (e : Ending) (w' : World) : Prop :=
  ∃ A n c zs, e = .returned (.tuple #[.slice A n c, .bool r]) ∧ zs = (if r = true then l else []) ∧ w'.ownsRow base 4 1 (.slice A n c) n (zs.map boolv) ∧ P w'
set_option maxHeartbeats 3200000 in
theorem runCalls_any {σ : Type} (fid : FuncId) (caps : Array Value) (hen : Enters Try.prog fid) (st : σ → Int → Bool × σ) (Pre : σ → Int → Prop) (I : σ → World → Prop) (s0 : σ) (B0 : Nat)
    (A : Option Addr) (n c : Nat) (xs : List Int) (w : World) (h : Row i64v w B0 A n xs) (hB0 : B0 ≤ w.heap.size) (hn : n ≤ 1048576) (hI : I s0 w)
    (hstep : ∀ s t W, I s W → Pre s t → w.heap.size ≤ W.heap.size → Calls Try.prog fid (#[.int .i64 t] ++ caps) W fun e W' => e = .returned (.bool (st s t).1) ∧ I (st s t).2 W' ∧ Below B0 W W' ∧ (∀ base v m ys, W.ownsRow base 4 1 v m ys → W'.ownsRow base 4 1 v m ys))
    (hrow : ∀ s W W' base v m ys, I s W → w.heap.size ≤ base → W.ownsRow base 4 1 v m ys → W.grownBy W' v.ownBlock → I s W')
    (hnew : ∀ s W W', I s W → Below W.heap.size W W' → I s W')
    (hrun : ticksB xs = true → ∀ k t, xs[k]? = some t → Pre (runG st s0 (xs.take k)).2 t) :
    Calls Try.prog 115 #[.slice A n c, .func (.func fid) #[] caps] w (RunOut (ticksB xs) (runG st s0 xs).1 w.heap.size (fun w' => Below B0 w w' ∧ I (if ticksB xs = true then (runG st s0 xs).2 else s0) w' ∧ w.heap.size ≤ w'.heap.size)) := by
  obtain ⟨i0, hi, hz0, hz1, hz2⟩ := info_parts Try.info_bool
  have HL := Lib.hid h.1
  unfold Enters at hen
  cases tb : ticksB xs with
  | false =>
    go_enter Try.func115, Try.ntmps115
    go_wp2_with fail
    go_at_call 157; refine (isRowI_any A n c 256 xs _ (h.more hB0) hn (by decide)).mono ?_; rw [show rowG 256 tickB tkF xs = false from tb]; rintro e w1 ⟨rfl, hb1⟩
    go_wp2
    refine bodyPost_ret (v := .tuple #[.slice none 0 0, .bool false]) (by simp [results, Try.results115, go_sem]) rfl ?_
    exact ⟨none, 0, 0, [], rfl, rfl, World.ownsRow_nil _ _ _ _, hb1.mono hB0, hnew _ _ _ hI hb1, hb1.size⟩
  | true =>
    have HRUN := Lib.hid (hrun tb); have HTB := Lib.hid tb
    go_enter Try.func115, Try.ntmps115
    go_wp2_with fail
    go_at_call 157; refine (isRowI_any A n c 256 xs _ (h.more hB0) hn (by decide)).mono ?_; rw [show rowG 256 tickB tkF xs = true from tb]; rintro e w1 ⟨rfl, hb1⟩
    have h1 := h.below (hb1.mono hB0)
    have hI1 := hnew _ _ _ hI hb1
    have hs1 := hb1.size
    have hbB := hb1.mono hB0
    clear h hI hb1
    have HP := Lib.hid (And.intro hstep (And.intro hrow hnew))
    clear hstep hrow hnew hrun
    go_wp2_with (at_make; refine wpList_make_own _ rfl _ _ 77 rfl w.heap.size 4 i0 (.bool false) 1 Try.underlying77 hi hz0 hz1 _ _ _ n rfl rfl rfl (by rw [hz2]; omega) (by unfold maxLen; omega) hs1 ?_; intro w2 hown2 hg2)
    have hb2 : Below w1.heap.size w1 w2 := (Below.refl _ _).grown hg2 (Nat.le_refl _) (by intro g hg; cases hg)
    have h2 := h1.below (hb2.mono (Nat.le_trans hB0 hs1))
    have hI2 := HP.out.2.2 _ _ _ hI1 hb2
    have hbB := hbB.trans (hb2.mono (Nat.le_trans hB0 hs1))
    have hs2 := Nat.le_trans hs1 hb2.size
    clear hI1 h1 hg2 hb2
    go_loopw [6, 17] (fun v i wr => ∃ (k : Nat) (u : Value), k ≤ n ∧ i = .int .i64 k ∧ v = u ∧ wr.ownsRow w.heap.size 4 1 u k ((runG st s0 (xs.take k)).1.map boolv) ∧ Below B0 w wr ∧ I (runG st s0 (xs.take k)).2 wr ∧ w.heap.size ≤ wr.heap.size ∧ Row i64v wr B0 A n xs) (fun _ i _ => n - (intOf i).toNat)
    case atStart => exact ⟨0, _, by omega, rfl, rfl, by simpa [runG] using hown2, hbB, by simpa [runG] using hI2, hs2, h2⟩
    case round =>
      obtain ⟨k, u, hk, rfl, rfl, hown, hbel, hIk, hsz, hr⟩ := hrel
      clear hown2 hI2 h2 hbB
      by_cases hlt : k < n
      · have hlt' : decide ((k : Int) < (n : Int)) = true := decide_eq_true (by omega)
        obtain ⟨b, off, z, rfl, hb, hz, c0⟩ := hr.at_ hlt
        have HST := Lib.hid (runG_step (st := st) (s := s0) hz)
        have cc := HP.out.1 _ z _ hIk (HRUN.out k z hz) hsz
        have HR := Lib.hid hr
        obtain ⟨sk, hsk⟩ : ∃ x, (runG st s0 (xs.take k)).2 = x := ⟨_, rfl⟩
        rw [hsk] at cc
        have HSK := Lib.hid hsk
        obtain ⟨bz, hbz⟩ : ∃ x, (st sk z).1 = x := ⟨_, rfl⟩
        rw [hbz] at cc
        have HBZ := Lib.hid hbz
        have hown0 := hown
        clear hz hr hIk hsk hbz hown
        go_wp2_with fail
        go_at_fn fid; refine cc.mono ?_; rintro e w5 ⟨rfl, hI5, hb5, hk5⟩
        have hown5 := hk5 _ _ _ _ hown0
        have hbel5 := hbel.trans hb5
        have hsz5 := Nat.le_trans hsz hb5.size
        have hr5 := HR.out.below hb5
        have HI5 := Lib.hid hI5
        clear hown0 hbel hb5 hk5 hI5 cc c0
        go_wp2_with (at_builtin; refine wpList_append_own _ rfl _ _ 77 rfl w.heap.size 4 i0 (.bool false) 1 1 Try.underlying77 hi hz0 hz1 hz2 rfl (by decide) _ _ _ rfl (hown5.alloc _) ⟨w5.heap.size, 0, none⟩ 1 1 [.bool bz] rfl rfl (cell_newB _ _ _ _ rfl) (by intro u hu; simp at hu; subst hu; rfl) (by unfold maxLen; omega) (by omega) (by simp; omega) ?_; intro v' w6 hown' hgrow _)
        have hbn : Below w5.heap.size w5 (w5.alloc (.cells #[.bool bz] 4)) := (Below.refl _ _).alloc (Nat.le_refl _) _
        have hI6 := HP.out.2.1 _ _ _ _ _ _ _ (HP.out.2.2 _ _ _ HI5.out hbn) (Nat.le_refl _) (hown5.alloc _) hgrow
        have hB5 : B0 ≤ w5.heap.size := Nat.le_trans hB0 hsz5
        have hbel6 : Below B0 w w6 := (hbel5.trans (hbn.mono hB5)).grown hgrow (by simp; omega) (fun g hg => Nat.le_trans hB0 (hown5.lt g hg).1)
        have hbel56 : Below B0 w5 w6 := (hbn.mono hB5).grown hgrow (by simp; omega) (fun g hg => Nat.le_trans hB0 (hown5.lt g hg).1)
        have hr6 := hr5.below hbel56
        have hsz6 := Nat.le_trans hsz5 hbel56.size
        clear hgrow hown5 hbel5 hbn HI5 hr5 hbel56
        go_roundw
        case rel => exact ⟨k + 1, v', by omega, by go_num, rfl, by rw [HST.out, List.map_append, HSK.out, HBZ.out]; exact hown', hbel6, by rw [HST.out, HSK.out]; exact hI6, hsz6, hr6⟩
        case measure => simp [intOf]; omega
      · have hlt' : decide ((k : Int) < (n : Int)) = false := decide_eq_false (by omega)
        have hkn : k = n := by omega
        subst hkn
        rw [List.take_of_length_le (by have := HL.out; omega)] at hown hIk
        have HO := Lib.hid hown
        have HI := Lib.hid hIk
        clear hown hIk
        rcases HO.out.2 with ⟨hv, hv0⟩ | ⟨g', cap', cur', hv, _⟩
        · subst hv
          go_wp2
          refine bodyPost_ret (v := .tuple #[.slice none 0 0, .bool true]) (by simp [results, Try.results115, go_sem]) rfl ?_
          exact ⟨_, _, _, (runG st s0 xs).1, rfl, rfl, by have := HO.out; rwa [hv0] at this, hbel, HI.out, hsz⟩
        · subst hv
          go_wp2
          refine bodyPost_ret (v := .tuple #[.slice (some ⟨g', 0, none⟩) k cap', .bool true]) (by simp [results, Try.results115, go_sem]) rfl ?_
          exact ⟨_, _, _, (runG st s0 xs).1, rfl, rfl, HO.out, hbel, HI.out, hsz⟩
end Go.Proofs.Ytmdoddikaaaamab
