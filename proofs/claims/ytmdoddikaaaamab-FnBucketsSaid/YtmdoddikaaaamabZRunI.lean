import Derived.Test.YtmdoddikaaaamabChecked
import Derived.WalkKit
import Derived.ProofKit
import Derived.OpenShut
import Derived.ShutString
import Derived.ChangeOld
import Derived.Below
import Derived.Lib.Hide
import Derived.Deep.QuietTactic
import Derived.BigQuiet
import Derived.Shelf.Abstract
import Derived.Test.YtmdoddikaaaamabZRunA
namespace Go.Proofs.Ytmdoddikaaaamab
open Go.ChangeShapes Go.WideShapes Go.ChangeAt Go.RowKit
open Go.ChangeMaps (open_string shut_string)
set_option linter.unusedVariables false
set_option maxRecDepth 100000
set_option maxHeartbeats 3200000 in
theorem RunBucket1_any (g : Nat) (b : Bk) (t : Int) (W : World) (k : Blk W g 66 #[.int .i64 b.sz, .int .i64 b.ev, .int .i64 b.lf, .int .i64 b.tm]) (hp : PreB b t) :
    Calls Try.prog 116 #[.int .i64 t, .pointer (some ⟨g, 0, none⟩)] W fun e W' => e = .returned (.bool (didB b 1 t)) ∧ Blk W' g 66 #[.int .i64 (takeB b 1 t).sz, .int .i64 (takeB b 1 t).ev, .int .i64 (takeB b 1 t).lf, .int .i64 (takeB b 1 t).tm] ∧ W.grownBy W' (some g) := by
  have HP := Lib.hid hp
  clear hp
  obtain ⟨tk, htk⟩ : ∃ z, takeB b 1 t = z := ⟨_, rfl⟩
  obtain ⟨dd, hdd⟩ : ∃ z, didB b 1 t = z := ⟨_, rfl⟩
  have HTK := Lib.hid htk; have HDD := Lib.hid hdd; clear htk hdd
  have c0 := k.cell 0; have c1 := k.cell 1; have c2 := k.cell 2; have c3 := k.cell 3; have kl := k.lt
  go_enter Try.func116, Try.ntmps116
  go_wp2_with fail
  clear c0 c1 c2 c3 kl
  go_at_call 50; refine (impl_TakeBucket_any b 1 t _).mono ?_; rw [HP.out.all, HTK.out, HDD.out, giveK_true2, Bool.true_and]; rintro e W1 ⟨rfl, hb⟩
  have k := k.below hb k.lt
  have hg : W.grownBy W1 (some g) := ⟨hb.os, hb.tape, hb.output, hb.size, fun j hj _ => hb.block j hj⟩
  have kl := k.lt
  clear hb
  have c0 := k.cell 0; have c1 := k.cell 1; have c2 := k.cell 2; have c3 := k.cell 3
  have f0 := k.frozen 0; have f1 := k.frozen 1; have f2 := k.frozen 2; have f3 := k.frozen 3
  have hne : W1.heap.size ≠ g := by omega
  go_wp2
  go_ret
  exact ⟨ret_bool HDD.out.symm, by rw [HTK.out]; exact ((((k.set_ 0 _).set_ 1 _).set_ 2 _).set_ 3 _).alloc _, (gset (gset (gset (gset hg 0 _) 1 _) 2 _) 3 _).andThen (World.grownBy_alloc _ _ none) (fun j hj => by cases hj)⟩
/-- the run of a bucket that lies in a box; another box (g4) is left as it was -/
theorem runCallsB_any (g g4 : Nat) (b : Bk) (B0 : Nat) (A : Option Addr) (n c : Nat) (xs : List Int) (w : World) (h : Row i64v w B0 A n xs) (hB0 : B0 ≤ w.heap.size) (hg : B0 ≤ g) (hn : n ≤ 1048576)
    (k2 : Blk w g 66 #[.int .i64 b.sz, .int .i64 b.ev, .int .i64 b.lf, .int .i64 b.tm]) (k4 : Blk w g4 66 #[.int .i64 0, .int .i64 0, .int .i64 0, .int .i64 0]) (hb : bktB b = true) (hs : startF b.tm xs = true) (hne : g ≠ g4) :
    Calls Try.prog 115 #[.slice A n c, .func (.func 116) #[] #[.pointer (some ⟨g, 0, none⟩)]] w (RunOut (ticksB xs) (runG stB b xs).1 w.heap.size (fun w' => Below B0 w w' ∧ (Blk w' g 66 #[.int .i64 (if ticksB xs = true then (runG stB b xs).2 else b).sz, .int .i64 (if ticksB xs = true then (runG stB b xs).2 else b).ev, .int .i64 (if ticksB xs = true then (runG stB b xs).2 else b).lf, .int .i64 (if ticksB xs = true then (runG stB b xs).2 else b).tm] ∧ Blk w' g4 66 #[.int .i64 0, .int .i64 0, .int .i64 0, .int .i64 0]) ∧ w.heap.size ≤ w'.heap.size)) := by
  have base := runCalls_any 116 #[.pointer (some ⟨g, 0, none⟩)] (enters_of Try.func116 (by kernel_rfl) rfl) stB PreB (fun b W => Blk W g 66 #[.int .i64 b.sz, .int .i64 b.ev, .int .i64 b.lf, .int .i64 b.tm] ∧ Blk W g4 66 #[.int .i64 0, .int .i64 0, .int .i64 0, .int .i64 0]) b B0 A n c xs w h hB0 hn ⟨k2, k4⟩
    (fun s t W hI hp hW => (RunBucket1_any g s t W hI.1 hp).mono fun e W' ⟨he, hk, hgr⟩ => ⟨he, ⟨hk, hI.2.grown hgr (by intro e; injection e with e; exact hne e.symm)⟩,
      ⟨hgr.os, hgr.tape, hgr.output, hgr.size, fun j hj => hgr.block j (Nat.lt_of_lt_of_le hj (Nat.le_trans hB0 hW)) (by intro e; injection e with e; omega)⟩,
      fun bs v m ys ho => ho.kept hgr (row_not_blk ho hI.1 (by decide))⟩)
    (fun s W W' bs v m ys hI _ ho hgr => ⟨hI.1.grown hgr (blk_ne ho hI.1 (by decide)), hI.2.grown hgr (blk_ne ho hI.2 (by decide))⟩)
    (fun s W W' hI hbl => ⟨hI.1.below hbl hI.1.lt, hI.2.below hbl hI.2.lt⟩)
    (fun ht => pre_run xs b none (by have h1 := ht; unfold ticksB rowG at h1; exact (and_both h1).2) hb hs)
  refine base.mono fun e w' ⟨A', n', c', zs, he, hz, ho, h1, h2, h3⟩ => ⟨A', n', c', zs, he, hz, ho, h1, ?_, h3⟩
  exact h2
end Go.Proofs.Ytmdoddikaaaamab
