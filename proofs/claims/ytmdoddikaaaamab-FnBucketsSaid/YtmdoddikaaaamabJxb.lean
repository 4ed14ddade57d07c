import Derived.Test.YtmdoddikaaaamabChecked
import Derived.WalkKit
import Derived.ProofKit
import Derived.OpenShut
import Derived.ShutString
import Derived.ChangeOld
import Derived.Below
import Derived.Lib.Hide
import Derived.Deep.QuietTactic
import Derived.Test.YtmdoddikaaaamabZDrawK
import Derived.Test.YtmdoddikaaaamabZRunA
import Derived.Test.YtmdoddikaaaamabZWinI
namespace Go.Proofs.Ytmdoddikaaaamab
open Go.ChangeShapes Go.WideShapes Go.ChangeAt Go.RowKit
open Go.ChangeMaps (open_string shut_string)
set_option linter.unusedVariables false
set_option maxRecDepth 100000
/-- drawn ticks -/
structure TicksDrawn (f : Int) (xs : List Int) : Prop where
  up : tmG f xs = true
  len : xs.length ≤ 13
theorem tick_next {f0 f y : Int} {xs : List Int} (h : ∀ ys, tmG f ys = true → tmG f0 (xs ++ ys) = true) (h1 : f ≤ y) (h2 : y ≤ 1000000) : ∀ ys, tmG y ys = true → tmG f0 ((xs ++ [y]) ++ ys) = true := by
  intro ys hy
  rw [List.append_assoc]
  refine h _ ?_
  show (decide (f ≤ y ∧ y ≤ 1000000) && tmG y ys) = true
  rw [hy, decide_eq_true ⟨h1, h2⟩]
  rfl
set_option maxHeartbeats 6400000 in
theorem R8Times_any (A : Option Addr) (n c : Nat) (zs : List Nat) (B : Nat) (f0 : Int) (w : World) (h : Row u8v w B A n zs) (hB : B ≤ w.heap.size) (hz : ∀ z ∈ zs, z < 256) (hf0 : 0 ≤ f0 ∧ f0 ≤ 1000) :
    Calls Try.prog 52 #[.slice A n c, .int .i64 f0] w fun e w' => ∃ A' c' xs, e = .returned (.slice A' xs.length c') ∧ w'.ownsRow w.heap.size 2 1 (.slice A' xs.length c') xs.length (xs.map i64v) ∧ TicksDrawn f0 xs ∧ Below w.heap.size w w' := by
  obtain ⟨i0, hi, hz0, hz1, hz2⟩ := info_parts Try.info_i64
  have hA : ∀ b, 0 < n → A = some b → b.block < w.heap.size := fun b hn hb => by
    obtain ⟨b', off, e, hlt, _⟩ := h.2 hn
    rw [e] at hb; cases hb; exact Nat.lt_of_lt_of_le hlt hB
  go_enter Try.func52, Try.ntmps52
  go_wp2_with fail
  go_at_call 111; refine (l00From_any A n c zs B _ h (by omega) hz).mono ?_; rintro e W1 ⟨rfl, hW1, hs⟩
  have hb1 : Below w.heap.size w W1 := by rw [hW1]; exact (Below.refl _ _).alloc (Nat.le_refl _) _
  clear hW1 h
  have hS := hs.1.lt
  go_wp2_with fail
  have hbA := (Below.refl W1.heap.size W1).alloc (Nat.le_refl _) (.cells #[] 2)
  have hown0 : (W1.alloc (.cells #[] 2)).ownsRow w.heap.size 2 1 (.slice (some ⟨W1.heap.size, 0, none⟩) 0 0) 0 [] := World.ownsRow.mono (World.ownsRow_made W1 #[] 0 (Nat.le_refl _) (by decide) rfl) hb1.size
  have hs := hs.grown (World.grownBy_alloc W1 (.cells #[] 2) none) (fun b hp hb => by simp) (by simp)
  have hb2 := hb1.trans (hbA.mono hb1.size)
  have hal := hbA.size
  generalize hQ : W1.heap.size = Q at *
  generalize W1.alloc (.cells #[] 2) = W2 at *
  go_at_call 114; refine (pick_any w.heap.size A n c zs 0 0 14 _ hs (by decide) (by decide) (by decide)).mono ?_; rintro e W3 ⟨x, sd, rfl, hx0, hx1, hg, hs3⟩
  have hown3 := hown0.kept hg (row_not_blk hown0 hs.1 (by decide))
  have hb3 := hb2.grown hg hb2.size (by intro j hj; injection hj with hj; omega)
  have hs3 : SrcAt W3 w.heap.size A n c zs ((1 : Nat) : Int) sd := hs3
  obtain ⟨j0, rfl⟩ : ∃ j : Nat, x = (j : Int) := ⟨x.toNat, by omega⟩
  clear hs hown0 hb2 hb1 hbA hal hg
  go_wp2
  go_loopw [1, 6, 7] (fun fv v jv wr => ∃ (j a : Nat) (f sd : Int) (A' : Option Addr) (c' : Nat) (xs : List Int), j ≤ 13 ∧ jv = .int .i64 j ∧ fv = .int .i64 f ∧ v = .slice A' xs.length c' ∧ a + j ≤ 20 ∧ xs.length + j ≤ 13 ∧ 0 ≤ f ∧ f + 8 * j ≤ 2000 ∧ wr.ownsRow w.heap.size 2 1 (.slice A' xs.length c') xs.length (xs.map i64v) ∧ SrcAt wr w.heap.size A n c zs ((a : Nat) : Int) sd ∧ Below w.heap.size w wr ∧ Hid (∀ ys, tmG f ys = true → tmG f0 (xs ++ ys) = true)) (fun _ _ jv _ => (intOf jv).toNat)
  case atStart => exact ⟨j0, 1, f0, sd, _, _, [], by omega, rfl, rfl, rfl, by omega, by simp; omega, hf0.1, by omega, hown3, hs3, hb3, Lib.hid (fun ys h => h)⟩
  case round =>
    clear hown3 hs3 hb3
    obtain ⟨j, a, f, sd, A', c', xs, hj, rfl, rfl, rfl, ha, hxl, hf1, hf2, hown, hs, hb, HT⟩ := hrel
    by_cases hj0 : 0 < j
    · have hj0' : decide ((0 : Int) < (j : Int)) = true := decide_eq_true (by omega)
      have hsz := hb.size
      go_wp2_with fail
      go_at_call 114; refine (pick_any w.heap.size A n c zs a sd 8 _ hs (by omega) (by decide) (by decide)).mono ?_; rintro e W5 ⟨y, sd2, rfl, hy0, hy1, hg, hs5⟩
      have hown5 := hown.kept hg (row_not_blk hown hs.1 (by decide))
      have hb5 := hb.grown hg hsz (by intro j hj; injection hj with hj; omega)
      have hs5 : SrcAt W5 w.heap.size A n c zs ((a + 1 : Nat) : Int) sd2 := hs5
      have hsz5 := hb5.size
      have fw : IntKind.i64.wrap (f + y) = f + y := IntWalk.i64_in _ (by omega)
      have HT2 := Lib.hid (tick_next HT.out (show f ≤ f + y by omega) (show f + y ≤ 1000000 by omega))
      clear hown hs hb hg HT
      go_wp2_with (at_builtin; refine wpList_append_own _ rfl _ _ 31 rfl w.heap.size 2 i0 (.int .i64 0) 1 8 Try.underlying31 hi hz0 hz1 hz2 rfl (by decide) _ _ _ rfl (hown5.alloc _) ⟨W5.heap.size, 0, none⟩ 1 1 [.int .i64 (f + y)] rfl rfl (cell_newB _ _ _ _ rfl) (by intro u hu; simp at hu; subst hu; rfl) (by unfold maxLen; omega) (by omega) (by first | (simp; done) | (simp; omega) | omega) ?_; intro v' w6 hown' hgrow _; obtain ⟨g', cap', rfl⟩ := own_succW hown')
      have hoA := hown5.alloc (.cells #[.int .i64 (f + y)] 2)
      have hsA := hs5.grown (World.grownBy_alloc W5 (.cells #[.int .i64 (f + y)] 2) none) (fun b hp hb => by simp) (by simp)
      have hs6 := hsA.grown hgrow (fun b hp hbb e => by have h1 := hA b hp hbb; have h2 := (hoA.lt b.block e.symm).1; omega) (blk_ne hoA hsA.1 (by decide))
      have hb6 : Below w.heap.size w w6 := (hb5.alloc hsz5 _).grown hgrow (by simp; omega) (fun g hg => (hown5.lt g hg).1)
      have hl6 : (xs ++ [f + y]).length = xs.length + 1 := by simp
      clear hgrow hown5 hb5 hs5 hsA hoA
      go_roundw
      case rel => exact ⟨j - 1, a + 1, f + y, sd2, some ⟨g', 0, none⟩, cap', xs ++ [f + y], by omega, by go_num, rfl, by rw [hl6], by omega, by rw [hl6]; omega, by omega, by omega, by rw [hl6, List.map_append]; exact hown', hs6, hb6, HT2⟩
      case measure => simp [intOf]; omega
    · have hj0' : decide ((0 : Int) < (j : Int)) = false := decide_eq_false (by omega)
      have HO := Lib.hid hown
      have HD := Lib.hid (show TicksDrawn f0 xs from ⟨by have := HT.out [] rfl; simpa using this, by omega⟩)
      clear hown
      go_wp2
      go_ret
      exact ⟨A', c', xs, rfl, HO.out, HD.out, hb⟩
end Go.Proofs.Ytmdoddikaaaamab
namespace Go.Proofs.Ytmdoddikaaaamab
open Go.ChangeShapes Go.WideShapes Go.ChangeAt Go.RowKit
open Go.ChangeMaps (open_string shut_string)
set_option linter.unusedVariables false
set_option maxRecDepth 100000
set_option maxHeartbeats 6400000 in
theorem R8TimesS_any (A : Option Addr) (n c : Nat) (zs : List Nat) (B : Nat) (f0 : Int) (w : World) (h : Row u8v w B A n zs) (hB : B ≤ w.heap.size) (hz : ∀ z ∈ zs, z < 256) (hf0 : 0 ≤ f0 ∧ f0 ≤ 1000) :
    Calls Try.prog 52 #[.slice A n c, .int .i64 f0] w fun e w' => ∃ g' c' xs, e = .returned (.slice (some ⟨g', 0, none⟩) xs.length c') ∧ w'.ownsRow w.heap.size 2 1 (.slice (some ⟨g', 0, none⟩) xs.length c') xs.length (xs.map i64v) ∧ TicksDrawn f0 xs ∧ Below w.heap.size w w' := by
  obtain ⟨i0, hi, hz0, hz1, hz2⟩ := info_parts Try.info_i64
  have hA : ∀ b, 0 < n → A = some b → b.block < w.heap.size := fun b hn hb => by
    obtain ⟨b', off, e, hlt, _⟩ := h.2 hn
    rw [e] at hb; cases hb; exact Nat.lt_of_lt_of_le hlt hB
  go_enter Try.func52, Try.ntmps52
  go_wp2_with fail
  go_at_call 111; refine (l00From_any A n c zs B _ h (by omega) hz).mono ?_; rintro e W1 ⟨rfl, hW1, hs⟩
  have hb1 : Below w.heap.size w W1 := by rw [hW1]; exact (Below.refl _ _).alloc (Nat.le_refl _) _
  clear hW1 h
  have hS := hs.1.lt
  go_wp2_with fail
  have hbA := (Below.refl W1.heap.size W1).alloc (Nat.le_refl _) (.cells #[] 2)
  have hown0 : (W1.alloc (.cells #[] 2)).ownsRow w.heap.size 2 1 (.slice (some ⟨W1.heap.size, 0, none⟩) 0 0) 0 [] := World.ownsRow.mono (World.ownsRow_made W1 #[] 0 (Nat.le_refl _) (by decide) rfl) hb1.size
  have hs := hs.grown (World.grownBy_alloc W1 (.cells #[] 2) none) (fun b hp hb => by simp) (by simp)
  have hb2 := hb1.trans (hbA.mono hb1.size)
  have hal := hbA.size
  generalize hQ : W1.heap.size = Q at *
  generalize W1.alloc (.cells #[] 2) = W2 at *
  go_at_call 114; refine (pick_any w.heap.size A n c zs 0 0 14 _ hs (by decide) (by decide) (by decide)).mono ?_; rintro e W3 ⟨x, sd, rfl, hx0, hx1, hg, hs3⟩
  have hown3 := hown0.kept hg (row_not_blk hown0 hs.1 (by decide))
  have hb3 := hb2.grown hg hb2.size (by intro j hj; injection hj with hj; omega)
  have hs3 : SrcAt W3 w.heap.size A n c zs ((1 : Nat) : Int) sd := hs3
  obtain ⟨j0, rfl⟩ : ∃ j : Nat, x = (j : Int) := ⟨x.toNat, by omega⟩
  clear hs hown0 hb2 hb1 hbA hal hg
  go_wp2
  go_loopw [1, 6, 7] (fun fv v jv wr => ∃ (j a : Nat) (f sd : Int) (g' : Nat) (c' : Nat) (xs : List Int), j ≤ 13 ∧ jv = .int .i64 j ∧ fv = .int .i64 f ∧ v = .slice (some ⟨g', 0, none⟩) xs.length c' ∧ a + j ≤ 20 ∧ xs.length + j ≤ 13 ∧ 0 ≤ f ∧ f + 8 * j ≤ 2000 ∧ wr.ownsRow w.heap.size 2 1 (.slice (some ⟨g', 0, none⟩) xs.length c') xs.length (xs.map i64v) ∧ SrcAt wr w.heap.size A n c zs ((a : Nat) : Int) sd ∧ Below w.heap.size w wr ∧ Hid (∀ ys, tmG f ys = true → tmG f0 (xs ++ ys) = true)) (fun _ _ jv _ => (intOf jv).toNat)
  case atStart => exact ⟨j0, 1, f0, sd, _, _, [], by omega, rfl, rfl, rfl, by omega, by simp; omega, hf0.1, by omega, hown3, hs3, hb3, Lib.hid (fun ys h => h)⟩
  case round =>
    clear hown3 hs3 hb3
    obtain ⟨j, a, f, sd, g0', c', xs, hj, rfl, rfl, rfl, ha, hxl, hf1, hf2, hown, hs, hb, HT⟩ := hrel
    by_cases hj0 : 0 < j
    · have hj0' : decide ((0 : Int) < (j : Int)) = true := decide_eq_true (by omega)
      have hsz := hb.size
      go_wp2_with fail
      go_at_call 114; refine (pick_any w.heap.size A n c zs a sd 8 _ hs (by omega) (by decide) (by decide)).mono ?_; rintro e W5 ⟨y, sd2, rfl, hy0, hy1, hg, hs5⟩
      have hown5 := hown.kept hg (row_not_blk hown hs.1 (by decide))
      have hb5 := hb.grown hg hsz (by intro j hj; injection hj with hj; omega)
      have hs5 : SrcAt W5 w.heap.size A n c zs ((a + 1 : Nat) : Int) sd2 := hs5
      have hsz5 := hb5.size
      have fw : IntKind.i64.wrap (f + y) = f + y := IntWalk.i64_in _ (by omega)
      have HT2 := Lib.hid (tick_next HT.out (show f ≤ f + y by omega) (show f + y ≤ 1000000 by omega))
      clear hown hs hb hg HT
      go_wp2_with (at_builtin; refine wpList_append_own _ rfl _ _ 31 rfl w.heap.size 2 i0 (.int .i64 0) 1 8 Try.underlying31 hi hz0 hz1 hz2 rfl (by decide) _ _ _ rfl (hown5.alloc _) ⟨W5.heap.size, 0, none⟩ 1 1 [.int .i64 (f + y)] rfl rfl (cell_newB _ _ _ _ rfl) (by intro u hu; simp at hu; subst hu; rfl) (by unfold maxLen; omega) (by omega) (by first | (simp; done) | (simp; omega) | omega) ?_; intro v' w6 hown' hgrow _; obtain ⟨g', cap', rfl⟩ := own_succW hown')
      have hoA := hown5.alloc (.cells #[.int .i64 (f + y)] 2)
      have hsA := hs5.grown (World.grownBy_alloc W5 (.cells #[.int .i64 (f + y)] 2) none) (fun b hp hb => by simp) (by simp)
      have hs6 := hsA.grown hgrow (fun b hp hbb e => by have h1 := hA b hp hbb; have h2 := (hoA.lt b.block e.symm).1; omega) (blk_ne hoA hsA.1 (by decide))
      have hb6 : Below w.heap.size w w6 := (hb5.alloc hsz5 _).grown hgrow (by simp; omega) (fun g hg => (hown5.lt g hg).1)
      have hl6 : (xs ++ [f + y]).length = xs.length + 1 := by simp
      clear hgrow hown5 hb5 hs5 hsA hoA
      go_roundw
      case rel => exact ⟨j - 1, a + 1, f + y, sd2, g', cap', xs ++ [f + y], by omega, by go_num, rfl, by rw [hl6], by omega, by rw [hl6]; omega, by omega, by omega, by rw [hl6, List.map_append]; exact hown', hs6, hb6, HT2⟩
      case measure => simp [intOf]; omega
    · have hj0' : decide ((0 : Int) < (j : Int)) = false := decide_eq_false (by omega)
      have HO := Lib.hid hown
      have HD := Lib.hid (show TicksDrawn f0 xs from ⟨by have := HT.out [] rfl; simpa using this, by omega⟩)
      clear hown
      go_wp2
      go_ret
      exact ⟨g0', c', xs, rfl, HO.out, HD.out, hb⟩
end Go.Proofs.Ytmdoddikaaaamab
