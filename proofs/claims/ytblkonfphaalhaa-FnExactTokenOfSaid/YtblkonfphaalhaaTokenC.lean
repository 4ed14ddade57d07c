import Derived.Test.YtblkonfphaalhaaChecked
import Derived.WalkKit
import Derived.ProofKit
import Derived.OpenShut
import Derived.ShutString
import Derived.ChangeOld
import Derived.Below
import Derived.Lib.Hide
import Derived.Laws.CopyOwn
import Derived.Test.YtblkonfphaalhaaBase
import Derived.Test.YtblkonfphaalhaaMem
import Derived.Test.YtblkonfphaalhaaPlain3
namespace Go.Proofs.Ytblkonfphaalhaa
open Go.ChangeShapes Go.WideShapes Go.ChangeAt Go.RowKit
open Go.ChangeMaps (open_string shut_string)
set_option linter.unusedVariables false
set_option maxHeartbeats 400000 in
set_option maxRecDepth 100000 in
theorem l01Token_any (n m : Int) (w : World) (h0 : 0 ≤ n) (h1 : n ≤ 1000000000) (h2 : 0 ≤ m) (h3 : m ≤ 1000000000) :
    Calls Try.prog 64 #[.int .i64 n, .int .i64 m] w fun e w' => e = .returned (.string (strOfNums (tokL n m 16))) ∧ Below w.heap.size w w' := by
  obtain ⟨i0, hi, hz0, hz1, hz2⟩ := info_parts Try.info_u8
  go_enter Try.func64, Try.ntmps64
  go_wp2
  go_loopw [5, 6, 7] (fun v x i wr => ∃ k : Nat, k ≤ 16 ∧ i = .int .i64 k ∧ x = .int .i64 (tokX n m k) ∧ wr.ownsRow w.heap.size 5 1 v k ((tokL n m k).map (Value.int .u8)) ∧ Below w.heap.size w wr) (fun _ _ i _ => 16 - (intOf i).toNat)
  case atStart => exact ⟨0, by omega, rfl, rfl, World.ownsRow_made w #[] 0 (Nat.le_refl _) (by decide) rfl, (Below.refl _ _).alloc (Nat.le_refl _) _⟩
  case round =>
    obtain ⟨k, hk, rfl, rfl, hown, hbel⟩ := hrel
    have hb := tokX_bd n m h0 (by omega) k
    by_cases hlt : k < 16
    · have HX := Lib.hid (tokX_succ n m k)
      have HL := Lib.hid (tokL_eq n m k)
      have hr : 0 ≤ (1103515245 * tokX n m k + 12345 + m) % 2147483648 ∧ (1103515245 * tokX n m k + 12345 + m) % 2147483648 < 2147483648 := by omega
      go_wp2_with (at_builtin; refine wpList_append_own _ rfl _ _ 50 rfl w.heap.size 5 i0 (.int .u8 0) 1 1 Try.underlying50 hi hz0 hz1 hz2 rfl (by decide) _ _ _ rfl (hown.alloc _) ⟨wr.heap.size, 0, none⟩ 1 1 [.int .u8 ((1103515245 * tokX n m k + 12345 + m) % 2147483648 / 65536 % 256)] rfl rfl ?c1 ?c2 ?c3 ?c4 ?c5 ?_)
      case c1 => exact cell_one_new _ _ _
      case c2 => intro u hu; simp at hu; subst hu; rfl
      case c3 => unfold maxLen; omega
      case c4 => omega
      case c5 => have := hbel.size; simp; omega
      · intro v' w1 hown' hgrow _
        have hbs := hbel.size
        have hbel' : Below w.heap.size w w1 := (hbel.alloc hbs _).grown hgrow (by simp; omega) (fun g hg => (hown.lt g hg).1)
        clear hgrow hown hbel
        go_wp2
        go_roundw
        case rel => exact ⟨k + 1, by omega, by go_num, by rw [HX.out], by rw [HL.out, List.map_append]; exact hown', hbel'⟩
        case measure => simp [intOf]; omega
    · have hk16 : k = 16 := by omega
      subst hk16
      have hcv := own_string hown Try.underlying50 Try.underlying5 Try.underlying9
      go_wp2
      go_ret
      exact ⟨rfl, hbel⟩
def tokCs (n m : Int) (k : Nat) : Array Value := ((tokL n m k).map (Value.int .u8) ++ List.replicate (16 - k) (Value.int .u8 0)).toArray
theorem tokCs_size (n m : Int) (k : Nat) (hk : k ≤ 16) : (tokCs n m k).size = 16 := by simp [tokCs, tokL_len]; omega
theorem tokCs_zero (n m : Int) : tokCs n m 0 = #[Value.int IntKind.u8 0, Value.int IntKind.u8 0, Value.int IntKind.u8 0, Value.int IntKind.u8 0,
          Value.int IntKind.u8 0, Value.int IntKind.u8 0, Value.int IntKind.u8 0, Value.int IntKind.u8 0,
          Value.int IntKind.u8 0, Value.int IntKind.u8 0, Value.int IntKind.u8 0, Value.int IntKind.u8 0,
          Value.int IntKind.u8 0, Value.int IntKind.u8 0, Value.int IntKind.u8 0, Value.int IntKind.u8 0] := rfl
theorem tokCs_at (n m : Int) (k : Nat) (hk : k < 16) : (tokCs n m k)[k]? = some (.int .u8 0) := by
  simp [tokCs, tokL_len, List.getElem?_append_right, List.getElem?_replicate]; omega
theorem tokCs_succ (n m : Int) (k : Nat) (hk : k < 16) : (tokCs n m k).setIfInBounds k (.int .u8 ((1103515245 * tokX n m k + 12345 + m) % 2147483648 / 65536 % 256)) = tokCs n m (k + 1) := by
  apply Array.ext'
  simp only [tokCs, tokL_eq, Array.toList_setIfInBounds, List.map_append, List.append_assoc]
  obtain ⟨r, hr⟩ : ∃ r, 16 - k = r + 1 := ⟨15 - k, by omega⟩
  rw [hr, show 16 - (k + 1) = r by omega, List.set_append_right _ _ (by simp [tokL_len]), List.replicate_succ]
  simp [tokL_len]
theorem tokCs_full (n m : Int) : (tokCs n m 16).toList = (tokL n m 16).map (Value.int .u8) := by simp [tokCs]
theorem tokCs_one (n m : Int) (k : Nat) : (tokCs n m k).all (·.oneCell') = true := by
  rw [Array.all_eq_true_iff_forall_mem]
  intro v hv
  have hv' : v ∈ (tokL n m k).map (Value.int .u8) ++ List.replicate (16 - k) (Value.int .u8 0) := by simpa [tokCs] using hv
  rcases List.mem_append.1 hv' with h | h
  · exact one_u8 _ v h
  · rw [(List.mem_replicate.1 h).2]; rfl
theorem Try.size_arr16 : (Try.prog.info? 56).map (·.size) = some 16 := by kernel_rfl
set_option maxHeartbeats 800000 in
set_option maxRecDepth 100000 in
theorem tokenBytes_any (n m : Int) (w : World) (h0 : 0 ≤ n) (h1 : n ≤ 1000000000) (h2 : 0 ≤ m) (h3 : m ≤ 1000000000) :
    Calls Try.prog 65 #[.int .i64 n, .int .i64 m] w fun e w' => e = .returned (.agg (tokCs n m 16)) ∧ Below w.heap.size w w' ∧ w.heap.size ≤ w'.heap.size := by
  go_enter Try.func65, Try.ntmps65
  go_wp2
  go_loopw [6, 9] (fun x i wr => ∃ k : Nat, k ≤ 16 ∧ i = .int .i64 k ∧ x = .int .i64 (tokX n m k) ∧ Blk wr (w.heap.size + 1) 56 (tokCs n m k) ∧ Blk wr w.heap.size 56 (tokCs n m 0) ∧ Below w.heap.size w wr) (fun _ i _ => 16 - (intOf i).toNat)
  case atStart =>
    refine ⟨0, by omega, rfl, rfl, ?_, ?_, ((Below.refl _ _).alloc (Nat.le_refl _) _).alloc (by simp) _⟩
    · exact heap_alloc2_new w _ _
    · exact heap_alloc2_old w _ _
  case round =>
    obtain ⟨k, hk, rfl, rfl, hb1, hb0, hbel⟩ := hrel
    have hb := tokX_bd n m h0 (by omega) k
    by_cases hlt : k < 16
    · have HX := Lib.hid (tokX_succ n m k)
      have HL := Lib.hid (tokCs_succ n m k hlt)
      have hr : 0 ≤ (1103515245 * tokX n m k + 12345 + m) % 2147483648 ∧ (1103515245 * tokX n m k + 12345 + m) % 2147483648 < 2147483648 := by omega
      have hcell := (hb1.cell k).trans (tokCs_at n m k hlt)
      have hfz := hb1.frozen k
      go_wp2
      go_roundw
      case rel => exact ⟨k + 1, by omega, by go_num, by rw [HX.out], by rw [← HL.out]; exact hb1.set_ k _, hb0.far (by simp) _, hbel.setCell (by simp) _⟩
      case measure => simp [intOf]; omega
    · have hk16 : k = 16 := by omega
      subst hk16
      have hs := Try.size_arr16
      go_wp2_with (first | (refine wpList_load_row rfl 56 (.tmp 5) rfl (w.heap.size + 1) rfl 56 (tokCs n m 16) (0, 0) _ hb1 Try.underlying56 rfl (by rw [tokCs_size n m 16 (by omega)]; exact Try.size_arr16) ?_) | (refine wpList_store_row rfl 56 (.tmp 4) (.tmp 25) rfl w.heap.size (tokCs n m 16) rfl rfl 56 (tokCs n m 0) hb0 (by rw [tokCs_size n m 16 (by omega)]; exact Try.size_arr16) (by rw [tokCs_size n m 16 (by omega), tokCs_size n m 0 (by omega)]) (tokCs_one _ _ _) ?_))
      refine bodyPost_ret (v := .agg (tokCs n m 16)) (results_cell_row (P := Try.prog) Try.results65 _ _ w.heap.size 56 (tokCs n m 16) (0, 0) _ rfl (setRow_heap wr w.heap.size _ _ 56 (0, 0) hb0) Try.underlying56 rfl (by rw [tokCs_size n m 16 (by omega)]; exact Try.size_arr16)) rfl ⟨rfl, ?_, ?_⟩
      · exact below_setRow hbel (Nat.le_refl _) _
      · have := hbel.size; simpa using this

theorem TokenOf_spec_yes (n m : Int) (w : World) (h0 : 0 ≤ n) (h1 : n ≤ 1000000000) (h2 : 0 ≤ m) (h3 : m ≤ 1000000000) :
    Calls Try.prog 31 #[.int .i64 n, .int .i64 m] w fun e w' => e = .returned (.tuple #[.string (strOfNums (tokL n m 16)), .bool true]) ∧ Below w.heap.size w w' := by
  go_enter Try.func31, Try.ntmps31
  go_wp2_with (first | (go_at_call 55; refine (l00In_yes _ _ _ _ (by omega)).mono ?_; rintro e w' ⟨rfl, rfl⟩) | (go_at_call 64; refine (l01Token_any _ _ _ h0 h1 h2 h3).mono ?_; rintro e w1 ⟨rfl, hbel⟩))
  go_ret2
  exact ⟨rfl, hbel⟩
theorem TokenOf_spec_no (n m : Int) (w : World) (h : ¬ ((0 ≤ n ∧ n ≤ 1000000000) ∧ 0 ≤ m ∧ m ≤ 1000000000)) :
    Calls Try.prog 31 #[.int .i64 n, .int .i64 m] w fun e w' => e = .returned (.tuple #[.string ⟨#[]⟩, .bool false]) ∧ w = w' := by
  by_cases hn : 0 ≤ n ∧ n ≤ 1000000000
  · have hm : ¬ (0 ≤ m ∧ m ≤ 1000000000) := fun x => h ⟨hn, x⟩
    clear h
    go_enter Try.func31, Try.ntmps31
    go_wp2_with fail
    go_at_call 55; refine (l00In_yes _ _ _ _ hn).mono ?_; rintro e w' ⟨rfl, rfl⟩
    go_wp2_with fail
    go_at_call 55; refine (l00In_no _ _ _ _ hm).mono ?_; rintro e w' ⟨rfl, rfl⟩
    go_wp2
    go_ret2
    exact ⟨rfl, rfl⟩
  · clear h
    go_enter Try.func31, Try.ntmps31
    go_wp2_with (go_at_call 55; refine (l00In_no _ _ _ _ hn).mono ?_; rintro e w' ⟨rfl, rfl⟩)
    go_ret2
    exact ⟨rfl, rfl⟩
theorem TokenOf_impl_no (n m : Int) (w : World) (h : ¬ ((0 ≤ n ∧ n ≤ 1000000000) ∧ 0 ≤ m ∧ m ≤ 1000000000)) :
    Calls Try.prog 32 #[.int .i64 n, .int .i64 m] w fun e w' => e = .returned (.tuple #[.string ⟨#[]⟩, .bool false]) ∧ w = w' := by
  have hc : n < 0 ∨ (0 ≤ n ∧ 1000000000 < n) ∨ (0 ≤ n ∧ n ≤ 1000000000 ∧ m < 0) ∨ (0 ≤ n ∧ n ≤ 1000000000 ∧ 0 ≤ m ∧ 1000000000 < m) := by omega
  clear h
  rcases hc with h | ⟨h1, h2⟩ | ⟨h1, h2, h3⟩ | ⟨h1, h2, h3, h4⟩ <;> (go_enter Try.func32, Try.ntmps32; go_wp2; go_ret2; exact ⟨rfl, rfl⟩)
set_option maxHeartbeats 800000 in
set_option maxRecDepth 100000 in
theorem TokenOf_impl_yes (n m : Int) (w : World) (h0 : 0 ≤ n) (h1 : n ≤ 1000000000) (h2 : 0 ≤ m) (h3 : m ≤ 1000000000) :
    Calls Try.prog 32 #[.int .i64 n, .int .i64 m] w fun e w' => e = .returned (.tuple #[.string (strOfNums (tokL n m 16)), .bool true]) ∧ Below w.heap.size w w' := by
  go_enter Try.func32, Try.ntmps32
  go_wp2_with fail
  go_at_call 65; refine (tokenBytes_any _ _ _ h0 h1 h2 h3).mono ?_; rintro e w1 ⟨rfl, hbel, hsz⟩
  have hz : tokCs n m 0 = _ := tokCs_zero n m
  have hg : Blk (w1.alloc (.cells (tokCs n m 0) 56)) w1.heap.size 56 (tokCs n m 0) := heap_alloc_new w1 _
  have hbelA : Below w.heap.size w ((w1.alloc (.cells (tokCs n m 0) 56)).setRow w1.heap.size (tokCs n m 16)) := below_setRow (hbel.alloc hsz _) hsz _
  have hgA : Blk ((w1.alloc (.cells (tokCs n m 0) 56)).setRow w1.heap.size (tokCs n m 16)) w1.heap.size 56 (tokCs n m 16) := setRow_heap _ w1.heap.size _ _ 56 (0, 0) hg
  rw [hz] at hg hbelA hgA
  clear hz
  have HA := Lib.hid (And.intro hbelA hgA)
  clear hbelA hgA
  go_wp2_with (refine wpList_store_row rfl 56 (.tmp 6) (.tmp 23) rfl w1.heap.size (tokCs n m 16) rfl rfl 56 _ hg (by rw [tokCs_size n m 16 (by omega)]; exact Try.size_arr16) (by rw [tokCs_size n m 16 (by omega)]; rfl) (tokCs_one _ _ _) ?_; have hA := HA.out; revert hA; generalize World.setRow _ _ _ = w2; intro hA; obtain ⟨hB2, hb2⟩ := hA; have hcv := fun cap => blk_string (P := Try.prog) (n := 16) (cap := cap) hb2 (tokCs_full n m) (tokL_len _ _ _) Try.underlying50 Try.underlying5 Try.underlying9)
  go_ret2
  exact ⟨rfl, hB2⟩
end Go.Proofs.Ytblkonfphaalhaa
