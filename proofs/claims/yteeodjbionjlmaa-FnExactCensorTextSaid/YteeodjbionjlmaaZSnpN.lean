import Derived.Test.YteeodjbionjlmaaChecked
import Derived.WalkKit
import Derived.ProofKit
import Derived.OpenShut
import Derived.ShutString
import Derived.ChangeOld
import Derived.Below
import Derived.Lib.Hide
import Derived.Shelf.Abstract
import Derived.OwnWalkIn
import Derived.TacticsInMore
import Derived.Test.YteeodjbionjlmaaZSnpI
namespace Go.Proofs.Yteeodjbionjlmaa
open Go.ChangeShapes Go.WideShapes Go.ChangeAt Go.RowKit
open Go.ChangeMaps (open_string shut_string)
set_option linter.unusedVariables false
set_option maxRecDepth 100000
theorem snp_fin {w V : World} (b6 : Boxed V (w.heap.size + 1 + 1) 9 (.string ⟨#[]⟩)) (b7 : Boxed V (w.heap.size + 1 + 1 + 1) 4 (.bool false)) (hbV : Below w.heap.size w V) :
    (Boxed ((V.setCell ⟨w.heap.size + 1 + 1, 0, none⟩ (.string ⟨#[]⟩)).setCell ⟨w.heap.size + 1 + 1 + 1, 0, none⟩ (.bool false)) (w.heap.size + 1 + 1) 9 (.string ⟨#[]⟩) ∧
     Boxed ((V.setCell ⟨w.heap.size + 1 + 1, 0, none⟩ (.string ⟨#[]⟩)).setCell ⟨w.heap.size + 1 + 1 + 1, 0, none⟩ (.bool false)) (w.heap.size + 1 + 1 + 1) 4 (.bool false)) ∧
    Below w.heap.size w ((V.setCell ⟨w.heap.size + 1 + 1, 0, none⟩ (.string ⟨#[]⟩)).setCell ⟨w.heap.size + 1 + 1 + 1, 0, none⟩ (.bool false)) :=
  ⟨⟨(b6.set _).other (by omega) _, (b7.other (by omega) _).set _⟩, (hbV.setCell (by simp; omega) _).setCell (by simp; omega) _⟩
set_option maxHeartbeats 3200000 in
theorem impl_SnippetOf_no (A : Option Addr) (n c : Nat) (xs : List ByteArray) (s : ByteArray) (wide : Int) (w : World) (h : Row strv w w.heap.size A n xs) (hn : n ≤ 1048576) (hsz : ∀ s ∈ xs, s.size ≤ maxLen)
    (hs : s.size ≤ maxLen) (hno : textB s = false ∨ queryB xs = false ∨ wide < 0 ∨ 80 < wide) :
    Calls Try.prog 31 #[.string s, .slice A n c, .int .i64 wide] w fun e w' => e = .returned (.tuple #[.string ⟨#[]⟩, .bool false]) ∧ Below w.heap.size w w' := by
  have HN := Lib.hid hno
  have HH := Lib.hid h
  have HSZ := Lib.hid hsz
  clear hno hsz
  obtain ⟨t, ht⟩ : ∃ t, textB s = t := ⟨_, rfl⟩
  obtain ⟨q, hq⟩ : ∃ q, queryB xs = q := ⟨_, rfl⟩
  have HT := Lib.hid ht
  have HQ := Lib.hid hq
  clear ht hq
  go_enter Try.func31, Try.ntmps31
  go_wp2_with fail
  have b5 := ((Boxed.new (w.alloc (.cells #[.string s] 9)) 2 (.int .i64 wide)).alloc (.cells #[.string ⟨#[]⟩] 9)).alloc (.cells #[.bool false] 4)
  have b6 := (Boxed.new ((w.alloc (.cells #[.string s] 9)).alloc (.cells #[.int .i64 wide] 2)) 9 (.string ⟨#[]⟩)).alloc (.cells #[.bool false] 4)
  have b7 := Boxed.new (((w.alloc (.cells #[.string s] 9)).alloc (.cells #[.int .i64 wide] 2)).alloc (.cells #[.string ⟨#[]⟩] 9)) 4 (.bool false)
  simp only [World.size_alloc] at b5 b6 b7
  have hbV : Below w.heap.size w ((((w.alloc (.cells #[.string s] 9)).alloc (.cells #[.int .i64 wide] 2)).alloc (.cells #[.string ⟨#[]⟩] 9)).alloc (.cells #[.bool false] 4)) := ((((Below.refl _ w).alloc (Nat.le_refl _) _).alloc (by simp) _).alloc (by simp; omega) _).alloc (by simp; omega) _
  generalize (((w.alloc (.cells #[.string s] 9)).alloc (.cells #[.int .i64 wide] 2)).alloc (.cells #[.string ⟨#[]⟩] 9)).alloc (.cells #[.bool false] 4) = V at *
  clear h
  go_at_call 62
  refine (impl_IsText_any _ _ hs).mono ?_
  rw [HT.out]
  rintro e w' ⟨rfl, rfl⟩
  cases t with
  | false =>
    have HF := Lib.hid (snp_fin b6 b7 hbV)
    have c6 := b6.cell; have c7 := b7.cell
    have f6 := b6.frozen; have f7 := b7.frozen
    clear b6 b7
    go_wp2
    refine bodyPost_ret (results_cells2 (P := Try.prog) (fn := Try.f31) rfl _ _ rfl rfl (run_loadVar_str _ _ _ HF.out.1.1.cell) (run_loadVar_bool _ _ _ HF.out.1.2.cell)) rfl ⟨rfl, HF.out.2⟩
  | true =>
    go_wp2_with fail
    go_at_call 76
    refine (impl_isQuery_any A n c xs _ (HH.out.to hbV) hn HSZ.out).mono ?_
    rw [HQ.out]
    rintro e V ⟨rfl, hb2⟩
    have b5 : Boxed V _ _ _ := (hb2.block _ b5.lt).trans b5
    have b6 : Boxed V _ _ _ := (hb2.block _ b6.lt).trans b6
    have b7 : Boxed V _ _ _ := (hb2.block _ b7.lt).trans b7
    have hbV := hbV.trans (hb2.mono hbV.size)
    clear hb2
    have HF := Lib.hid (snp_fin b6 b7 hbV)
    have c5 := b5.cell
    have c6 := b6.cell; have c7 := b7.cell
    have f6 := b6.frozen; have f7 := b7.frozen
    cases q with
    | false =>
      clear b5 b6 b7
      go_wp2
      refine bodyPost_ret (results_cells2 (P := Try.prog) (fn := Try.f31) rfl _ _ rfl rfl (run_loadVar_str _ _ _ HF.out.1.1.cell) (run_loadVar_bool _ _ _ HF.out.1.2.cell)) rfl ⟨rfl, HF.out.2⟩
    | true =>
      have hw : wide < 0 ∨ (¬ wide < 0 ∧ 80 < wide) := by
        rcases HN.out with h | h | h | h
        · exact absurd (HT.out.symm.trans h) (by decide)
        · exact absurd (HQ.out.symm.trans h) (by decide)
        · exact .inl h
        · exact .inr ⟨by omega, h⟩
      clear b5 b6 b7
      rcases hw with h1 | ⟨h1, h2⟩
      all_goals
        go_wp2
        refine bodyPost_ret (results_cells2 (P := Try.prog) (fn := Try.f31) rfl _ _ rfl rfl (run_loadVar_str _ _ _ HF.out.1.1.cell) (run_loadVar_bool _ _ _ HF.out.1.2.cell)) rfl ⟨rfl, HF.out.2⟩
end Go.Proofs.Yteeodjbionjlmaa
