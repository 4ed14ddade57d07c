import Derived.Test.YtmnmmjobplbflaaGreatDoorChecked
import Derived.WalkKit
import Derived.ProofKit
import Derived.OpenShut
import Derived.ShutString
import Derived.ChangeOld
import Derived.Below
import Derived.Lib.Hide
import Derived.Stop.LaidErr
import Derived.Stop.LaidTwo
import Derived.LaidLaws
import Derived.Test.YtmnmmjobplbflaaGreatDoorZMemC
namespace Go.Proofs.YtmnmmjobplbflaaGreatDoor
open Go.ChangeShapes Go.WideShapes Go.ChangeAt Go.RowKit
open Go.ChangeMaps (open_string shut_string)
set_option linter.unusedVariables false
theorem star_errR : "*" ++ "errors.errorString" = "*errors.errorString" := by decide
theorem row_errR (u : TypeId) (h : Tryz.prog.typeName? 3 u = some "*errors.errorString") : u = 214 :=
  typeName_ptr_named (nm := "errors.errorString") (by rw [star_errR]; kernel_rfl) (by kernel_rfl) (by decide) u (by rw [star_errR]; exact h)
theorem cell_of_var {P : Program} {W : World} {n : String} {g : Nat} {v : Value} (hg : P.globalNamed n = some g) (h : W.var? P n = some #[v]) : W.cell? ⟨g, 0, none⟩ = some v := by
  simp only [World.var?, hg, Option.bind_some] at h
  split at h
  · rename_i cs _ _ hh
    injection h with h
    subst h
    simp [World.cell?, hh]
  · cases h
theorem var_below {P : Program} {W W' : World} {n : String} {g : Nat} {cs : Array Value} (hg : P.globalNamed n = some g) (h : W.var? P n = some cs) (hb : Below W.heap.size W W') : W'.var? P n = some cs := by
  have hlt : g < W.heap.size := by
    simp only [World.var?, hg, Option.bind_some] at h
    split at h
    · rename_i hh
      exact (Array.getElem?_eq_some_iff.1 hh).1
    · cases h
  simp only [World.var?, hg, Option.bind_some] at h ⊢
  rw [hb.block g hlt]
  exact h
theorem gN : Tryz.prog.globalNamed "loop.example/g01202/impl.errNoMember" = some 0 := by kernel_rfl
theorem gNT : (Tryz.prog.globals[0]?).map (·.type) = some 62 := by kernel_rfl
theorem gR : Tryz.prog.globalNamed "loop.example/g01202/impl.errRefused" = some 1 := by kernel_rfl
theorem gRT : (Tryz.prog.globals[1]?).map (·.type) = some 62 := by kernel_rfl
theorem varN_of_laid {text : List UInt8} {rest : List (String × DataW Unit)} {W : World} (h : laidMet Tryz.prog (("loop.example/g01202/impl.errNoMember", .iface "*errors.errorString" (.ptr (.agg [.lit (.string text)]))) :: rest) W) :
    ∃ a, W.var? Tryz.prog "loop.example/g01202/impl.errNoMember" = some #[.iface 214 (.pointer (some a))] := by
  obtain ⟨a, s, hv, _⟩ := laid_sentinel h gN gNT Tryz.underlying62 row_errR Tryz.underlying214 Tryz.underlying239 rfl rfl Tryz.underlying9 (by kernel_rfl) (by kernel_rfl)
  exact ⟨a, hv⟩
theorem varR_of_laid {text : List UInt8} {rest : List (String × DataW Unit)} {W : World} (h : laidMet Tryz.prog (("loop.example/g01202/impl.errRefused", .iface "*errors.errorString" (.ptr (.agg [.lit (.string text)]))) :: rest) W) :
    ∃ a, W.var? Tryz.prog "loop.example/g01202/impl.errRefused" = some #[.iface 214 (.pointer (some a))] := by
  obtain ⟨a, s, hv, _⟩ := laid_sentinel h gR gRT Tryz.underlying62 row_errR Tryz.underlying214 Tryz.underlying239 rfl rfl Tryz.underlying9 (by kernel_rfl) (by kernel_rfl)
  exact ⟨a, hv⟩
theorem errN_of_laid {text : List UInt8} {rest : List (String × DataW Unit)} {W : World} (h : laidMet Tryz.prog (("loop.example/g01202/impl.errNoMember", .iface "*errors.errorString" (.ptr (.agg [.lit (.string text)]))) :: rest) W) :
    ∃ a, ErrN W a := by
  obtain ⟨a, hv⟩ := varN_of_laid h
  exact ⟨a, cell_of_var gN hv⟩
theorem varNR_of_laid {text text' : List UInt8} {rest : List (String × DataW Unit)} {W : World} (h : laidMet Tryz.prog (("loop.example/g01202/impl.errNoMember", .iface "*errors.errorString" (.ptr (.agg [.lit (.string text)]))) :: ("loop.example/g01202/impl.errRefused", .iface "*errors.errorString" (.ptr (.agg [.lit (.string text')]))) :: rest) W) :
    ∃ a b, W.var? Tryz.prog "loop.example/g01202/impl.errNoMember" = some #[.iface 214 (.pointer (some a))] ∧ W.var? Tryz.prog "loop.example/g01202/impl.errRefused" = some #[.iface 214 (.pointer (some b))] := by
  obtain ⟨a0, a1, s0, s1, c0, c1, t0, t1, hv0, hv1, _⟩ := laid_sentinels2 h gN gNT gR gRT Tryz.underlying62 row_errR Tryz.underlying214 Tryz.underlying239 rfl rfl Tryz.underlying9 (by kernel_rfl) (by kernel_rfl)
  exact ⟨a0, a1, hv0, hv1⟩
theorem varRN_of_laid {text text' : List UInt8} {rest : List (String × DataW Unit)} {W : World} (h : laidMet Tryz.prog (("loop.example/g01202/impl.errRefused", .iface "*errors.errorString" (.ptr (.agg [.lit (.string text)]))) :: ("loop.example/g01202/impl.errNoMember", .iface "*errors.errorString" (.ptr (.agg [.lit (.string text')]))) :: rest) W) :
    ∃ a b, W.var? Tryz.prog "loop.example/g01202/impl.errNoMember" = some #[.iface 214 (.pointer (some a))] ∧ W.var? Tryz.prog "loop.example/g01202/impl.errRefused" = some #[.iface 214 (.pointer (some b))] := by
  obtain ⟨a0, a1, s0, s1, c0, c1, t0, t1, hv0, hv1, _⟩ := laid_sentinels2 h gR gRT gN gNT Tryz.underlying62 row_errR Tryz.underlying214 Tryz.underlying239 rfl rfl Tryz.underlying9 (by kernel_rfl) (by kernel_rfl)
  exact ⟨a1, a0, hv1, hv0⟩
end Go.Proofs.YtmnmmjobplbflaaGreatDoor
