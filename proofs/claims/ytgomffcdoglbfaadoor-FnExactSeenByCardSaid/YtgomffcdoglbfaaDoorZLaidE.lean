import Derived.Test.YtgomffcdoglbfaaDoorChecked
import Derived.WalkKit
import Derived.ProofKit
import Derived.OpenShut
import Derived.ShutString
import Derived.ChangeOld
import Derived.Below
import Derived.Lib.Hide
import Derived.Stop.LaidErr
import Derived.Stop.LaidTwo
import Derived.LaidLaws
import Derived.Test.YtgomffcdoglbfaaDoorZSeenI
namespace Go.Proofs.YtgomffcdoglbfaaDoor
open Go.ChangeShapes Go.WideShapes Go.ChangeAt Go.RowKit
open Go.ChangeMaps (open_string shut_string)
set_option linter.unusedVariables false
theorem star_errR : "*" ++ "errors.errorString" = "*errors.errorString" := by decide
theorem row_errR (u : TypeId) (h : Tryd.prog.typeName? 3 u = some "*errors.errorString") : u = 77 :=
  typeName_ptr_named (nm := "errors.errorString") (by rw [star_errR]; kernel_rfl) (by kernel_rfl) (by decide) u (by rw [star_errR]; exact h)
theorem cell_of_var {P : Program} {W : World} {n : String} {g : Nat} {v : Value} (hg : P.globalNamed n = some g) (h : W.var? P n = some #[v]) : W.cell? ⟨g, 0, none⟩ = some v := by
  simp only [World.var?, hg, Option.bind_some] at h
  split at h
  · rename_i cs _ _ hh
    injection h with h
    subst h
    simp [World.cell?, hh]
  · cases h
theorem var_below {P : Program} {W W' : World} {n : String} {g : Nat} {cs : Array Value} (hg : P.globalNamed n = some g) (h : W.var? P n = some cs) (hb : Below W.heap.size W W') : W'.var? P n = some cs := by
  have hlt : g < W.heap.size := by
    simp only [World.var?, hg, Option.bind_some] at h
    split at h
    · rename_i hh
      exact (Array.getElem?_eq_some_iff.1 hh).1
    · cases h
  simp only [World.var?, hg, Option.bind_some] at h ⊢
  rw [hb.block g hlt]
  exact h
theorem gR : Tryd.prog.globalNamed "loop.example/g01202/impl.errRefused" = some 0 := by kernel_rfl
theorem gRT : (Tryd.prog.globals[0]?).map (·.type) = some 50 := by kernel_rfl
theorem varR_of_laid {text : List UInt8} {rest : List (String × DataW Unit)} {W : World} (h : laidMet Tryd.prog (("loop.example/g01202/impl.errRefused", .iface "*errors.errorString" (.ptr (.agg [.lit (.string text)]))) :: rest) W) :
    ∃ a, W.var? Tryd.prog "loop.example/g01202/impl.errRefused" = some #[.iface 77 (.pointer (some a))] := by
  obtain ⟨a, s, hv, _⟩ := laid_sentinel h gR gRT Tryd.underlying50 row_errR Tryd.underlying77 Tryd.underlying97 rfl rfl Tryd.underlying9 (by kernel_rfl) (by kernel_rfl)
  exact ⟨a, hv⟩
theorem refR_of_laid {text : List UInt8} {rest : List (String × DataW Unit)} {W : World} (h : laidMet Tryd.prog (("loop.example/g01202/impl.errRefused", .iface "*errors.errorString" (.ptr (.agg [.lit (.string text)]))) :: rest) W) :
    ∃ a, RefR W a := by
  obtain ⟨a, hv⟩ := varR_of_laid h
  exact ⟨a, cell_of_var gR hv⟩
end Go.Proofs.YtgomffcdoglbfaaDoor
