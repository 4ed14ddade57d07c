import Derived.Test.YtbamhnbmddopgaaDoorChecked
import Derived.WalkKit
import Derived.ProofKit
import Derived.OpenShut
import Derived.ShutString
import Derived.ChangeOld
import Derived.Below
import Derived.Lib.Hide
import Derived.Stop.LaidErr
import Derived.LaidLaws
import Derived.Test.YtbamhnbmddopgaaDoorRDecI
namespace Go.Proofs.YtbamhnbmddopgaaDoor
open Go.ChangeShapes Go.WideShapes Go.ChangeAt Go.RowKit
open Go.ChangeMaps (open_string shut_string)
set_option linter.unusedVariables false
theorem pow10_of_laid {x y : String × DataW Unit} {rest : List (String × DataW Unit)} {W : World} (h : laidMet Tryd.prog (x :: y :: ("internal/strconv.uint64pow10", Lib.tabData .u64 Lib.pow10Tab) :: rest) W) : Pow10 W := by
  obtain ⟨ps, ⟨g0, t0, cs0, f0, p0, q0, hg0, ht0, hv0, hd0, ⟨g1, t1, cs1, f1, p1, q1, hg1, ht1, hv1, hd1, ⟨g2, t2, cs2, f2, p2, q2, hg2, ht2, hv2, hd2, _, _⟩, _⟩, _⟩, _⟩ := h
  obtain ⟨g, hg⟩ : ∃ g, Tryd.prog.globalNamed "internal/strconv.uint64pow10" = some g := ⟨_, hg2⟩
  have hty : ∃ t e n, (Tryd.prog.globals[g]?).map (·.type) = some t ∧ Tryd.prog.underlying t = some (.array n e) ∧ Tryd.prog.underlying e = some (.int .u64) ∧ Tryd.prog.cellsOf e = 1 ∧ Tryd.prog.cellsOf t = n := by
    have : g = (Tryd.prog.globalNamed "internal/strconv.uint64pow10").getD 0 := by rw [hg]; rfl
    subst this
    exact ⟨166, 82, 20, by kernel_rfl, by kernel_rfl, by kernel_rfl, by kernel_rfl, by kernel_rfl⟩
  obtain ⟨t, e, n, hty, ht, he, hce, hct⟩ := hty
  obtain rfl := Option.some.inj (hg.symm.trans hg2)
  obtain rfl := Option.some.inj (hty.symm.trans ht2)
  unfold Pow10 Lib.TabIs
  rw [hv2, ← Lib.cells_of_tab ht he hce hct hd2]
theorem star_err : "*" ++ "errors.errorString" = "*errors.errorString" := by decide
theorem row_err (u : TypeId) (h : Tryd.prog.typeName? 3 u = some "*errors.errorString") : u = 162 :=
  typeName_ptr_named (nm := "errors.errorString") (by rw [star_err]; kernel_rfl) (by kernel_rfl) (by decide) u (by rw [star_err]; exact h)
theorem syntax_of_laid {text : List UInt8} {rest : List (String × DataW Unit)} {W : World} (h : laidMet Tryd.prog (("strconv.ErrSyntax", .iface "*errors.errorString" (.ptr (.agg [.lit (.string text)]))) :: rest) W) :
    ∃ tp p, W.var? Tryd.prog "strconv.ErrSyntax" = some #[.iface tp p] := by
  obtain ⟨a, s, hv, _⟩ := laid_sentinel h Tryd.laysC174.m15 (show (Tryd.prog.globals[Tryd.laysC174_ren.g 15]?).map (·.type) = some 69 by kernel_rfl) Tryd.underlying69 row_err Tryd.underlying162 Tryd.underlying164 rfl rfl Tryd.underlying9 (by kernel_rfl) (by kernel_rfl)
  exact ⟨_, _, hv⟩
theorem range_of_laid {text : List UInt8} {rest : List (String × DataW Unit)} {W : World} (h : laidMet Tryd.prog (("strconv.ErrRange", .iface "*errors.errorString" (.ptr (.agg [.lit (.string text)]))) :: rest) W) :
    ∃ tp p, W.var? Tryd.prog "strconv.ErrRange" = some #[.iface tp p] := by
  obtain ⟨a, s, hv, _⟩ := laid_sentinel h Tryd.laysC174.m16 (show (Tryd.prog.globals[Tryd.laysC174_ren.g 16]?).map (·.type) = some 69 by kernel_rfl) Tryd.underlying69 row_err Tryd.underlying162 Tryd.underlying164 rfl rfl Tryd.underlying9 (by kernel_rfl) (by kernel_rfl)
  exact ⟨_, _, hv⟩
theorem parse_bd (l : List UInt8) (v : Int) (h : Lib.parseIntB 64 l = .ok v) : -9223372036854775808 ≤ v ∧ v ≤ 9223372036854775807 := by
  unfold Lib.parseIntB at h
  cases l with
  | nil => cases h
  | cons c r =>
    simp only at h
    cases hq : Lib.parseUintB 64 (if c.toNat = 43 ∨ c.toNat = 45 then r else c :: r) with
    | ok u =>
      rw [hq] at h
      simp only at h
      split at h
      · cases h
      · rename_i h1
        split at h
        · cases h
        · rename_i h2
          injection h with h
          subst h
          split
          · rename_i h3
            have : ¬ 2 ^ (64 - 1) < u := fun x => h2 ⟨h3, x⟩
            have : (2 : Nat) ^ (64 - 1) = 9223372036854775808 := by decide
            omega
          · rename_i h3
            have : ¬ 2 ^ (64 - 1) ≤ u := fun x => h1 ⟨h3, x⟩
            have : (2 : Nat) ^ (64 - 1) = 9223372036854775808 := by decide
            omega
    | _ => rw [hq] at h; cases h
theorem impl_ReadDecimal_yes (n : Int) (s : ByteArray) (h0 : -1000000000 ≤ n) (h1 : n ≤ 1000000000) (hs : strOfNums (decL n) = s) (w : World) (hL : Laid w) :
    Calls Tryd.prog 21 #[.string s] w fun e w' => RdYes w n e w' := by
  have hl : s.data.toList = Lib.itoa n := by rw [← hs, decL_str]
  have hlen := itoa_len n h0 h1
  have hsz : s.size = (Lib.itoa n).length := by rw [← hl]; simp
  exact (impl_ReadDecimal_ok n s (by omega) (by rw [hl]; exact parseInt_itoa n h0 h1) (by omega) (by omega) w hL).mono fun e w' hr => hr.1 ⟨⟨h0, h1⟩, hs⟩
theorem impl_ReadDecimal_no (s : ByteArray) (hs : s.size ≤ 1048576) (hno : ∀ n : Int, -1000000000 ≤ n → n ≤ 1000000000 → strOfNums (decL n) ≠ s) (w : World) (hL : Laid w) :
    Calls Tryd.prog 21 #[.string s] w fun e w' => RdNo w e w' := by
  by_cases h : ∃ v, Lib.parseIntB 64 s.data.toList = .ok v
  · obtain ⟨v, hv⟩ := h
    obtain ⟨b0, b1⟩ := parse_bd _ _ hv
    exact (impl_ReadDecimal_ok v s hs hv b0 b1 w hL).mono fun e w' hr => hr.2 fun ⟨⟨h0, h1⟩, he⟩ => hno _ h0 h1 he
  · exact impl_ReadDecimal_err s hs (fun v hv => h ⟨v, hv⟩) w hL
end Go.Proofs.YtbamhnbmddopgaaDoor
