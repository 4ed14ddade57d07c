import Derived.Test.YtmdoddikaaaamaaChecked
import Derived.WalkKit
import Derived.ProofKit
import Derived.OpenShut
import Derived.ShutString
import Derived.ChangeOld
import Derived.Below
import Derived.Lib.Hide
import Derived.RegionTactic
import Derived.ChangeAlike
import Derived.BigRegion
import Derived.Deep.RegionHeld3
import Derived.Deep.QuietTactic
import Derived.BigQuiet
import Derived.IntWalk
import Derived.WalkSpells
import Derived.WalkLawsBesides
import Derived.Laws.IdiomStrings
import Derived.Laws.Cover3
import Derived.Test.YtmdoddikaaaamaaReadHexS
import Derived.Test.YtmdoddikaaaamaaHexTextC
import Derived.Test.YtmdoddikaaaamaaIsMembersC
namespace Go.Proofs.Ytmdoddikaaaamaa
open Go.ChangeShapes Go.WideShapes Go.ChangeAt Go.RowKit
open Go.ChangeMaps (open_string shut_string)
set_option linter.unusedVariables false
theorem bits_two16 : ∀ x y : Fin 16, bits BinOp.or IntKind.u8 ((x.1 : Int) * 16 % 256) (y.1 : Int) = 16 * (x.1 : Int) + (y.1 : Int) := by decide
theorem bits_u8 (a b : Int) : 0 ≤ bits BinOp.or IntKind.u8 a b ∧ bits BinOp.or IntKind.u8 a b < 256 := by
  have h1 := bits_lo_u8 BinOp.or a b
  have h2 := bits_hi_u8 BinOp.or a b
  omega
theorem bits_two (a b : Int) (a0 : 0 ≤ a) (a1 : a < 256) (b0 : 0 ≤ b) (b1 : b < 256) (x : 0 ≤ nib a) (y : 0 ≤ nib b) :
    bits BinOp.or IntKind.u8 (hv a * 16 % 256) (hv b) = 16 * nib a + nib b := by
  have ha := nib_bd a
  have hb := nib_bd b
  rw [hv_nib a a0 a1 x, hv_nib b b0 b1 y]
  have := bits_two16 ⟨(nib a).toNat, by omega⟩ ⟨(nib b).toNat, by omega⟩
  simp only at this
  rw [Int.toNat_of_nonneg x, Int.toNat_of_nonneg y] at this
  exact this
end Go.Proofs.Ytmdoddikaaaamaa
