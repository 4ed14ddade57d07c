/-
  No cell of these rows narrows 'for every input' (looked for: loops, veiled, ifaces, maps, wideKeys, modest, calm, conditions, laid).
  DERIVED. THE GIVEN ROWS OF THIS SEAT. 5 by the template 'for every input the law returns true; each argument reads behind the call as it read before'; 0 by the template 'total and deterministic' (their statements: YtkidgfnbllnbcaaTotals.lean).
  GIVEN WITH THE SEED: the statements are not yours to turn. If you find one false, say at which input.
  Laid BY PROGRAM, IN A SANDBOX (cutbox-rows.mjs): the forced cells as the released guide's own fill.sh prints them over the translation e1bf624f92c85dcf… (all of the seat's roots in one cut). By AI agents, Wed Nov 11 2026. No macro, syntax, notation, axiom, sorry.
-/
import Derived.Test.YtkidgfnbllnbcaaChecked
import GoSem.Claim
import GoSem.ClaimJoined
import GoSem.ClaimMapViews
import Derived.JoinedTies
import Derived.KernelRfl
namespace Go.Proofs.Ytkidgfnbllnbcaa
/- THE CELL 'sum', in the pinned program and in every row, IS THE sha256 OF THE DUMP (.gsa) THAT YtkidgfnbllnbcaaProg.lean LOADS. Nothing in Lean hashes anything: it is a label: what it is worth is what the hold of that sum in a sandbox is worth. -/
noncomputable def Try.pinned : Pinned := { name := "ytkidgfnbllnbcaa", sum := "e1bf624f92c85dcf45966e9d1d7b21b17a115013b4de5101a599041a2453baa1", checked := Try.checked }
namespace Rows
def none {H : Type} : Left H := { results := [], args := [] }

/-- 'laws.FnExactValidRoom': WHATEVER THE INPUT: true; the input reads as it did. -/
def fnExactValidRoomSpec : ChangeSpec := { name := "fnExactValidRoom", fn := fun _ => fun
  | [d] => { results := [.lit (.bool true)], args := [d] }
  | _ => none }
def fnExactValidRoomRow : OpenClaim := { program := "ytkidgfnbllnbcaa", sum := "e1bf624f92c85dcf45966e9d1d7b21b17a115013b4de5101a599041a2453baa1", func := "loop.example/g01202/laws.FnExactValidRoom", spec := "fnExactValidRoom", unfollowed := true, recurses := true, apart := false }
def FnExactValidRoomSaid : Prop := fnExactValidRoomRow.holds Try.pinned (OpenSpec.ofChange fnExactValidRoomSpec)

/-- ITS FALSE NEIGHBOUR: 'it returns false'. Refute it at one input. -/
def fnExactValidRoomWrong : ChangeSpec := { name := "fnExactValidRoom", fn := fun _ => fun
  | [d] => { results := [.lit (.bool false)], args := [d] }
  | _ => none }
def FnExactValidRoomWrongFalsely : Prop := fnExactValidRoomRow.holds Try.pinned (OpenSpec.ofChange fnExactValidRoomWrong)

/-- 'laws.FnExactSameRoom': WHATEVER THE INPUT: true; the input reads as it did. -/
def fnExactSameRoomSpec : ChangeSpec := { name := "fnExactSameRoom", fn := fun _ => fun
  | [d1, d2] => { results := [.lit (.bool true)], args := [d1, d2] }
  | _ => none }
def fnExactSameRoomRow : OpenClaim := { program := "ytkidgfnbllnbcaa", sum := "e1bf624f92c85dcf45966e9d1d7b21b17a115013b4de5101a599041a2453baa1", func := "loop.example/g01202/laws.FnExactSameRoom", spec := "fnExactSameRoom", apart := false }
def FnExactSameRoomSaid : Prop := fnExactSameRoomRow.holds Try.pinned (OpenSpec.ofChange fnExactSameRoomSpec)

/-- ITS FALSE NEIGHBOUR: 'it returns false'. Refute it at one input. -/
def fnExactSameRoomWrong : ChangeSpec := { name := "fnExactSameRoom", fn := fun _ => fun
  | [d1, d2] => { results := [.lit (.bool false)], args := [d1, d2] }
  | _ => none }
def FnExactSameRoomWrongFalsely : Prop := fnExactSameRoomRow.holds Try.pinned (OpenSpec.ofChange fnExactSameRoomWrong)

/-- 'laws.FnExactNewRoom': WHATEVER THE INPUT: true; the input reads as it did. -/
def fnExactNewRoomSpec : ChangeSpec := { name := "fnExactNewRoom", fn := fun _ => fun
  | [d1, d2, d3] => { results := [.lit (.bool true)], args := [d1, d2, d3] }
  | _ => none }
def fnExactNewRoomRow : OpenClaim := { program := "ytkidgfnbllnbcaa", sum := "e1bf624f92c85dcf45966e9d1d7b21b17a115013b4de5101a599041a2453baa1", func := "loop.example/g01202/laws.FnExactNewRoom", spec := "fnExactNewRoom", unfollowed := true, recurses := true, apart := false }
def FnExactNewRoomSaid : Prop := fnExactNewRoomRow.holds Try.pinned (OpenSpec.ofChange fnExactNewRoomSpec)

/-- ITS FALSE NEIGHBOUR: 'it returns false'. Refute it at one input. -/
def fnExactNewRoomWrong : ChangeSpec := { name := "fnExactNewRoom", fn := fun _ => fun
  | [d1, d2, d3] => { results := [.lit (.bool false)], args := [d1, d2, d3] }
  | _ => none }
def FnExactNewRoomWrongFalsely : Prop := fnExactNewRoomRow.holds Try.pinned (OpenSpec.ofChange fnExactNewRoomWrong)

/-- 'laws.FnExactRoleMay': WHATEVER THE INPUT: true; the input reads as it did. -/
def fnExactRoleMaySpec : ChangeSpec := { name := "fnExactRoleMay", fn := fun _ => fun
  | [d1, d2] => { results := [.lit (.bool true)], args := [d1, d2] }
  | _ => none }
def fnExactRoleMayRow : OpenClaim := { program := "ytkidgfnbllnbcaa", sum := "e1bf624f92c85dcf45966e9d1d7b21b17a115013b4de5101a599041a2453baa1", func := "loop.example/g01202/laws.FnExactRoleMay", spec := "fnExactRoleMay", apart := false }
def FnExactRoleMaySaid : Prop := fnExactRoleMayRow.holds Try.pinned (OpenSpec.ofChange fnExactRoleMaySpec)

/-- ITS FALSE NEIGHBOUR: 'it returns false'. Refute it at one input. -/
def fnExactRoleMayWrong : ChangeSpec := { name := "fnExactRoleMay", fn := fun _ => fun
  | [d1, d2] => { results := [.lit (.bool false)], args := [d1, d2] }
  | _ => none }
def FnExactRoleMayWrongFalsely : Prop := fnExactRoleMayRow.holds Try.pinned (OpenSpec.ofChange fnExactRoleMayWrong)

/-- 'laws.FnExactCountRoles': WHATEVER THE INPUT: true; the input reads as it did. -/
def fnExactCountRolesSpec : ChangeSpec := { name := "fnExactCountRoles", fn := fun _ => fun
  | [d] => { results := [.lit (.bool true)], args := [d] }
  | _ => none }
def fnExactCountRolesRow : OpenClaim := { program := "ytkidgfnbllnbcaa", sum := "e1bf624f92c85dcf45966e9d1d7b21b17a115013b4de5101a599041a2453baa1", func := "loop.example/g01202/laws.FnExactCountRoles", spec := "fnExactCountRoles", unfollowed := true, recurses := true, apart := false }
def FnExactCountRolesSaid : Prop := fnExactCountRolesRow.holds Try.pinned (OpenSpec.ofChange fnExactCountRolesSpec)

/-- ITS FALSE NEIGHBOUR: 'it returns false'. Refute it at one input. -/
def fnExactCountRolesWrong : ChangeSpec := { name := "fnExactCountRoles", fn := fun _ => fun
  | [d] => { results := [.lit (.bool false)], args := [d] }
  | _ => none }
def FnExactCountRolesWrongFalsely : Prop := fnExactCountRolesRow.holds Try.pinned (OpenSpec.ofChange fnExactCountRolesWrong)

/- THE SECOND FORM. 'bulk': how many values and letters a reading holds, each counted each time it is reached (what is shared counts as often as it is met; a slice's spare places count too). A statement '..UptoSaid' is the law's where the arguments, and the package variables that the reading takes, are together of bulk at most 1048576: NARROWER than '..Said'. Prove '..Said' where nothing that the law and all that it calls make is longer than what came in: it says more and counts as full. Else prove '..UptoSaid'. A law counts once. -/
mutual
def uptoBulk {H : Type} : DataW H → Nat
  | .lit (.string bytes) => bytes.length + 1
  | .lit _ => 1
  | .nil => 1
  | .ptr d => uptoBulk d + 1
  | .slice elems spare => uptoBulkAll elems + uptoBulkAll spare + 1
  | .agg parts => uptoBulkAll parts + 1
  | .iface _ d => uptoBulk d + 1
  | .map entries => uptoBulkEntries entries + 1
  | .held _ => 1
def uptoBulkAll {H : Type} : List (DataW H) → Nat
  | [] => 0
  | d :: r => uptoBulk d + uptoBulkAll r
def uptoBulkEntries {H : Type} : List (Lit × DataW H) → Nat
  | [] => 0
  | x :: r => uptoBulkEntry x + uptoBulkEntries r
def uptoBulkEntry {H : Type} : Lit × DataW H → Nat
  | (.string bytes, d) => bytes.length + uptoBulk d + 1
  | (_, d) => uptoBulk d + 1
 end
def uptoSmall : (H : Type) → List (DataW H) → Bool := fun _ ds => decide (uptoBulkAll ds ≤ 1048576)
def OpenSpec.upto (s : _root_.Go.ChangeSpec) : _root_.Go.OpenSpec := { _root_.Go.OpenSpec.ofChange s with cond := some uptoSmall }

/-- 'laws.FnExactValidRoom', WHERE WHAT IT READS IS OF BULK AT MOST 1048576: true; the input reads as it did. -/
def fnExactValidRoomUptoRow : OpenClaim := { program := "ytkidgfnbllnbcaa", sum := "e1bf624f92c85dcf45966e9d1d7b21b17a115013b4de5101a599041a2453baa1", func := "loop.example/g01202/laws.FnExactValidRoom", spec := "fnExactValidRoom", unfollowed := true, recurses := true, apart := false, narrowed := true }
def FnExactValidRoomUptoSaid : Prop := fnExactValidRoomUptoRow.holds Try.pinned (OpenSpec.upto fnExactValidRoomSpec)

/-- 'laws.FnExactSameRoom', WHERE WHAT IT READS IS OF BULK AT MOST 1048576: true; the input reads as it did. -/
def fnExactSameRoomUptoRow : OpenClaim := { program := "ytkidgfnbllnbcaa", sum := "e1bf624f92c85dcf45966e9d1d7b21b17a115013b4de5101a599041a2453baa1", func := "loop.example/g01202/laws.FnExactSameRoom", spec := "fnExactSameRoom", apart := false, narrowed := true }
def FnExactSameRoomUptoSaid : Prop := fnExactSameRoomUptoRow.holds Try.pinned (OpenSpec.upto fnExactSameRoomSpec)

/-- 'laws.FnExactNewRoom', WHERE WHAT IT READS IS OF BULK AT MOST 1048576: true; the input reads as it did. -/
def fnExactNewRoomUptoRow : OpenClaim := { program := "ytkidgfnbllnbcaa", sum := "e1bf624f92c85dcf45966e9d1d7b21b17a115013b4de5101a599041a2453baa1", func := "loop.example/g01202/laws.FnExactNewRoom", spec := "fnExactNewRoom", unfollowed := true, recurses := true, apart := false, narrowed := true }
def FnExactNewRoomUptoSaid : Prop := fnExactNewRoomUptoRow.holds Try.pinned (OpenSpec.upto fnExactNewRoomSpec)

/-- 'laws.FnExactRoleMay', WHERE WHAT IT READS IS OF BULK AT MOST 1048576: true; the input reads as it did. -/
def fnExactRoleMayUptoRow : OpenClaim := { program := "ytkidgfnbllnbcaa", sum := "e1bf624f92c85dcf45966e9d1d7b21b17a115013b4de5101a599041a2453baa1", func := "loop.example/g01202/laws.FnExactRoleMay", spec := "fnExactRoleMay", apart := false, narrowed := true }
def FnExactRoleMayUptoSaid : Prop := fnExactRoleMayUptoRow.holds Try.pinned (OpenSpec.upto fnExactRoleMaySpec)

/-- 'laws.FnExactCountRoles', WHERE WHAT IT READS IS OF BULK AT MOST 1048576: true; the input reads as it did. -/
def fnExactCountRolesUptoRow : OpenClaim := { program := "ytkidgfnbllnbcaa", sum := "e1bf624f92c85dcf45966e9d1d7b21b17a115013b4de5101a599041a2453baa1", func := "loop.example/g01202/laws.FnExactCountRoles", spec := "fnExactCountRoles", unfollowed := true, recurses := true, apart := false, narrowed := true }
def FnExactCountRolesUptoSaid : Prop := fnExactCountRolesUptoRow.holds Try.pinned (OpenSpec.upto fnExactCountRolesSpec)

end Rows
end Go.Proofs.Ytkidgfnbllnbcaa
