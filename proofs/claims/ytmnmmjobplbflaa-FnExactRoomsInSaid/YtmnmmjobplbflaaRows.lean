/-
  No cell of these rows narrows 'for every input' (looked for: loops, veiled, ifaces, maps, wideKeys, modest, calm, conditions, laid).
  DERIVED. THE GIVEN ROWS OF THIS SEAT. 6 by the template 'for every input the law returns true; each argument reads behind the call as it read before'; 0 by the template 'total and deterministic' (their statements: YtmnmmjobplbflaaTotals.lean).
  GIVEN WITH THE SEED: the statements are not yours to turn. If you find one false, say at which input.
  Laid BY PROGRAM, IN A SANDBOX (cutbox-rows.mjs): the forced cells as the released guide's own fill.sh prints them over the translation 1918169f68100b8a… (all of the seat's roots in one cut). By AI agents, Wed Nov 11 2026. No macro, syntax, notation, axiom, sorry.
-/
import Derived.Test.YtmnmmjobplbflaaChecked
import GoSem.Claim
import GoSem.ClaimJoined
import GoSem.ClaimMapViews
import Derived.JoinedTies
import Derived.KernelRfl
namespace Go.Proofs.Ytmnmmjobplbflaa
/- THE CELL 'sum', in the pinned program and in every row, IS THE sha256 OF THE DUMP (.gsa) THAT YtmnmmjobplbflaaProg.lean LOADS. Nothing in Lean hashes anything: it is a label: what it is worth is what the hold of that sum in a sandbox is worth. -/
noncomputable def Try.pinned : Pinned := { name := "ytmnmmjobplbflaa", sum := "1918169f68100b8aaeae0f1a545f8612870c9d592ea39b7c6f05e9e4300e5caa", checked := Try.checked }
namespace Rows
def none {H : Type} : Left H := { results := [], args := [] }

/-- 'laws.FnExactValidPost': WHATEVER THE INPUT: true; the input reads as it did. -/
def fnExactValidPostSpec : ChangeSpec := { name := "fnExactValidPost", fn := fun _ => fun
  | [d] => { results := [.lit (.bool true)], args := [d] }
  | _ => none }
def fnExactValidPostRow : OpenClaim := { program := "ytmnmmjobplbflaa", sum := "1918169f68100b8aaeae0f1a545f8612870c9d592ea39b7c6f05e9e4300e5caa", func := "loop.example/g01202/laws.FnExactValidPost", spec := "fnExactValidPost", apart := false }
def FnExactValidPostSaid : Prop := fnExactValidPostRow.holds Try.pinned (OpenSpec.ofChange fnExactValidPostSpec)

/-- ITS FALSE NEIGHBOUR: 'it returns false'. Refute it at one input. -/
def fnExactValidPostWrong : ChangeSpec := { name := "fnExactValidPost", fn := fun _ => fun
  | [d] => { results := [.lit (.bool false)], args := [d] }
  | _ => none }
def FnExactValidPostWrongFalsely : Prop := fnExactValidPostRow.holds Try.pinned (OpenSpec.ofChange fnExactValidPostWrong)

/-- 'laws.FnExactSamePost': WHATEVER THE INPUT: true; the input reads as it did. -/
def fnExactSamePostSpec : ChangeSpec := { name := "fnExactSamePost", fn := fun _ => fun
  | [d1, d2] => { results := [.lit (.bool true)], args := [d1, d2] }
  | _ => none }
def fnExactSamePostRow : OpenClaim := { program := "ytmnmmjobplbflaa", sum := "1918169f68100b8aaeae0f1a545f8612870c9d592ea39b7c6f05e9e4300e5caa", func := "loop.example/g01202/laws.FnExactSamePost", spec := "fnExactSamePost", unfollowed := true, recurses := true, apart := false }
def FnExactSamePostSaid : Prop := fnExactSamePostRow.holds Try.pinned (OpenSpec.ofChange fnExactSamePostSpec)

/-- ITS FALSE NEIGHBOUR: 'it returns false'. Refute it at one input. -/
def fnExactSamePostWrong : ChangeSpec := { name := "fnExactSamePost", fn := fun _ => fun
  | [d1, d2] => { results := [.lit (.bool false)], args := [d1, d2] }
  | _ => none }
def FnExactSamePostWrongFalsely : Prop := fnExactSamePostRow.holds Try.pinned (OpenSpec.ofChange fnExactSamePostWrong)

/-- 'laws.FnExactNewPost': WHATEVER THE INPUT: true; the input reads as it did. -/
def fnExactNewPostSpec : ChangeSpec := { name := "fnExactNewPost", fn := fun _ => fun
  | [d] => { results := [.lit (.bool true)], args := [d] }
  | _ => none }
def fnExactNewPostRow : OpenClaim := { program := "ytmnmmjobplbflaa", sum := "1918169f68100b8aaeae0f1a545f8612870c9d592ea39b7c6f05e9e4300e5caa", func := "loop.example/g01202/laws.FnExactNewPost", spec := "fnExactNewPost", apart := false }
def FnExactNewPostSaid : Prop := fnExactNewPostRow.holds Try.pinned (OpenSpec.ofChange fnExactNewPostSpec)

/-- ITS FALSE NEIGHBOUR: 'it returns false'. Refute it at one input. -/
def fnExactNewPostWrong : ChangeSpec := { name := "fnExactNewPost", fn := fun _ => fun
  | [d] => { results := [.lit (.bool false)], args := [d] }
  | _ => none }
def FnExactNewPostWrongFalsely : Prop := fnExactNewPostRow.holds Try.pinned (OpenSpec.ofChange fnExactNewPostWrong)

/-- 'laws.FnExactTokensOf': WHATEVER THE INPUT: true; the input reads as it did. -/
def fnExactTokensOfSpec : ChangeSpec := { name := "fnExactTokensOf", fn := fun _ => fun
  | [d1, d2] => { results := [.lit (.bool true)], args := [d1, d2] }
  | _ => none }
def fnExactTokensOfRow : OpenClaim := { program := "ytmnmmjobplbflaa", sum := "1918169f68100b8aaeae0f1a545f8612870c9d592ea39b7c6f05e9e4300e5caa", func := "loop.example/g01202/laws.FnExactTokensOf", spec := "fnExactTokensOf", apart := false }
def FnExactTokensOfSaid : Prop := fnExactTokensOfRow.holds Try.pinned (OpenSpec.ofChange fnExactTokensOfSpec)

/-- ITS FALSE NEIGHBOUR: 'it returns false'. Refute it at one input. -/
def fnExactTokensOfWrong : ChangeSpec := { name := "fnExactTokensOf", fn := fun _ => fun
  | [d1, d2] => { results := [.lit (.bool false)], args := [d1, d2] }
  | _ => none }
def FnExactTokensOfWrongFalsely : Prop := fnExactTokensOfRow.holds Try.pinned (OpenSpec.ofChange fnExactTokensOfWrong)

/-- 'laws.FnExactRoomsIn': WHATEVER THE INPUT: true; the input reads as it did. -/
def fnExactRoomsInSpec : ChangeSpec := { name := "fnExactRoomsIn", fn := fun _ => fun
  | [d] => { results := [.lit (.bool true)], args := [d] }
  | _ => none }
def fnExactRoomsInRow : OpenClaim := { program := "ytmnmmjobplbflaa", sum := "1918169f68100b8aaeae0f1a545f8612870c9d592ea39b7c6f05e9e4300e5caa", func := "loop.example/g01202/laws.FnExactRoomsIn", spec := "fnExactRoomsIn", recurses := true, apart := false }
def FnExactRoomsInSaid : Prop := fnExactRoomsInRow.holds Try.pinned (OpenSpec.ofChange fnExactRoomsInSpec)

/-- ITS FALSE NEIGHBOUR: 'it returns false'. Refute it at one input. -/
def fnExactRoomsInWrong : ChangeSpec := { name := "fnExactRoomsIn", fn := fun _ => fun
  | [d] => { results := [.lit (.bool false)], args := [d] }
  | _ => none }
def FnExactRoomsInWrongFalsely : Prop := fnExactRoomsInRow.holds Try.pinned (OpenSpec.ofChange fnExactRoomsInWrong)

/-- 'laws.FnExactLoadsOf': WHATEVER THE INPUT: true; the input reads as it did. -/
def fnExactLoadsOfSpec : ChangeSpec := { name := "fnExactLoadsOf", fn := fun _ => fun
  | [d] => { results := [.lit (.bool true)], args := [d] }
  | _ => none }
def fnExactLoadsOfRow : OpenClaim := { program := "ytmnmmjobplbflaa", sum := "1918169f68100b8aaeae0f1a545f8612870c9d592ea39b7c6f05e9e4300e5caa", func := "loop.example/g01202/laws.FnExactLoadsOf", spec := "fnExactLoadsOf", apart := false }
def FnExactLoadsOfSaid : Prop := fnExactLoadsOfRow.holds Try.pinned (OpenSpec.ofChange fnExactLoadsOfSpec)

/-- ITS FALSE NEIGHBOUR: 'it returns false'. Refute it at one input. -/
def fnExactLoadsOfWrong : ChangeSpec := { name := "fnExactLoadsOf", fn := fun _ => fun
  | [d] => { results := [.lit (.bool false)], args := [d] }
  | _ => none }
def FnExactLoadsOfWrongFalsely : Prop := fnExactLoadsOfRow.holds Try.pinned (OpenSpec.ofChange fnExactLoadsOfWrong)

/- THE SECOND FORM. 'bulk': how many values and letters a reading holds, each counted each time it is reached (what is shared counts as often as it is met; a slice's spare places count too). A statement '..UptoSaid' is the law's where the arguments, and the package variables that the reading takes, are together of bulk at most 1048576: NARROWER than '..Said'. Prove '..Said' where nothing that the law and all that it calls make is longer than what came in: it says more and counts as full. Else prove '..UptoSaid'. A law counts once. -/
mutual
def uptoBulk {H : Type} : DataW H → Nat
  | .lit (.string bytes) => bytes.length + 1
  | .lit _ => 1
  | .nil => 1
  | .ptr d => uptoBulk d + 1
  | .slice elems spare => uptoBulkAll elems + uptoBulkAll spare + 1
  | .agg parts => uptoBulkAll parts + 1
  | .iface _ d => uptoBulk d + 1
  | .map entries => uptoBulkEntries entries + 1
  | .held _ => 1
def uptoBulkAll {H : Type} : List (DataW H) → Nat
  | [] => 0
  | d :: r => uptoBulk d + uptoBulkAll r
def uptoBulkEntries {H : Type} : List (Lit × DataW H) → Nat
  | [] => 0
  | x :: r => uptoBulkEntry x + uptoBulkEntries r
def uptoBulkEntry {H : Type} : Lit × DataW H → Nat
  | (.string bytes, d) => bytes.length + uptoBulk d + 1
  | (_, d) => uptoBulk d + 1
 end
def uptoSmall : (H : Type) → List (DataW H) → Bool := fun _ ds => decide (uptoBulkAll ds ≤ 1048576)
def OpenSpec.upto (s : _root_.Go.ChangeSpec) : _root_.Go.OpenSpec := { _root_.Go.OpenSpec.ofChange s with cond := some uptoSmall }

/-- 'laws.FnExactValidPost', WHERE WHAT IT READS IS OF BULK AT MOST 1048576: true; the input reads as it did. -/
def fnExactValidPostUptoRow : OpenClaim := { program := "ytmnmmjobplbflaa", sum := "1918169f68100b8aaeae0f1a545f8612870c9d592ea39b7c6f05e9e4300e5caa", func := "loop.example/g01202/laws.FnExactValidPost", spec := "fnExactValidPost", apart := false, narrowed := true }
def FnExactValidPostUptoSaid : Prop := fnExactValidPostUptoRow.holds Try.pinned (OpenSpec.upto fnExactValidPostSpec)

/-- 'laws.FnExactSamePost', WHERE WHAT IT READS IS OF BULK AT MOST 1048576: true; the input reads as it did. -/
def fnExactSamePostUptoRow : OpenClaim := { program := "ytmnmmjobplbflaa", sum := "1918169f68100b8aaeae0f1a545f8612870c9d592ea39b7c6f05e9e4300e5caa", func := "loop.example/g01202/laws.FnExactSamePost", spec := "fnExactSamePost", unfollowed := true, recurses := true, apart := false, narrowed := true }
def FnExactSamePostUptoSaid : Prop := fnExactSamePostUptoRow.holds Try.pinned (OpenSpec.upto fnExactSamePostSpec)

/-- 'laws.FnExactNewPost', WHERE WHAT IT READS IS OF BULK AT MOST 1048576: true; the input reads as it did. -/
def fnExactNewPostUptoRow : OpenClaim := { program := "ytmnmmjobplbflaa", sum := "1918169f68100b8aaeae0f1a545f8612870c9d592ea39b7c6f05e9e4300e5caa", func := "loop.example/g01202/laws.FnExactNewPost", spec := "fnExactNewPost", apart := false, narrowed := true }
def FnExactNewPostUptoSaid : Prop := fnExactNewPostUptoRow.holds Try.pinned (OpenSpec.upto fnExactNewPostSpec)

/-- 'laws.FnExactTokensOf', WHERE WHAT IT READS IS OF BULK AT MOST 1048576: true; the input reads as it did. -/
def fnExactTokensOfUptoRow : OpenClaim := { program := "ytmnmmjobplbflaa", sum := "1918169f68100b8aaeae0f1a545f8612870c9d592ea39b7c6f05e9e4300e5caa", func := "loop.example/g01202/laws.FnExactTokensOf", spec := "fnExactTokensOf", apart := false, narrowed := true }
def FnExactTokensOfUptoSaid : Prop := fnExactTokensOfUptoRow.holds Try.pinned (OpenSpec.upto fnExactTokensOfSpec)

/-- 'laws.FnExactRoomsIn', WHERE WHAT IT READS IS OF BULK AT MOST 1048576: true; the input reads as it did. -/
def fnExactRoomsInUptoRow : OpenClaim := { program := "ytmnmmjobplbflaa", sum := "1918169f68100b8aaeae0f1a545f8612870c9d592ea39b7c6f05e9e4300e5caa", func := "loop.example/g01202/laws.FnExactRoomsIn", spec := "fnExactRoomsIn", recurses := true, apart := false, narrowed := true }
def FnExactRoomsInUptoSaid : Prop := fnExactRoomsInUptoRow.holds Try.pinned (OpenSpec.upto fnExactRoomsInSpec)

/-- 'laws.FnExactLoadsOf', WHERE WHAT IT READS IS OF BULK AT MOST 1048576: true; the input reads as it did. -/
def fnExactLoadsOfUptoRow : OpenClaim := { program := "ytmnmmjobplbflaa", sum := "1918169f68100b8aaeae0f1a545f8612870c9d592ea39b7c6f05e9e4300e5caa", func := "loop.example/g01202/laws.FnExactLoadsOf", spec := "fnExactLoadsOf", apart := false, narrowed := true }
def FnExactLoadsOfUptoSaid : Prop := fnExactLoadsOfUptoRow.holds Try.pinned (OpenSpec.upto fnExactLoadsOfSpec)

end Rows
end Go.Proofs.Ytmnmmjobplbflaa
