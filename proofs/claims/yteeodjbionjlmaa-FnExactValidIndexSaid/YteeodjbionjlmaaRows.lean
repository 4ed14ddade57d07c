/-
  No cell of these rows narrows 'for every input' (looked for: loops, veiled, ifaces, maps, wideKeys, modest, calm, conditions, laid).
  DERIVED. THE GIVEN ROWS OF THIS SEAT. 12 by the template 'for every input the law returns true; each argument reads behind the call as it read before'; 0 by the template 'total and deterministic' (their statements: YteeodjbionjlmaaTotals.lean).
  GIVEN WITH THE SEED: the statements are not yours to turn. If you find one false, say at which input.
  Laid BY PROGRAM, IN A SANDBOX (cutbox-rows.mjs): the forced cells as the released guide's own fill.sh prints them over the translation 9fe359c8ca121f1c… (all of the seat's roots in one cut). By AI agents, Wed Nov 11 2026. No macro, syntax, notation, axiom, sorry.
-/
import Derived.Test.YteeodjbionjlmaaChecked
import GoSem.Claim
import GoSem.ClaimJoined
import GoSem.ClaimMapViews
import Derived.JoinedTies
import Derived.KernelRfl
namespace Go.Proofs.Yteeodjbionjlmaa
/- THE CELL 'sum', in the pinned program and in every row, IS THE sha256 OF THE DUMP (.gsa) THAT YteeodjbionjlmaaProg.lean LOADS. Nothing in Lean hashes anything: it is a label: what it is worth is what the hold of that sum in a sandbox is worth. -/
noncomputable def Try.pinned : Pinned := { name := "yteeodjbionjlmaa", sum := "9fe359c8ca121f1ca2de068bbae7801b560983155df29b6ebb5e7b6448e894ad", checked := Try.checked }
namespace Rows
def none {H : Type} : Left H := { results := [], args := [] }

/-- 'laws.FnExactWordsOf': WHATEVER THE INPUT: true; the input reads as it did. -/
def fnExactWordsOfSpec : ChangeSpec := { name := "fnExactWordsOf", fn := fun _ => fun
  | [d] => { results := [.lit (.bool true)], args := [d] }
  | _ => none }
def fnExactWordsOfRow : OpenClaim := { program := "yteeodjbionjlmaa", sum := "9fe359c8ca121f1ca2de068bbae7801b560983155df29b6ebb5e7b6448e894ad", func := "loop.example/g01202/laws.FnExactWordsOf", spec := "fnExactWordsOf", unfollowed := true, recurses := true, apart := false }
def FnExactWordsOfSaid : Prop := fnExactWordsOfRow.holds Try.pinned (OpenSpec.ofChange fnExactWordsOfSpec)

/-- ITS FALSE NEIGHBOUR: 'it returns false'. Refute it at one input. -/
def fnExactWordsOfWrong : ChangeSpec := { name := "fnExactWordsOf", fn := fun _ => fun
  | [d] => { results := [.lit (.bool false)], args := [d] }
  | _ => none }
def FnExactWordsOfWrongFalsely : Prop := fnExactWordsOfRow.holds Try.pinned (OpenSpec.ofChange fnExactWordsOfWrong)

/-- 'laws.FnExactHasBadWord': WHATEVER THE INPUT: true; the input reads as it did. -/
def fnExactHasBadWordSpec : ChangeSpec := { name := "fnExactHasBadWord", fn := fun _ => fun
  | [d1, d2] => { results := [.lit (.bool true)], args := [d1, d2] }
  | _ => none }
def fnExactHasBadWordRow : OpenClaim := { program := "yteeodjbionjlmaa", sum := "9fe359c8ca121f1ca2de068bbae7801b560983155df29b6ebb5e7b6448e894ad", func := "loop.example/g01202/laws.FnExactHasBadWord", spec := "fnExactHasBadWord", unfollowed := true, recurses := true, apart := false }
def FnExactHasBadWordSaid : Prop := fnExactHasBadWordRow.holds Try.pinned (OpenSpec.ofChange fnExactHasBadWordSpec)

/-- ITS FALSE NEIGHBOUR: 'it returns false'. Refute it at one input. -/
def fnExactHasBadWordWrong : ChangeSpec := { name := "fnExactHasBadWord", fn := fun _ => fun
  | [d1, d2] => { results := [.lit (.bool false)], args := [d1, d2] }
  | _ => none }
def FnExactHasBadWordWrongFalsely : Prop := fnExactHasBadWordRow.holds Try.pinned (OpenSpec.ofChange fnExactHasBadWordWrong)

/-- 'laws.FnExactBadWordsIn': WHATEVER THE INPUT: true; the input reads as it did. -/
def fnExactBadWordsInSpec : ChangeSpec := { name := "fnExactBadWordsIn", fn := fun _ => fun
  | [d1, d2] => { results := [.lit (.bool true)], args := [d1, d2] }
  | _ => none }
def fnExactBadWordsInRow : OpenClaim := { program := "yteeodjbionjlmaa", sum := "9fe359c8ca121f1ca2de068bbae7801b560983155df29b6ebb5e7b6448e894ad", func := "loop.example/g01202/laws.FnExactBadWordsIn", spec := "fnExactBadWordsIn", unfollowed := true, recurses := true, apart := false }
def FnExactBadWordsInSaid : Prop := fnExactBadWordsInRow.holds Try.pinned (OpenSpec.ofChange fnExactBadWordsInSpec)

/-- ITS FALSE NEIGHBOUR: 'it returns false'. Refute it at one input. -/
def fnExactBadWordsInWrong : ChangeSpec := { name := "fnExactBadWordsIn", fn := fun _ => fun
  | [d1, d2] => { results := [.lit (.bool false)], args := [d1, d2] }
  | _ => none }
def FnExactBadWordsInWrongFalsely : Prop := fnExactBadWordsInRow.holds Try.pinned (OpenSpec.ofChange fnExactBadWordsInWrong)

/-- 'laws.FnExactCensorText': WHATEVER THE INPUT: true; the input reads as it did. -/
def fnExactCensorTextSpec : ChangeSpec := { name := "fnExactCensorText", fn := fun _ => fun
  | [d1, d2] => { results := [.lit (.bool true)], args := [d1, d2] }
  | _ => none }
def fnExactCensorTextRow : OpenClaim := { program := "yteeodjbionjlmaa", sum := "9fe359c8ca121f1ca2de068bbae7801b560983155df29b6ebb5e7b6448e894ad", func := "loop.example/g01202/laws.FnExactCensorText", spec := "fnExactCensorText", inPlace := ["internal/abi.NoEscape", "internal/bytealg.MakeNoZero"], unfollowed := true, recurses := true, apart := false }
def FnExactCensorTextSaid : Prop := fnExactCensorTextRow.holds Try.pinned (OpenSpec.ofChange fnExactCensorTextSpec)

/-- ITS FALSE NEIGHBOUR: 'it returns false'. Refute it at one input. -/
def fnExactCensorTextWrong : ChangeSpec := { name := "fnExactCensorText", fn := fun _ => fun
  | [d1, d2] => { results := [.lit (.bool false)], args := [d1, d2] }
  | _ => none }
def FnExactCensorTextWrongFalsely : Prop := fnExactCensorTextRow.holds Try.pinned (OpenSpec.ofChange fnExactCensorTextWrong)

/-- 'laws.FnExactMarkWords': WHATEVER THE INPUT: true; the input reads as it did. -/
def fnExactMarkWordsSpec : ChangeSpec := { name := "fnExactMarkWords", fn := fun _ => fun
  | [d1, d2] => { results := [.lit (.bool true)], args := [d1, d2] }
  | _ => none }
def fnExactMarkWordsRow : OpenClaim := { program := "yteeodjbionjlmaa", sum := "9fe359c8ca121f1ca2de068bbae7801b560983155df29b6ebb5e7b6448e894ad", func := "loop.example/g01202/laws.FnExactMarkWords", spec := "fnExactMarkWords", inPlace := ["internal/abi.NoEscape"], unfollowed := true, recurses := true, apart := false }
def FnExactMarkWordsSaid : Prop := fnExactMarkWordsRow.holds Try.pinned (OpenSpec.ofChange fnExactMarkWordsSpec)

/-- ITS FALSE NEIGHBOUR: 'it returns false'. Refute it at one input. -/
def fnExactMarkWordsWrong : ChangeSpec := { name := "fnExactMarkWords", fn := fun _ => fun
  | [d1, d2] => { results := [.lit (.bool false)], args := [d1, d2] }
  | _ => none }
def FnExactMarkWordsWrongFalsely : Prop := fnExactMarkWordsRow.holds Try.pinned (OpenSpec.ofChange fnExactMarkWordsWrong)

/-- 'laws.FnExactSnippetOf': WHATEVER THE INPUT: true; the input reads as it did. -/
def fnExactSnippetOfSpec : ChangeSpec := { name := "fnExactSnippetOf", fn := fun _ => fun
  | [d1, d2, d3] => { results := [.lit (.bool true)], args := [d1, d2, d3] }
  | _ => none }
def fnExactSnippetOfRow : OpenClaim := { program := "yteeodjbionjlmaa", sum := "9fe359c8ca121f1ca2de068bbae7801b560983155df29b6ebb5e7b6448e894ad", func := "loop.example/g01202/laws.FnExactSnippetOf", spec := "fnExactSnippetOf", unfollowed := true, recurses := true, apart := false }
def FnExactSnippetOfSaid : Prop := fnExactSnippetOfRow.holds Try.pinned (OpenSpec.ofChange fnExactSnippetOfSpec)

/-- ITS FALSE NEIGHBOUR: 'it returns false'. Refute it at one input. -/
def fnExactSnippetOfWrong : ChangeSpec := { name := "fnExactSnippetOf", fn := fun _ => fun
  | [d1, d2, d3] => { results := [.lit (.bool false)], args := [d1, d2, d3] }
  | _ => none }
def FnExactSnippetOfWrongFalsely : Prop := fnExactSnippetOfRow.holds Try.pinned (OpenSpec.ofChange fnExactSnippetOfWrong)

/-- 'laws.FnExactPointsFor': WHATEVER THE INPUT: true; the input reads as it did. -/
def fnExactPointsForSpec : ChangeSpec := { name := "fnExactPointsFor", fn := fun _ => fun
  | [d1, d2, d3] => { results := [.lit (.bool true)], args := [d1, d2, d3] }
  | _ => none }
def fnExactPointsForRow : OpenClaim := { program := "yteeodjbionjlmaa", sum := "9fe359c8ca121f1ca2de068bbae7801b560983155df29b6ebb5e7b6448e894ad", func := "loop.example/g01202/laws.FnExactPointsFor", spec := "fnExactPointsFor", unfollowed := true, recurses := true, apart := false }
def FnExactPointsForSaid : Prop := fnExactPointsForRow.holds Try.pinned (OpenSpec.ofChange fnExactPointsForSpec)

/-- ITS FALSE NEIGHBOUR: 'it returns false'. Refute it at one input. -/
def fnExactPointsForWrong : ChangeSpec := { name := "fnExactPointsFor", fn := fun _ => fun
  | [d1, d2, d3] => { results := [.lit (.bool false)], args := [d1, d2, d3] }
  | _ => none }
def FnExactPointsForWrongFalsely : Prop := fnExactPointsForRow.holds Try.pinned (OpenSpec.ofChange fnExactPointsForWrong)

/-- 'laws.FnExactValidIndex': WHATEVER THE INPUT: true; the input reads as it did. -/
def fnExactValidIndexSpec : ChangeSpec := { name := "fnExactValidIndex", fn := fun _ => fun
  | [d] => { results := [.lit (.bool true)], args := [d] }
  | _ => none }
def fnExactValidIndexRow : OpenClaim := { program := "yteeodjbionjlmaa", sum := "9fe359c8ca121f1ca2de068bbae7801b560983155df29b6ebb5e7b6448e894ad", func := "loop.example/g01202/laws.FnExactValidIndex", spec := "fnExactValidIndex", unfollowed := true, recurses := true, apart := false }
def FnExactValidIndexSaid : Prop := fnExactValidIndexRow.holds Try.pinned (OpenSpec.ofChange fnExactValidIndexSpec)

/-- ITS FALSE NEIGHBOUR: 'it returns false'. Refute it at one input. -/
def fnExactValidIndexWrong : ChangeSpec := { name := "fnExactValidIndex", fn := fun _ => fun
  | [d] => { results := [.lit (.bool false)], args := [d] }
  | _ => none }
def FnExactValidIndexWrongFalsely : Prop := fnExactValidIndexRow.holds Try.pinned (OpenSpec.ofChange fnExactValidIndexWrong)

/-- 'laws.FnExactSameIndex': WHATEVER THE INPUT: true; the input reads as it did. -/
def fnExactSameIndexSpec : ChangeSpec := { name := "fnExactSameIndex", fn := fun _ => fun
  | [d1, d2] => { results := [.lit (.bool true)], args := [d1, d2] }
  | _ => none }
def fnExactSameIndexRow : OpenClaim := { program := "yteeodjbionjlmaa", sum := "9fe359c8ca121f1ca2de068bbae7801b560983155df29b6ebb5e7b6448e894ad", func := "loop.example/g01202/laws.FnExactSameIndex", spec := "fnExactSameIndex", unfollowed := true, recurses := true, apart := false }
def FnExactSameIndexSaid : Prop := fnExactSameIndexRow.holds Try.pinned (OpenSpec.ofChange fnExactSameIndexSpec)

/-- ITS FALSE NEIGHBOUR: 'it returns false'. Refute it at one input. -/
def fnExactSameIndexWrong : ChangeSpec := { name := "fnExactSameIndex", fn := fun _ => fun
  | [d1, d2] => { results := [.lit (.bool false)], args := [d1, d2] }
  | _ => none }
def FnExactSameIndexWrongFalsely : Prop := fnExactSameIndexRow.holds Try.pinned (OpenSpec.ofChange fnExactSameIndexWrong)

/-- 'laws.FnExactWordsFrom': WHATEVER THE INPUT: true; the input reads as it did. -/
def fnExactWordsFromSpec : ChangeSpec := { name := "fnExactWordsFrom", fn := fun _ => fun
  | [d1, d2] => { results := [.lit (.bool true)], args := [d1, d2] }
  | _ => none }
def fnExactWordsFromRow : OpenClaim := { program := "yteeodjbionjlmaa", sum := "9fe359c8ca121f1ca2de068bbae7801b560983155df29b6ebb5e7b6448e894ad", func := "loop.example/g01202/laws.FnExactWordsFrom", spec := "fnExactWordsFrom", unfollowed := true, recurses := true, apart := false }
def FnExactWordsFromSaid : Prop := fnExactWordsFromRow.holds Try.pinned (OpenSpec.ofChange fnExactWordsFromSpec)

/-- ITS FALSE NEIGHBOUR: 'it returns false'. Refute it at one input. -/
def fnExactWordsFromWrong : ChangeSpec := { name := "fnExactWordsFrom", fn := fun _ => fun
  | [d1, d2] => { results := [.lit (.bool false)], args := [d1, d2] }
  | _ => none }
def FnExactWordsFromWrongFalsely : Prop := fnExactWordsFromRow.holds Try.pinned (OpenSpec.ofChange fnExactWordsFromWrong)

/-- 'laws.FnExactCompactEvents': WHATEVER THE INPUT: true; the input reads as it did. -/
def fnExactCompactEventsSpec : ChangeSpec := { name := "fnExactCompactEvents", fn := fun _ => fun
  | [d] => { results := [.lit (.bool true)], args := [d] }
  | _ => none }
def fnExactCompactEventsRow : OpenClaim := { program := "yteeodjbionjlmaa", sum := "9fe359c8ca121f1ca2de068bbae7801b560983155df29b6ebb5e7b6448e894ad", func := "loop.example/g01202/laws.FnExactCompactEvents", spec := "fnExactCompactEvents", unfollowed := true, recurses := true, apart := false }
def FnExactCompactEventsSaid : Prop := fnExactCompactEventsRow.holds Try.pinned (OpenSpec.ofChange fnExactCompactEventsSpec)

/-- ITS FALSE NEIGHBOUR: 'it returns false'. Refute it at one input. -/
def fnExactCompactEventsWrong : ChangeSpec := { name := "fnExactCompactEvents", fn := fun _ => fun
  | [d] => { results := [.lit (.bool false)], args := [d] }
  | _ => none }
def FnExactCompactEventsWrongFalsely : Prop := fnExactCompactEventsRow.holds Try.pinned (OpenSpec.ofChange fnExactCompactEventsWrong)

/-- 'laws.FnExactJoinSets': WHATEVER THE INPUT: true; the input reads as it did. -/
def fnExactJoinSetsSpec : ChangeSpec := { name := "fnExactJoinSets", fn := fun _ => fun
  | [d1, d2] => { results := [.lit (.bool true)], args := [d1, d2] }
  | _ => none }
def fnExactJoinSetsRow : OpenClaim := { program := "yteeodjbionjlmaa", sum := "9fe359c8ca121f1ca2de068bbae7801b560983155df29b6ebb5e7b6448e894ad", func := "loop.example/g01202/laws.FnExactJoinSets", spec := "fnExactJoinSets", recurses := true, apart := false }
def FnExactJoinSetsSaid : Prop := fnExactJoinSetsRow.holds Try.pinned (OpenSpec.ofChange fnExactJoinSetsSpec)

/-- ITS FALSE NEIGHBOUR: 'it returns false'. Refute it at one input. -/
def fnExactJoinSetsWrong : ChangeSpec := { name := "fnExactJoinSets", fn := fun _ => fun
  | [d1, d2] => { results := [.lit (.bool false)], args := [d1, d2] }
  | _ => none }
def FnExactJoinSetsWrongFalsely : Prop := fnExactJoinSetsRow.holds Try.pinned (OpenSpec.ofChange fnExactJoinSetsWrong)

/- THE SECOND FORM. 'bulk': how many values and letters a reading holds, each counted each time it is reached (what is shared counts as often as it is met; a slice's spare places count too). A statement '..UptoSaid' is the law's where the arguments, and the package variables that the reading takes, are together of bulk at most 1048576: NARROWER than '..Said'. Prove '..Said' where nothing that the law and all that it calls make is longer than what came in: it says more and counts as full. Else prove '..UptoSaid'. A law counts once. -/
mutual
def uptoBulk {H : Type} : DataW H → Nat
  | .lit (.string bytes) => bytes.length + 1
  | .lit _ => 1
  | .nil => 1
  | .ptr d => uptoBulk d + 1
  | .slice elems spare => uptoBulkAll elems + uptoBulkAll spare + 1
  | .agg parts => uptoBulkAll parts + 1
  | .iface _ d => uptoBulk d + 1
  | .map entries => uptoBulkEntries entries + 1
  | .held _ => 1
def uptoBulkAll {H : Type} : List (DataW H) → Nat
  | [] => 0
  | d :: r => uptoBulk d + uptoBulkAll r
def uptoBulkEntries {H : Type} : List (Lit × DataW H) → Nat
  | [] => 0
  | x :: r => uptoBulkEntry x + uptoBulkEntries r
def uptoBulkEntry {H : Type} : Lit × DataW H → Nat
  | (.string bytes, d) => bytes.length + uptoBulk d + 1
  | (_, d) => uptoBulk d + 1
 end
def uptoSmall : (H : Type) → List (DataW H) → Bool := fun _ ds => decide (uptoBulkAll ds ≤ 1048576)
def OpenSpec.upto (s : _root_.Go.ChangeSpec) : _root_.Go.OpenSpec := { _root_.Go.OpenSpec.ofChange s with cond := some uptoSmall }

/-- 'laws.FnExactWordsOf', WHERE WHAT IT READS IS OF BULK AT MOST 1048576: true; the input reads as it did. -/
def fnExactWordsOfUptoRow : OpenClaim := { program := "yteeodjbionjlmaa", sum := "9fe359c8ca121f1ca2de068bbae7801b560983155df29b6ebb5e7b6448e894ad", func := "loop.example/g01202/laws.FnExactWordsOf", spec := "fnExactWordsOf", unfollowed := true, recurses := true, apart := false, narrowed := true }
def FnExactWordsOfUptoSaid : Prop := fnExactWordsOfUptoRow.holds Try.pinned (OpenSpec.upto fnExactWordsOfSpec)

/-- 'laws.FnExactHasBadWord', WHERE WHAT IT READS IS OF BULK AT MOST 1048576: true; the input reads as it did. -/
def fnExactHasBadWordUptoRow : OpenClaim := { program := "yteeodjbionjlmaa", sum := "9fe359c8ca121f1ca2de068bbae7801b560983155df29b6ebb5e7b6448e894ad", func := "loop.example/g01202/laws.FnExactHasBadWord", spec := "fnExactHasBadWord", unfollowed := true, recurses := true, apart := false, narrowed := true }
def FnExactHasBadWordUptoSaid : Prop := fnExactHasBadWordUptoRow.holds Try.pinned (OpenSpec.upto fnExactHasBadWordSpec)

/-- 'laws.FnExactBadWordsIn', WHERE WHAT IT READS IS OF BULK AT MOST 1048576: true; the input reads as it did. -/
def fnExactBadWordsInUptoRow : OpenClaim := { program := "yteeodjbionjlmaa", sum := "9fe359c8ca121f1ca2de068bbae7801b560983155df29b6ebb5e7b6448e894ad", func := "loop.example/g01202/laws.FnExactBadWordsIn", spec := "fnExactBadWordsIn", unfollowed := true, recurses := true, apart := false, narrowed := true }
def FnExactBadWordsInUptoSaid : Prop := fnExactBadWordsInUptoRow.holds Try.pinned (OpenSpec.upto fnExactBadWordsInSpec)

/-- 'laws.FnExactCensorText', WHERE WHAT IT READS IS OF BULK AT MOST 1048576: true; the input reads as it did. -/
def fnExactCensorTextUptoRow : OpenClaim := { program := "yteeodjbionjlmaa", sum := "9fe359c8ca121f1ca2de068bbae7801b560983155df29b6ebb5e7b6448e894ad", func := "loop.example/g01202/laws.FnExactCensorText", spec := "fnExactCensorText", inPlace := ["internal/abi.NoEscape", "internal/bytealg.MakeNoZero"], unfollowed := true, recurses := true, apart := false, narrowed := true }
def FnExactCensorTextUptoSaid : Prop := fnExactCensorTextUptoRow.holds Try.pinned (OpenSpec.upto fnExactCensorTextSpec)

/-- 'laws.FnExactMarkWords', WHERE WHAT IT READS IS OF BULK AT MOST 1048576: true; the input reads as it did. -/
def fnExactMarkWordsUptoRow : OpenClaim := { program := "yteeodjbionjlmaa", sum := "9fe359c8ca121f1ca2de068bbae7801b560983155df29b6ebb5e7b6448e894ad", func := "loop.example/g01202/laws.FnExactMarkWords", spec := "fnExactMarkWords", inPlace := ["internal/abi.NoEscape"], unfollowed := true, recurses := true, apart := false, narrowed := true }
def FnExactMarkWordsUptoSaid : Prop := fnExactMarkWordsUptoRow.holds Try.pinned (OpenSpec.upto fnExactMarkWordsSpec)

/-- 'laws.FnExactSnippetOf', WHERE WHAT IT READS IS OF BULK AT MOST 1048576: true; the input reads as it did. -/
def fnExactSnippetOfUptoRow : OpenClaim := { program := "yteeodjbionjlmaa", sum := "9fe359c8ca121f1ca2de068bbae7801b560983155df29b6ebb5e7b6448e894ad", func := "loop.example/g01202/laws.FnExactSnippetOf", spec := "fnExactSnippetOf", unfollowed := true, recurses := true, apart := false, narrowed := true }
def FnExactSnippetOfUptoSaid : Prop := fnExactSnippetOfUptoRow.holds Try.pinned (OpenSpec.upto fnExactSnippetOfSpec)

/-- 'laws.FnExactPointsFor', WHERE WHAT IT READS IS OF BULK AT MOST 1048576: true; the input reads as it did. -/
def fnExactPointsForUptoRow : OpenClaim := { program := "yteeodjbionjlmaa", sum := "9fe359c8ca121f1ca2de068bbae7801b560983155df29b6ebb5e7b6448e894ad", func := "loop.example/g01202/laws.FnExactPointsFor", spec := "fnExactPointsFor", unfollowed := true, recurses := true, apart := false, narrowed := true }
def FnExactPointsForUptoSaid : Prop := fnExactPointsForUptoRow.holds Try.pinned (OpenSpec.upto fnExactPointsForSpec)

/-- 'laws.FnExactValidIndex', WHERE WHAT IT READS IS OF BULK AT MOST 1048576: true; the input reads as it did. -/
def fnExactValidIndexUptoRow : OpenClaim := { program := "yteeodjbionjlmaa", sum := "9fe359c8ca121f1ca2de068bbae7801b560983155df29b6ebb5e7b6448e894ad", func := "loop.example/g01202/laws.FnExactValidIndex", spec := "fnExactValidIndex", unfollowed := true, recurses := true, apart := false, narrowed := true }
def FnExactValidIndexUptoSaid : Prop := fnExactValidIndexUptoRow.holds Try.pinned (OpenSpec.upto fnExactValidIndexSpec)

/-- 'laws.FnExactSameIndex', WHERE WHAT IT READS IS OF BULK AT MOST 1048576: true; the input reads as it did. -/
def fnExactSameIndexUptoRow : OpenClaim := { program := "yteeodjbionjlmaa", sum := "9fe359c8ca121f1ca2de068bbae7801b560983155df29b6ebb5e7b6448e894ad", func := "loop.example/g01202/laws.FnExactSameIndex", spec := "fnExactSameIndex", unfollowed := true, recurses := true, apart := false, narrowed := true }
def FnExactSameIndexUptoSaid : Prop := fnExactSameIndexUptoRow.holds Try.pinned (OpenSpec.upto fnExactSameIndexSpec)

/-- 'laws.FnExactWordsFrom', WHERE WHAT IT READS IS OF BULK AT MOST 1048576: true; the input reads as it did. -/
def fnExactWordsFromUptoRow : OpenClaim := { program := "yteeodjbionjlmaa", sum := "9fe359c8ca121f1ca2de068bbae7801b560983155df29b6ebb5e7b6448e894ad", func := "loop.example/g01202/laws.FnExactWordsFrom", spec := "fnExactWordsFrom", unfollowed := true, recurses := true, apart := false, narrowed := true }
def FnExactWordsFromUptoSaid : Prop := fnExactWordsFromUptoRow.holds Try.pinned (OpenSpec.upto fnExactWordsFromSpec)

/-- 'laws.FnExactCompactEvents', WHERE WHAT IT READS IS OF BULK AT MOST 1048576: true; the input reads as it did. -/
def fnExactCompactEventsUptoRow : OpenClaim := { program := "yteeodjbionjlmaa", sum := "9fe359c8ca121f1ca2de068bbae7801b560983155df29b6ebb5e7b6448e894ad", func := "loop.example/g01202/laws.FnExactCompactEvents", spec := "fnExactCompactEvents", unfollowed := true, recurses := true, apart := false, narrowed := true }
def FnExactCompactEventsUptoSaid : Prop := fnExactCompactEventsUptoRow.holds Try.pinned (OpenSpec.upto fnExactCompactEventsSpec)

/-- 'laws.FnExactJoinSets', WHERE WHAT IT READS IS OF BULK AT MOST 1048576: true; the input reads as it did. -/
def fnExactJoinSetsUptoRow : OpenClaim := { program := "yteeodjbionjlmaa", sum := "9fe359c8ca121f1ca2de068bbae7801b560983155df29b6ebb5e7b6448e894ad", func := "loop.example/g01202/laws.FnExactJoinSets", spec := "fnExactJoinSets", recurses := true, apart := false, narrowed := true }
def FnExactJoinSetsUptoSaid : Prop := fnExactJoinSetsUptoRow.holds Try.pinned (OpenSpec.upto fnExactJoinSetsSpec)

end Rows
end Go.Proofs.Yteeodjbionjlmaa
