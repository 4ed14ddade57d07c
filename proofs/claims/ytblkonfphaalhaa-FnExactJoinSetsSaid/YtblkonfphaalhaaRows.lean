/-
  No cell of these rows narrows 'for every input' (looked for: loops, veiled, ifaces, maps, wideKeys, modest, calm, conditions, laid).
  DERIVED. THE GIVEN ROWS OF THIS SEAT. 14 by the template 'for every input the law returns true; each argument reads behind the call as it read before'; 0 by the template 'total and deterministic' (their statements: YtblkonfphaalhaaTotals.lean).
  GIVEN WITH THE SEED: the statements are not yours to turn. If you find one false, say at which input.
  Laid BY PROGRAM, IN A SANDBOX (cutbox-rows.mjs): the forced cells as the released guide's own fill.sh prints them over the translation 54cfb8284f9501ea… (all of the seat's roots in one cut). By AI agents, Wed Nov 11 2026. No macro, syntax, notation, axiom, sorry.
-/
import Derived.Test.YtblkonfphaalhaaChecked
import GoSem.Claim
import GoSem.ClaimJoined
import GoSem.ClaimMapViews
import Derived.JoinedTies
import Derived.KernelRfl
namespace Go.Proofs.Ytblkonfphaalhaa
/- THE CELL 'sum', in the pinned program and in every row, IS THE sha256 OF THE DUMP (.gsa) THAT YtblkonfphaalhaaProg.lean LOADS. Nothing in Lean hashes anything: it is a label: what it is worth is what the hold of that sum in a sandbox is worth. -/
noncomputable def Try.pinned : Pinned := { name := "ytblkonfphaalhaa", sum := "54cfb8284f9501ea799b680aa6ef3cc5242780aba419330b9e8e4c50b39932dc", checked := Try.checked }
namespace Rows
def none {H : Type} : Left H := { results := [], args := [] }

/-- 'laws.FnExactIsName': WHATEVER THE INPUT: true; the input reads as it did. -/
def fnExactIsNameSpec : ChangeSpec := { name := "fnExactIsName", fn := fun _ => fun
  | [d] => { results := [.lit (.bool true)], args := [d] }
  | _ => none }
def fnExactIsNameRow : OpenClaim := { program := "ytblkonfphaalhaa", sum := "54cfb8284f9501ea799b680aa6ef3cc5242780aba419330b9e8e4c50b39932dc", func := "loop.example/g01202/laws.FnExactIsName", spec := "fnExactIsName", apart := false }
def FnExactIsNameSaid : Prop := fnExactIsNameRow.holds Try.pinned (OpenSpec.ofChange fnExactIsNameSpec)

/-- ITS FALSE NEIGHBOUR: 'it returns false'. Refute it at one input. -/
def fnExactIsNameWrong : ChangeSpec := { name := "fnExactIsName", fn := fun _ => fun
  | [d] => { results := [.lit (.bool false)], args := [d] }
  | _ => none }
def FnExactIsNameWrongFalsely : Prop := fnExactIsNameRow.holds Try.pinned (OpenSpec.ofChange fnExactIsNameWrong)

/-- 'laws.FnExactCheckOf': WHATEVER THE INPUT: true; the input reads as it did. -/
def fnExactCheckOfSpec : ChangeSpec := { name := "fnExactCheckOf", fn := fun _ => fun
  | [d1, d2] => { results := [.lit (.bool true)], args := [d1, d2] }
  | _ => none }
def fnExactCheckOfRow : OpenClaim := { program := "ytblkonfphaalhaa", sum := "54cfb8284f9501ea799b680aa6ef3cc5242780aba419330b9e8e4c50b39932dc", func := "loop.example/g01202/laws.FnExactCheckOf", spec := "fnExactCheckOf", apart := false }
def FnExactCheckOfSaid : Prop := fnExactCheckOfRow.holds Try.pinned (OpenSpec.ofChange fnExactCheckOfSpec)

/-- ITS FALSE NEIGHBOUR: 'it returns false'. Refute it at one input. -/
def fnExactCheckOfWrong : ChangeSpec := { name := "fnExactCheckOf", fn := fun _ => fun
  | [d1, d2] => { results := [.lit (.bool false)], args := [d1, d2] }
  | _ => none }
def FnExactCheckOfWrongFalsely : Prop := fnExactCheckOfRow.holds Try.pinned (OpenSpec.ofChange fnExactCheckOfWrong)

/-- 'laws.FnExactIsText': WHATEVER THE INPUT: true; the input reads as it did. -/
def fnExactIsTextSpec : ChangeSpec := { name := "fnExactIsText", fn := fun _ => fun
  | [d] => { results := [.lit (.bool true)], args := [d] }
  | _ => none }
def fnExactIsTextRow : OpenClaim := { program := "ytblkonfphaalhaa", sum := "54cfb8284f9501ea799b680aa6ef3cc5242780aba419330b9e8e4c50b39932dc", func := "loop.example/g01202/laws.FnExactIsText", spec := "fnExactIsText", apart := false }
def FnExactIsTextSaid : Prop := fnExactIsTextRow.holds Try.pinned (OpenSpec.ofChange fnExactIsTextSpec)

/-- ITS FALSE NEIGHBOUR: 'it returns false'. Refute it at one input. -/
def fnExactIsTextWrong : ChangeSpec := { name := "fnExactIsText", fn := fun _ => fun
  | [d] => { results := [.lit (.bool false)], args := [d] }
  | _ => none }
def FnExactIsTextWrongFalsely : Prop := fnExactIsTextRow.holds Try.pinned (OpenSpec.ofChange fnExactIsTextWrong)

/-- 'laws.FnExactIsMembers': WHATEVER THE INPUT: true; the input reads as it did. -/
def fnExactIsMembersSpec : ChangeSpec := { name := "fnExactIsMembers", fn := fun _ => fun
  | [d] => { results := [.lit (.bool true)], args := [d] }
  | _ => none }
def fnExactIsMembersRow : OpenClaim := { program := "ytblkonfphaalhaa", sum := "54cfb8284f9501ea799b680aa6ef3cc5242780aba419330b9e8e4c50b39932dc", func := "loop.example/g01202/laws.FnExactIsMembers", spec := "fnExactIsMembers", apart := false }
def FnExactIsMembersSaid : Prop := fnExactIsMembersRow.holds Try.pinned (OpenSpec.ofChange fnExactIsMembersSpec)

/-- ITS FALSE NEIGHBOUR: 'it returns false'. Refute it at one input. -/
def fnExactIsMembersWrong : ChangeSpec := { name := "fnExactIsMembers", fn := fun _ => fun
  | [d] => { results := [.lit (.bool false)], args := [d] }
  | _ => none }
def FnExactIsMembersWrongFalsely : Prop := fnExactIsMembersRow.holds Try.pinned (OpenSpec.ofChange fnExactIsMembersWrong)

/-- 'laws.FnExactHexText': WHATEVER THE INPUT: true; the input reads as it did. -/
def fnExactHexTextSpec : ChangeSpec := { name := "fnExactHexText", fn := fun _ => fun
  | [d] => { results := [.lit (.bool true)], args := [d] }
  | _ => none }
def fnExactHexTextRow : OpenClaim := { program := "ytblkonfphaalhaa", sum := "54cfb8284f9501ea799b680aa6ef3cc5242780aba419330b9e8e4c50b39932dc", func := "loop.example/g01202/laws.FnExactHexText", spec := "fnExactHexText", apart := false }
def FnExactHexTextSaid : Prop := fnExactHexTextRow.holds Try.pinned (OpenSpec.ofChange fnExactHexTextSpec)

/-- ITS FALSE NEIGHBOUR: 'it returns false'. Refute it at one input. -/
def fnExactHexTextWrong : ChangeSpec := { name := "fnExactHexText", fn := fun _ => fun
  | [d] => { results := [.lit (.bool false)], args := [d] }
  | _ => none }
def FnExactHexTextWrongFalsely : Prop := fnExactHexTextRow.holds Try.pinned (OpenSpec.ofChange fnExactHexTextWrong)

/-- 'laws.FnExactReadHex': WHATEVER THE INPUT: true; the input reads as it did. -/
def fnExactReadHexSpec : ChangeSpec := { name := "fnExactReadHex", fn := fun _ => fun
  | [d] => { results := [.lit (.bool true)], args := [d] }
  | _ => none }
def fnExactReadHexRow : OpenClaim := { program := "ytblkonfphaalhaa", sum := "54cfb8284f9501ea799b680aa6ef3cc5242780aba419330b9e8e4c50b39932dc", func := "loop.example/g01202/laws.FnExactReadHex", spec := "fnExactReadHex", apart := false }
def FnExactReadHexSaid : Prop := fnExactReadHexRow.holds Try.pinned (OpenSpec.ofChange fnExactReadHexSpec)

/-- ITS FALSE NEIGHBOUR: 'it returns false'. Refute it at one input. -/
def fnExactReadHexWrong : ChangeSpec := { name := "fnExactReadHex", fn := fun _ => fun
  | [d] => { results := [.lit (.bool false)], args := [d] }
  | _ => none }
def FnExactReadHexWrongFalsely : Prop := fnExactReadHexRow.holds Try.pinned (OpenSpec.ofChange fnExactReadHexWrong)

/-- 'laws.FnExactTokenOf': WHATEVER THE INPUT: true; the input reads as it did. -/
def fnExactTokenOfSpec : ChangeSpec := { name := "fnExactTokenOf", fn := fun _ => fun
  | [d1, d2] => { results := [.lit (.bool true)], args := [d1, d2] }
  | _ => none }
def fnExactTokenOfRow : OpenClaim := { program := "ytblkonfphaalhaa", sum := "54cfb8284f9501ea799b680aa6ef3cc5242780aba419330b9e8e4c50b39932dc", func := "loop.example/g01202/laws.FnExactTokenOf", spec := "fnExactTokenOf", apart := false }
def FnExactTokenOfSaid : Prop := fnExactTokenOfRow.holds Try.pinned (OpenSpec.ofChange fnExactTokenOfSpec)

/-- ITS FALSE NEIGHBOUR: 'it returns false'. Refute it at one input. -/
def fnExactTokenOfWrong : ChangeSpec := { name := "fnExactTokenOf", fn := fun _ => fun
  | [d1, d2] => { results := [.lit (.bool false)], args := [d1, d2] }
  | _ => none }
def FnExactTokenOfWrongFalsely : Prop := fnExactTokenOfRow.holds Try.pinned (OpenSpec.ofChange fnExactTokenOfWrong)

/-- 'laws.FnExactIsToken': WHATEVER THE INPUT: true; the input reads as it did. -/
def fnExactIsTokenSpec : ChangeSpec := { name := "fnExactIsToken", fn := fun _ => fun
  | [d] => { results := [.lit (.bool true)], args := [d] }
  | _ => none }
def fnExactIsTokenRow : OpenClaim := { program := "ytblkonfphaalhaa", sum := "54cfb8284f9501ea799b680aa6ef3cc5242780aba419330b9e8e4c50b39932dc", func := "loop.example/g01202/laws.FnExactIsToken", spec := "fnExactIsToken", apart := false }
def FnExactIsTokenSaid : Prop := fnExactIsTokenRow.holds Try.pinned (OpenSpec.ofChange fnExactIsTokenSpec)

/-- ITS FALSE NEIGHBOUR: 'it returns false'. Refute it at one input. -/
def fnExactIsTokenWrong : ChangeSpec := { name := "fnExactIsToken", fn := fun _ => fun
  | [d] => { results := [.lit (.bool false)], args := [d] }
  | _ => none }
def FnExactIsTokenWrongFalsely : Prop := fnExactIsTokenRow.holds Try.pinned (OpenSpec.ofChange fnExactIsTokenWrong)

/-- 'laws.FnExactDigestOf': WHATEVER THE INPUT: true; the input reads as it did. -/
def fnExactDigestOfSpec : ChangeSpec := { name := "fnExactDigestOf", fn := fun _ => fun
  | [d] => { results := [.lit (.bool true)], args := [d] }
  | _ => none }
def fnExactDigestOfRow : OpenClaim := { program := "ytblkonfphaalhaa", sum := "54cfb8284f9501ea799b680aa6ef3cc5242780aba419330b9e8e4c50b39932dc", func := "loop.example/g01202/laws.FnExactDigestOf", spec := "fnExactDigestOf", apart := false }
def FnExactDigestOfSaid : Prop := fnExactDigestOfRow.holds Try.pinned (OpenSpec.ofChange fnExactDigestOfSpec)

/-- ITS FALSE NEIGHBOUR: 'it returns false'. Refute it at one input. -/
def fnExactDigestOfWrong : ChangeSpec := { name := "fnExactDigestOf", fn := fun _ => fun
  | [d] => { results := [.lit (.bool false)], args := [d] }
  | _ => none }
def FnExactDigestOfWrongFalsely : Prop := fnExactDigestOfRow.holds Try.pinned (OpenSpec.ofChange fnExactDigestOfWrong)

/-- 'laws.FnExactIsDigest': WHATEVER THE INPUT: true; the input reads as it did. -/
def fnExactIsDigestSpec : ChangeSpec := { name := "fnExactIsDigest", fn := fun _ => fun
  | [d] => { results := [.lit (.bool true)], args := [d] }
  | _ => none }
def fnExactIsDigestRow : OpenClaim := { program := "ytblkonfphaalhaa", sum := "54cfb8284f9501ea799b680aa6ef3cc5242780aba419330b9e8e4c50b39932dc", func := "loop.example/g01202/laws.FnExactIsDigest", spec := "fnExactIsDigest", apart := false }
def FnExactIsDigestSaid : Prop := fnExactIsDigestRow.holds Try.pinned (OpenSpec.ofChange fnExactIsDigestSpec)

/-- ITS FALSE NEIGHBOUR: 'it returns false'. Refute it at one input. -/
def fnExactIsDigestWrong : ChangeSpec := { name := "fnExactIsDigest", fn := fun _ => fun
  | [d] => { results := [.lit (.bool false)], args := [d] }
  | _ => none }
def FnExactIsDigestWrongFalsely : Prop := fnExactIsDigestRow.holds Try.pinned (OpenSpec.ofChange fnExactIsDigestWrong)

/-- 'laws.FnExactChainOf': WHATEVER THE INPUT: true; the input reads as it did. -/
def fnExactChainOfSpec : ChangeSpec := { name := "fnExactChainOf", fn := fun _ => fun
  | [d1, d2] => { results := [.lit (.bool true)], args := [d1, d2] }
  | _ => none }
def fnExactChainOfRow : OpenClaim := { program := "ytblkonfphaalhaa", sum := "54cfb8284f9501ea799b680aa6ef3cc5242780aba419330b9e8e4c50b39932dc", func := "loop.example/g01202/laws.FnExactChainOf", spec := "fnExactChainOf", apart := false }
def FnExactChainOfSaid : Prop := fnExactChainOfRow.holds Try.pinned (OpenSpec.ofChange fnExactChainOfSpec)

/-- ITS FALSE NEIGHBOUR: 'it returns false'. Refute it at one input. -/
def fnExactChainOfWrong : ChangeSpec := { name := "fnExactChainOf", fn := fun _ => fun
  | [d1, d2] => { results := [.lit (.bool false)], args := [d1, d2] }
  | _ => none }
def FnExactChainOfWrongFalsely : Prop := fnExactChainOfRow.holds Try.pinned (OpenSpec.ofChange fnExactChainOfWrong)

/-- 'laws.FnExactWordsOf': WHATEVER THE INPUT: true; the input reads as it did. -/
def fnExactWordsOfSpec : ChangeSpec := { name := "fnExactWordsOf", fn := fun _ => fun
  | [d] => { results := [.lit (.bool true)], args := [d] }
  | _ => none }
def fnExactWordsOfRow : OpenClaim := { program := "ytblkonfphaalhaa", sum := "54cfb8284f9501ea799b680aa6ef3cc5242780aba419330b9e8e4c50b39932dc", func := "loop.example/g01202/laws.FnExactWordsOf", spec := "fnExactWordsOf", apart := false }
def FnExactWordsOfSaid : Prop := fnExactWordsOfRow.holds Try.pinned (OpenSpec.ofChange fnExactWordsOfSpec)

/-- ITS FALSE NEIGHBOUR: 'it returns false'. Refute it at one input. -/
def fnExactWordsOfWrong : ChangeSpec := { name := "fnExactWordsOf", fn := fun _ => fun
  | [d] => { results := [.lit (.bool false)], args := [d] }
  | _ => none }
def FnExactWordsOfWrongFalsely : Prop := fnExactWordsOfRow.holds Try.pinned (OpenSpec.ofChange fnExactWordsOfWrong)

/-- 'laws.FnExactJoinSets': WHATEVER THE INPUT: true; the input reads as it did. -/
def fnExactJoinSetsSpec : ChangeSpec := { name := "fnExactJoinSets", fn := fun _ => fun
  | [d1, d2] => { results := [.lit (.bool true)], args := [d1, d2] }
  | _ => none }
def fnExactJoinSetsRow : OpenClaim := { program := "ytblkonfphaalhaa", sum := "54cfb8284f9501ea799b680aa6ef3cc5242780aba419330b9e8e4c50b39932dc", func := "loop.example/g01202/laws.FnExactJoinSets", spec := "fnExactJoinSets", recurses := true, apart := false }
def FnExactJoinSetsSaid : Prop := fnExactJoinSetsRow.holds Try.pinned (OpenSpec.ofChange fnExactJoinSetsSpec)

/-- ITS FALSE NEIGHBOUR: 'it returns false'. Refute it at one input. -/
def fnExactJoinSetsWrong : ChangeSpec := { name := "fnExactJoinSets", fn := fun _ => fun
  | [d1, d2] => { results := [.lit (.bool false)], args := [d1, d2] }
  | _ => none }
def FnExactJoinSetsWrongFalsely : Prop := fnExactJoinSetsRow.holds Try.pinned (OpenSpec.ofChange fnExactJoinSetsWrong)

/-- 'laws.FnExactLessSet': WHATEVER THE INPUT: true; the input reads as it did. -/
def fnExactLessSetSpec : ChangeSpec := { name := "fnExactLessSet", fn := fun _ => fun
  | [d1, d2] => { results := [.lit (.bool true)], args := [d1, d2] }
  | _ => none }
def fnExactLessSetRow : OpenClaim := { program := "ytblkonfphaalhaa", sum := "54cfb8284f9501ea799b680aa6ef3cc5242780aba419330b9e8e4c50b39932dc", func := "loop.example/g01202/laws.FnExactLessSet", spec := "fnExactLessSet", apart := false }
def FnExactLessSetSaid : Prop := fnExactLessSetRow.holds Try.pinned (OpenSpec.ofChange fnExactLessSetSpec)

/-- ITS FALSE NEIGHBOUR: 'it returns false'. Refute it at one input. -/
def fnExactLessSetWrong : ChangeSpec := { name := "fnExactLessSet", fn := fun _ => fun
  | [d1, d2] => { results := [.lit (.bool false)], args := [d1, d2] }
  | _ => none }
def FnExactLessSetWrongFalsely : Prop := fnExactLessSetRow.holds Try.pinned (OpenSpec.ofChange fnExactLessSetWrong)

/- THE SECOND FORM. 'bulk': how many values and letters a reading holds, each counted each time it is reached (what is shared counts as often as it is met; a slice's spare places count too). A statement '..UptoSaid' is the law's where the arguments, and the package variables that the reading takes, are together of bulk at most 1048576: NARROWER than '..Said'. Prove '..Said' where nothing that the law and all that it calls make is longer than what came in: it says more and counts as full. Else prove '..UptoSaid'. A law counts once. -/
mutual
def uptoBulk {H : Type} : DataW H → Nat
  | .lit (.string bytes) => bytes.length + 1
  | .lit _ => 1
  | .nil => 1
  | .ptr d => uptoBulk d + 1
  | .slice elems spare => uptoBulkAll elems + uptoBulkAll spare + 1
  | .agg parts => uptoBulkAll parts + 1
  | .iface _ d => uptoBulk d + 1
  | .map entries => uptoBulkEntries entries + 1
  | .held _ => 1
def uptoBulkAll {H : Type} : List (DataW H) → Nat
  | [] => 0
  | d :: r => uptoBulk d + uptoBulkAll r
def uptoBulkEntries {H : Type} : List (Lit × DataW H) → Nat
  | [] => 0
  | x :: r => uptoBulkEntry x + uptoBulkEntries r
def uptoBulkEntry {H : Type} : Lit × DataW H → Nat
  | (.string bytes, d) => bytes.length + uptoBulk d + 1
  | (_, d) => uptoBulk d + 1
 end
def uptoSmall : (H : Type) → List (DataW H) → Bool := fun _ ds => decide (uptoBulkAll ds ≤ 1048576)
def OpenSpec.upto (s : _root_.Go.ChangeSpec) : _root_.Go.OpenSpec := { _root_.Go.OpenSpec.ofChange s with cond := some uptoSmall }

/-- 'laws.FnExactIsName', WHERE WHAT IT READS IS OF BULK AT MOST 1048576: true; the input reads as it did. -/
def fnExactIsNameUptoRow : OpenClaim := { program := "ytblkonfphaalhaa", sum := "54cfb8284f9501ea799b680aa6ef3cc5242780aba419330b9e8e4c50b39932dc", func := "loop.example/g01202/laws.FnExactIsName", spec := "fnExactIsName", apart := false, narrowed := true }
def FnExactIsNameUptoSaid : Prop := fnExactIsNameUptoRow.holds Try.pinned (OpenSpec.upto fnExactIsNameSpec)

/-- 'laws.FnExactCheckOf', WHERE WHAT IT READS IS OF BULK AT MOST 1048576: true; the input reads as it did. -/
def fnExactCheckOfUptoRow : OpenClaim := { program := "ytblkonfphaalhaa", sum := "54cfb8284f9501ea799b680aa6ef3cc5242780aba419330b9e8e4c50b39932dc", func := "loop.example/g01202/laws.FnExactCheckOf", spec := "fnExactCheckOf", apart := false, narrowed := true }
def FnExactCheckOfUptoSaid : Prop := fnExactCheckOfUptoRow.holds Try.pinned (OpenSpec.upto fnExactCheckOfSpec)

/-- 'laws.FnExactIsText', WHERE WHAT IT READS IS OF BULK AT MOST 1048576: true; the input reads as it did. -/
def fnExactIsTextUptoRow : OpenClaim := { program := "ytblkonfphaalhaa", sum := "54cfb8284f9501ea799b680aa6ef3cc5242780aba419330b9e8e4c50b39932dc", func := "loop.example/g01202/laws.FnExactIsText", spec := "fnExactIsText", apart := false, narrowed := true }
def FnExactIsTextUptoSaid : Prop := fnExactIsTextUptoRow.holds Try.pinned (OpenSpec.upto fnExactIsTextSpec)

/-- 'laws.FnExactIsMembers', WHERE WHAT IT READS IS OF BULK AT MOST 1048576: true; the input reads as it did. -/
def fnExactIsMembersUptoRow : OpenClaim := { program := "ytblkonfphaalhaa", sum := "54cfb8284f9501ea799b680aa6ef3cc5242780aba419330b9e8e4c50b39932dc", func := "loop.example/g01202/laws.FnExactIsMembers", spec := "fnExactIsMembers", apart := false, narrowed := true }
def FnExactIsMembersUptoSaid : Prop := fnExactIsMembersUptoRow.holds Try.pinned (OpenSpec.upto fnExactIsMembersSpec)

/-- 'laws.FnExactHexText', WHERE WHAT IT READS IS OF BULK AT MOST 1048576: true; the input reads as it did. -/
def fnExactHexTextUptoRow : OpenClaim := { program := "ytblkonfphaalhaa", sum := "54cfb8284f9501ea799b680aa6ef3cc5242780aba419330b9e8e4c50b39932dc", func := "loop.example/g01202/laws.FnExactHexText", spec := "fnExactHexText", apart := false, narrowed := true }
def FnExactHexTextUptoSaid : Prop := fnExactHexTextUptoRow.holds Try.pinned (OpenSpec.upto fnExactHexTextSpec)

/-- 'laws.FnExactReadHex', WHERE WHAT IT READS IS OF BULK AT MOST 1048576: true; the input reads as it did. -/
def fnExactReadHexUptoRow : OpenClaim := { program := "ytblkonfphaalhaa", sum := "54cfb8284f9501ea799b680aa6ef3cc5242780aba419330b9e8e4c50b39932dc", func := "loop.example/g01202/laws.FnExactReadHex", spec := "fnExactReadHex", apart := false, narrowed := true }
def FnExactReadHexUptoSaid : Prop := fnExactReadHexUptoRow.holds Try.pinned (OpenSpec.upto fnExactReadHexSpec)

/-- 'laws.FnExactTokenOf', WHERE WHAT IT READS IS OF BULK AT MOST 1048576: true; the input reads as it did. -/
def fnExactTokenOfUptoRow : OpenClaim := { program := "ytblkonfphaalhaa", sum := "54cfb8284f9501ea799b680aa6ef3cc5242780aba419330b9e8e4c50b39932dc", func := "loop.example/g01202/laws.FnExactTokenOf", spec := "fnExactTokenOf", apart := false, narrowed := true }
def FnExactTokenOfUptoSaid : Prop := fnExactTokenOfUptoRow.holds Try.pinned (OpenSpec.upto fnExactTokenOfSpec)

/-- 'laws.FnExactIsToken', WHERE WHAT IT READS IS OF BULK AT MOST 1048576: true; the input reads as it did. -/
def fnExactIsTokenUptoRow : OpenClaim := { program := "ytblkonfphaalhaa", sum := "54cfb8284f9501ea799b680aa6ef3cc5242780aba419330b9e8e4c50b39932dc", func := "loop.example/g01202/laws.FnExactIsToken", spec := "fnExactIsToken", apart := false, narrowed := true }
def FnExactIsTokenUptoSaid : Prop := fnExactIsTokenUptoRow.holds Try.pinned (OpenSpec.upto fnExactIsTokenSpec)

/-- 'laws.FnExactDigestOf', WHERE WHAT IT READS IS OF BULK AT MOST 1048576: true; the input reads as it did. -/
def fnExactDigestOfUptoRow : OpenClaim := { program := "ytblkonfphaalhaa", sum := "54cfb8284f9501ea799b680aa6ef3cc5242780aba419330b9e8e4c50b39932dc", func := "loop.example/g01202/laws.FnExactDigestOf", spec := "fnExactDigestOf", apart := false, narrowed := true }
def FnExactDigestOfUptoSaid : Prop := fnExactDigestOfUptoRow.holds Try.pinned (OpenSpec.upto fnExactDigestOfSpec)

/-- 'laws.FnExactIsDigest', WHERE WHAT IT READS IS OF BULK AT MOST 1048576: true; the input reads as it did. -/
def fnExactIsDigestUptoRow : OpenClaim := { program := "ytblkonfphaalhaa", sum := "54cfb8284f9501ea799b680aa6ef3cc5242780aba419330b9e8e4c50b39932dc", func := "loop.example/g01202/laws.FnExactIsDigest", spec := "fnExactIsDigest", apart := false, narrowed := true }
def FnExactIsDigestUptoSaid : Prop := fnExactIsDigestUptoRow.holds Try.pinned (OpenSpec.upto fnExactIsDigestSpec)

/-- 'laws.FnExactChainOf', WHERE WHAT IT READS IS OF BULK AT MOST 1048576: true; the input reads as it did. -/
def fnExactChainOfUptoRow : OpenClaim := { program := "ytblkonfphaalhaa", sum := "54cfb8284f9501ea799b680aa6ef3cc5242780aba419330b9e8e4c50b39932dc", func := "loop.example/g01202/laws.FnExactChainOf", spec := "fnExactChainOf", apart := false, narrowed := true }
def FnExactChainOfUptoSaid : Prop := fnExactChainOfUptoRow.holds Try.pinned (OpenSpec.upto fnExactChainOfSpec)

/-- 'laws.FnExactWordsOf', WHERE WHAT IT READS IS OF BULK AT MOST 1048576: true; the input reads as it did. -/
def fnExactWordsOfUptoRow : OpenClaim := { program := "ytblkonfphaalhaa", sum := "54cfb8284f9501ea799b680aa6ef3cc5242780aba419330b9e8e4c50b39932dc", func := "loop.example/g01202/laws.FnExactWordsOf", spec := "fnExactWordsOf", apart := false, narrowed := true }
def FnExactWordsOfUptoSaid : Prop := fnExactWordsOfUptoRow.holds Try.pinned (OpenSpec.upto fnExactWordsOfSpec)

/-- 'laws.FnExactJoinSets', WHERE WHAT IT READS IS OF BULK AT MOST 1048576: true; the input reads as it did. -/
def fnExactJoinSetsUptoRow : OpenClaim := { program := "ytblkonfphaalhaa", sum := "54cfb8284f9501ea799b680aa6ef3cc5242780aba419330b9e8e4c50b39932dc", func := "loop.example/g01202/laws.FnExactJoinSets", spec := "fnExactJoinSets", recurses := true, apart := false, narrowed := true }
def FnExactJoinSetsUptoSaid : Prop := fnExactJoinSetsUptoRow.holds Try.pinned (OpenSpec.upto fnExactJoinSetsSpec)

/-- 'laws.FnExactLessSet', WHERE WHAT IT READS IS OF BULK AT MOST 1048576: true; the input reads as it did. -/
def fnExactLessSetUptoRow : OpenClaim := { program := "ytblkonfphaalhaa", sum := "54cfb8284f9501ea799b680aa6ef3cc5242780aba419330b9e8e4c50b39932dc", func := "loop.example/g01202/laws.FnExactLessSet", spec := "fnExactLessSet", apart := false, narrowed := true }
def FnExactLessSetUptoSaid : Prop := fnExactLessSetUptoRow.holds Try.pinned (OpenSpec.upto fnExactLessSetSpec)

end Rows
end Go.Proofs.Ytblkonfphaalhaa
