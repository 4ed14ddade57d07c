/-
  No cell of these rows narrows 'for every input' (looked for: loops, veiled, ifaces, maps, wideKeys, modest, calm, conditions, laid).
  DERIVED. THE GIVEN ROWS OF THIS SEAT. 12 by the template 'for every input the law returns true; each argument reads behind the call as it read before'; 0 by the template 'total and deterministic' (their statements: YtmdoddikaaaamaaTotals.lean).
  GIVEN WITH THE SEED: the statements are not yours to turn. If you find one false, say at which input.
  Laid BY PROGRAM, IN A SANDBOX (cutbox-rows.mjs): the forced cells as the released guide's own fill.sh prints them over the translation 6d492ee1ec6c24b7… (all of the seat's roots in one cut). By AI agents, Wed Nov 11 2026. No macro, syntax, notation, axiom, sorry.
-/
import Derived.Test.YtmdoddikaaaamaaChecked
import GoSem.Claim
import GoSem.ClaimJoined
import GoSem.ClaimMapViews
import Derived.JoinedTies
import Derived.KernelRfl
namespace Go.Proofs.Ytmdoddikaaaamaa
/- THE CELL 'sum', in the pinned program and in every row, IS THE sha256 OF THE DUMP (.gsa) THAT YtmdoddikaaaamaaProg.lean LOADS. Nothing in Lean hashes anything: it is a label: what it is worth is what the hold of that sum in a sandbox is worth. -/
noncomputable def Try.pinned : Pinned := { name := "ytmdoddikaaaamaa", sum := "6d492ee1ec6c24b78f9142a2741b2cb63c49727c6d465d8593310695a6b1bb3c", checked := Try.checked }
namespace Rows
def none {H : Type} : Left H := { results := [], args := [] }

/-- 'laws.FnExactValidBucket': WHATEVER THE INPUT: true; the input reads as it did. -/
def fnExactValidBucketSpec : ChangeSpec := { name := "fnExactValidBucket", fn := fun _ => fun
  | [d] => { results := [.lit (.bool true)], args := [d] }
  | _ => none }
def fnExactValidBucketRow : OpenClaim := { program := "ytmdoddikaaaamaa", sum := "6d492ee1ec6c24b78f9142a2741b2cb63c49727c6d465d8593310695a6b1bb3c", func := "loop.example/g01202/laws.FnExactValidBucket", spec := "fnExactValidBucket", apart := false }
def FnExactValidBucketSaid : Prop := fnExactValidBucketRow.holds Try.pinned (OpenSpec.ofChange fnExactValidBucketSpec)

/-- ITS FALSE NEIGHBOUR: 'it returns false'. Refute it at one input. -/
def fnExactValidBucketWrong : ChangeSpec := { name := "fnExactValidBucket", fn := fun _ => fun
  | [d] => { results := [.lit (.bool false)], args := [d] }
  | _ => none }
def FnExactValidBucketWrongFalsely : Prop := fnExactValidBucketRow.holds Try.pinned (OpenSpec.ofChange fnExactValidBucketWrong)

/-- 'laws.FnExactNewBucket': WHATEVER THE INPUT: true; the input reads as it did. -/
def fnExactNewBucketSpec : ChangeSpec := { name := "fnExactNewBucket", fn := fun _ => fun
  | [d1, d2, d3] => { results := [.lit (.bool true)], args := [d1, d2, d3] }
  | _ => none }
def fnExactNewBucketRow : OpenClaim := { program := "ytmdoddikaaaamaa", sum := "6d492ee1ec6c24b78f9142a2741b2cb63c49727c6d465d8593310695a6b1bb3c", func := "loop.example/g01202/laws.FnExactNewBucket", spec := "fnExactNewBucket", apart := false }
def FnExactNewBucketSaid : Prop := fnExactNewBucketRow.holds Try.pinned (OpenSpec.ofChange fnExactNewBucketSpec)

/-- ITS FALSE NEIGHBOUR: 'it returns false'. Refute it at one input. -/
def fnExactNewBucketWrong : ChangeSpec := { name := "fnExactNewBucket", fn := fun _ => fun
  | [d1, d2, d3] => { results := [.lit (.bool false)], args := [d1, d2, d3] }
  | _ => none }
def FnExactNewBucketWrongFalsely : Prop := fnExactNewBucketRow.holds Try.pinned (OpenSpec.ofChange fnExactNewBucketWrong)

/-- 'laws.FnExactLeftAt': WHATEVER THE INPUT: true; the input reads as it did. -/
def fnExactLeftAtSpec : ChangeSpec := { name := "fnExactLeftAt", fn := fun _ => fun
  | [d1, d2] => { results := [.lit (.bool true)], args := [d1, d2] }
  | _ => none }
def fnExactLeftAtRow : OpenClaim := { program := "ytmdoddikaaaamaa", sum := "6d492ee1ec6c24b78f9142a2741b2cb63c49727c6d465d8593310695a6b1bb3c", func := "loop.example/g01202/laws.FnExactLeftAt", spec := "fnExactLeftAt", apart := false }
def FnExactLeftAtSaid : Prop := fnExactLeftAtRow.holds Try.pinned (OpenSpec.ofChange fnExactLeftAtSpec)

/-- ITS FALSE NEIGHBOUR: 'it returns false'. Refute it at one input. -/
def fnExactLeftAtWrong : ChangeSpec := { name := "fnExactLeftAt", fn := fun _ => fun
  | [d1, d2] => { results := [.lit (.bool false)], args := [d1, d2] }
  | _ => none }
def FnExactLeftAtWrongFalsely : Prop := fnExactLeftAtRow.holds Try.pinned (OpenSpec.ofChange fnExactLeftAtWrong)

/-- 'laws.FnExactTakeBucket': WHATEVER THE INPUT: true; the input reads as it did. -/
def fnExactTakeBucketSpec : ChangeSpec := { name := "fnExactTakeBucket", fn := fun _ => fun
  | [d1, d2, d3] => { results := [.lit (.bool true)], args := [d1, d2, d3] }
  | _ => none }
def fnExactTakeBucketRow : OpenClaim := { program := "ytmdoddikaaaamaa", sum := "6d492ee1ec6c24b78f9142a2741b2cb63c49727c6d465d8593310695a6b1bb3c", func := "loop.example/g01202/laws.FnExactTakeBucket", spec := "fnExactTakeBucket", apart := false }
def FnExactTakeBucketSaid : Prop := fnExactTakeBucketRow.holds Try.pinned (OpenSpec.ofChange fnExactTakeBucketSpec)

/-- ITS FALSE NEIGHBOUR: 'it returns false'. Refute it at one input. -/
def fnExactTakeBucketWrong : ChangeSpec := { name := "fnExactTakeBucket", fn := fun _ => fun
  | [d1, d2, d3] => { results := [.lit (.bool false)], args := [d1, d2, d3] }
  | _ => none }
def FnExactTakeBucketWrongFalsely : Prop := fnExactTakeBucketRow.holds Try.pinned (OpenSpec.ofChange fnExactTakeBucketWrong)

/-- 'laws.FnExactWaitFor': WHATEVER THE INPUT: true; the input reads as it did. -/
def fnExactWaitForSpec : ChangeSpec := { name := "fnExactWaitFor", fn := fun _ => fun
  | [d1, d2, d3] => { results := [.lit (.bool true)], args := [d1, d2, d3] }
  | _ => none }
def fnExactWaitForRow : OpenClaim := { program := "ytmdoddikaaaamaa", sum := "6d492ee1ec6c24b78f9142a2741b2cb63c49727c6d465d8593310695a6b1bb3c", func := "loop.example/g01202/laws.FnExactWaitFor", spec := "fnExactWaitFor", apart := false }
def FnExactWaitForSaid : Prop := fnExactWaitForRow.holds Try.pinned (OpenSpec.ofChange fnExactWaitForSpec)

/-- ITS FALSE NEIGHBOUR: 'it returns false'. Refute it at one input. -/
def fnExactWaitForWrong : ChangeSpec := { name := "fnExactWaitFor", fn := fun _ => fun
  | [d1, d2, d3] => { results := [.lit (.bool false)], args := [d1, d2, d3] }
  | _ => none }
def FnExactWaitForWrongFalsely : Prop := fnExactWaitForRow.holds Try.pinned (OpenSpec.ofChange fnExactWaitForWrong)

/-- 'laws.FnExactPenaltyOf': WHATEVER THE INPUT: true; the input reads as it did. -/
def fnExactPenaltyOfSpec : ChangeSpec := { name := "fnExactPenaltyOf", fn := fun _ => fun
  | [d] => { results := [.lit (.bool true)], args := [d] }
  | _ => none }
def fnExactPenaltyOfRow : OpenClaim := { program := "ytmdoddikaaaamaa", sum := "6d492ee1ec6c24b78f9142a2741b2cb63c49727c6d465d8593310695a6b1bb3c", func := "loop.example/g01202/laws.FnExactPenaltyOf", spec := "fnExactPenaltyOf", apart := false }
def FnExactPenaltyOfSaid : Prop := fnExactPenaltyOfRow.holds Try.pinned (OpenSpec.ofChange fnExactPenaltyOfSpec)

/-- ITS FALSE NEIGHBOUR: 'it returns false'. Refute it at one input. -/
def fnExactPenaltyOfWrong : ChangeSpec := { name := "fnExactPenaltyOf", fn := fun _ => fun
  | [d] => { results := [.lit (.bool false)], args := [d] }
  | _ => none }
def FnExactPenaltyOfWrongFalsely : Prop := fnExactPenaltyOfRow.holds Try.pinned (OpenSpec.ofChange fnExactPenaltyOfWrong)

/-- 'laws.FnExactRunBucket': WHATEVER THE INPUT: true; the input reads as it did. -/
def fnExactRunBucketSpec : ChangeSpec := { name := "fnExactRunBucket", fn := fun _ => fun
  | [d1, d2] => { results := [.lit (.bool true)], args := [d1, d2] }
  | _ => none }
def fnExactRunBucketRow : OpenClaim := { program := "ytmdoddikaaaamaa", sum := "6d492ee1ec6c24b78f9142a2741b2cb63c49727c6d465d8593310695a6b1bb3c", func := "loop.example/g01202/laws.FnExactRunBucket", spec := "fnExactRunBucket", unfollowed := true, recurses := true, apart := false }
def FnExactRunBucketSaid : Prop := fnExactRunBucketRow.holds Try.pinned (OpenSpec.ofChange fnExactRunBucketSpec)

/-- ITS FALSE NEIGHBOUR: 'it returns false'. Refute it at one input. -/
def fnExactRunBucketWrong : ChangeSpec := { name := "fnExactRunBucket", fn := fun _ => fun
  | [d1, d2] => { results := [.lit (.bool false)], args := [d1, d2] }
  | _ => none }
def FnExactRunBucketWrongFalsely : Prop := fnExactRunBucketRow.holds Try.pinned (OpenSpec.ofChange fnExactRunBucketWrong)

/-- 'laws.FnExactRunWindow': WHATEVER THE INPUT: true; the input reads as it did. -/
def fnExactRunWindowSpec : ChangeSpec := { name := "fnExactRunWindow", fn := fun _ => fun
  | [d1, d2, d3] => { results := [.lit (.bool true)], args := [d1, d2, d3] }
  | _ => none }
def fnExactRunWindowRow : OpenClaim := { program := "ytmdoddikaaaamaa", sum := "6d492ee1ec6c24b78f9142a2741b2cb63c49727c6d465d8593310695a6b1bb3c", func := "loop.example/g01202/laws.FnExactRunWindow", spec := "fnExactRunWindow", unfollowed := true, recurses := true, apart := false }
def FnExactRunWindowSaid : Prop := fnExactRunWindowRow.holds Try.pinned (OpenSpec.ofChange fnExactRunWindowSpec)

/-- ITS FALSE NEIGHBOUR: 'it returns false'. Refute it at one input. -/
def fnExactRunWindowWrong : ChangeSpec := { name := "fnExactRunWindow", fn := fun _ => fun
  | [d1, d2, d3] => { results := [.lit (.bool false)], args := [d1, d2, d3] }
  | _ => none }
def FnExactRunWindowWrongFalsely : Prop := fnExactRunWindowRow.holds Try.pinned (OpenSpec.ofChange fnExactRunWindowWrong)

/-- 'laws.FnExactAreBadWords': WHATEVER THE INPUT: true; the input reads as it did. -/
def fnExactAreBadWordsSpec : ChangeSpec := { name := "fnExactAreBadWords", fn := fun _ => fun
  | [d] => { results := [.lit (.bool true)], args := [d] }
  | _ => none }
def fnExactAreBadWordsRow : OpenClaim := { program := "ytmdoddikaaaamaa", sum := "6d492ee1ec6c24b78f9142a2741b2cb63c49727c6d465d8593310695a6b1bb3c", func := "loop.example/g01202/laws.FnExactAreBadWords", spec := "fnExactAreBadWords", unfollowed := true, recurses := true, apart := false }
def FnExactAreBadWordsSaid : Prop := fnExactAreBadWordsRow.holds Try.pinned (OpenSpec.ofChange fnExactAreBadWordsSpec)

/-- ITS FALSE NEIGHBOUR: 'it returns false'. Refute it at one input. -/
def fnExactAreBadWordsWrong : ChangeSpec := { name := "fnExactAreBadWords", fn := fun _ => fun
  | [d] => { results := [.lit (.bool false)], args := [d] }
  | _ => none }
def FnExactAreBadWordsWrongFalsely : Prop := fnExactAreBadWordsRow.holds Try.pinned (OpenSpec.ofChange fnExactAreBadWordsWrong)

/-- 'laws.FnExactAreStrikes': WHATEVER THE INPUT: true; the input reads as it did. -/
def fnExactAreStrikesSpec : ChangeSpec := { name := "fnExactAreStrikes", fn := fun _ => fun
  | [d] => { results := [.lit (.bool true)], args := [d] }
  | _ => none }
def fnExactAreStrikesRow : OpenClaim := { program := "ytmdoddikaaaamaa", sum := "6d492ee1ec6c24b78f9142a2741b2cb63c49727c6d465d8593310695a6b1bb3c", func := "loop.example/g01202/laws.FnExactAreStrikes", spec := "fnExactAreStrikes", unfollowed := true, recurses := true, apart := false }
def FnExactAreStrikesSaid : Prop := fnExactAreStrikesRow.holds Try.pinned (OpenSpec.ofChange fnExactAreStrikesSpec)

/-- ITS FALSE NEIGHBOUR: 'it returns false'. Refute it at one input. -/
def fnExactAreStrikesWrong : ChangeSpec := { name := "fnExactAreStrikes", fn := fun _ => fun
  | [d] => { results := [.lit (.bool false)], args := [d] }
  | _ => none }
def FnExactAreStrikesWrongFalsely : Prop := fnExactAreStrikesRow.holds Try.pinned (OpenSpec.ofChange fnExactAreStrikesWrong)

/-- 'laws.FnExactAddStrike': WHATEVER THE INPUT: true; the input reads as it did. -/
def fnExactAddStrikeSpec : ChangeSpec := { name := "fnExactAddStrike", fn := fun _ => fun
  | [d1, d2] => { results := [.lit (.bool true)], args := [d1, d2] }
  | _ => none }
def fnExactAddStrikeRow : OpenClaim := { program := "ytmdoddikaaaamaa", sum := "6d492ee1ec6c24b78f9142a2741b2cb63c49727c6d465d8593310695a6b1bb3c", func := "loop.example/g01202/laws.FnExactAddStrike", spec := "fnExactAddStrike", unfollowed := true, recurses := true, apart := false }
def FnExactAddStrikeSaid : Prop := fnExactAddStrikeRow.holds Try.pinned (OpenSpec.ofChange fnExactAddStrikeSpec)

/-- ITS FALSE NEIGHBOUR: 'it returns false'. Refute it at one input. -/
def fnExactAddStrikeWrong : ChangeSpec := { name := "fnExactAddStrike", fn := fun _ => fun
  | [d1, d2] => { results := [.lit (.bool false)], args := [d1, d2] }
  | _ => none }
def FnExactAddStrikeWrongFalsely : Prop := fnExactAddStrikeRow.holds Try.pinned (OpenSpec.ofChange fnExactAddStrikeWrong)

/-- 'laws.FnExactPointsOf': WHATEVER THE INPUT: true; the input reads as it did. -/
def fnExactPointsOfSpec : ChangeSpec := { name := "fnExactPointsOf", fn := fun _ => fun
  | [d1, d2, d3, d4] => { results := [.lit (.bool true)], args := [d1, d2, d3, d4] }
  | _ => none }
def fnExactPointsOfRow : OpenClaim := { program := "ytmdoddikaaaamaa", sum := "6d492ee1ec6c24b78f9142a2741b2cb63c49727c6d465d8593310695a6b1bb3c", func := "loop.example/g01202/laws.FnExactPointsOf", spec := "fnExactPointsOf", unfollowed := true, recurses := true, apart := false }
def FnExactPointsOfSaid : Prop := fnExactPointsOfRow.holds Try.pinned (OpenSpec.ofChange fnExactPointsOfSpec)

/-- ITS FALSE NEIGHBOUR: 'it returns false'. Refute it at one input. -/
def fnExactPointsOfWrong : ChangeSpec := { name := "fnExactPointsOf", fn := fun _ => fun
  | [d1, d2, d3, d4] => { results := [.lit (.bool false)], args := [d1, d2, d3, d4] }
  | _ => none }
def FnExactPointsOfWrongFalsely : Prop := fnExactPointsOfRow.holds Try.pinned (OpenSpec.ofChange fnExactPointsOfWrong)

/- THE SECOND FORM. 'bulk': how many values and letters a reading holds, each counted each time it is reached (what is shared counts as often as it is met; a slice's spare places count too). A statement '..UptoSaid' is the law's where the arguments, and the package variables that the reading takes, are together of bulk at most 1048576: NARROWER than '..Said'. Prove '..Said' where nothing that the law and all that it calls make is longer than what came in: it says more and counts as full. Else prove '..UptoSaid'. A law counts once. -/
mutual
def uptoBulk {H : Type} : DataW H → Nat
  | .lit (.string bytes) => bytes.length + 1
  | .lit _ => 1
  | .nil => 1
  | .ptr d => uptoBulk d + 1
  | .slice elems spare => uptoBulkAll elems + uptoBulkAll spare + 1
  | .agg parts => uptoBulkAll parts + 1
  | .iface _ d => uptoBulk d + 1
  | .map entries => uptoBulkEntries entries + 1
  | .held _ => 1
def uptoBulkAll {H : Type} : List (DataW H) → Nat
  | [] => 0
  | d :: r => uptoBulk d + uptoBulkAll r
def uptoBulkEntries {H : Type} : List (Lit × DataW H) → Nat
  | [] => 0
  | x :: r => uptoBulkEntry x + uptoBulkEntries r
def uptoBulkEntry {H : Type} : Lit × DataW H → Nat
  | (.string bytes, d) => bytes.length + uptoBulk d + 1
  | (_, d) => uptoBulk d + 1
 end
def uptoSmall : (H : Type) → List (DataW H) → Bool := fun _ ds => decide (uptoBulkAll ds ≤ 1048576)
def OpenSpec.upto (s : _root_.Go.ChangeSpec) : _root_.Go.OpenSpec := { _root_.Go.OpenSpec.ofChange s with cond := some uptoSmall }

/-- 'laws.FnExactValidBucket', WHERE WHAT IT READS IS OF BULK AT MOST 1048576: true; the input reads as it did. -/
def fnExactValidBucketUptoRow : OpenClaim := { program := "ytmdoddikaaaamaa", sum := "6d492ee1ec6c24b78f9142a2741b2cb63c49727c6d465d8593310695a6b1bb3c", func := "loop.example/g01202/laws.FnExactValidBucket", spec := "fnExactValidBucket", apart := false, narrowed := true }
def FnExactValidBucketUptoSaid : Prop := fnExactValidBucketUptoRow.holds Try.pinned (OpenSpec.upto fnExactValidBucketSpec)

/-- 'laws.FnExactNewBucket', WHERE WHAT IT READS IS OF BULK AT MOST 1048576: true; the input reads as it did. -/
def fnExactNewBucketUptoRow : OpenClaim := { program := "ytmdoddikaaaamaa", sum := "6d492ee1ec6c24b78f9142a2741b2cb63c49727c6d465d8593310695a6b1bb3c", func := "loop.example/g01202/laws.FnExactNewBucket", spec := "fnExactNewBucket", apart := false, narrowed := true }
def FnExactNewBucketUptoSaid : Prop := fnExactNewBucketUptoRow.holds Try.pinned (OpenSpec.upto fnExactNewBucketSpec)

/-- 'laws.FnExactLeftAt', WHERE WHAT IT READS IS OF BULK AT MOST 1048576: true; the input reads as it did. -/
def fnExactLeftAtUptoRow : OpenClaim := { program := "ytmdoddikaaaamaa", sum := "6d492ee1ec6c24b78f9142a2741b2cb63c49727c6d465d8593310695a6b1bb3c", func := "loop.example/g01202/laws.FnExactLeftAt", spec := "fnExactLeftAt", apart := false, narrowed := true }
def FnExactLeftAtUptoSaid : Prop := fnExactLeftAtUptoRow.holds Try.pinned (OpenSpec.upto fnExactLeftAtSpec)

/-- 'laws.FnExactTakeBucket', WHERE WHAT IT READS IS OF BULK AT MOST 1048576: true; the input reads as it did. -/
def fnExactTakeBucketUptoRow : OpenClaim := { program := "ytmdoddikaaaamaa", sum := "6d492ee1ec6c24b78f9142a2741b2cb63c49727c6d465d8593310695a6b1bb3c", func := "loop.example/g01202/laws.FnExactTakeBucket", spec := "fnExactTakeBucket", apart := false, narrowed := true }
def FnExactTakeBucketUptoSaid : Prop := fnExactTakeBucketUptoRow.holds Try.pinned (OpenSpec.upto fnExactTakeBucketSpec)

/-- 'laws.FnExactWaitFor', WHERE WHAT IT READS IS OF BULK AT MOST 1048576: true; the input reads as it did. -/
def fnExactWaitForUptoRow : OpenClaim := { program := "ytmdoddikaaaamaa", sum := "6d492ee1ec6c24b78f9142a2741b2cb63c49727c6d465d8593310695a6b1bb3c", func := "loop.example/g01202/laws.FnExactWaitFor", spec := "fnExactWaitFor", apart := false, narrowed := true }
def FnExactWaitForUptoSaid : Prop := fnExactWaitForUptoRow.holds Try.pinned (OpenSpec.upto fnExactWaitForSpec)

/-- 'laws.FnExactPenaltyOf', WHERE WHAT IT READS IS OF BULK AT MOST 1048576: true; the input reads as it did. -/
def fnExactPenaltyOfUptoRow : OpenClaim := { program := "ytmdoddikaaaamaa", sum := "6d492ee1ec6c24b78f9142a2741b2cb63c49727c6d465d8593310695a6b1bb3c", func := "loop.example/g01202/laws.FnExactPenaltyOf", spec := "fnExactPenaltyOf", apart := false, narrowed := true }
def FnExactPenaltyOfUptoSaid : Prop := fnExactPenaltyOfUptoRow.holds Try.pinned (OpenSpec.upto fnExactPenaltyOfSpec)

/-- 'laws.FnExactRunBucket', WHERE WHAT IT READS IS OF BULK AT MOST 1048576: true; the input reads as it did. -/
def fnExactRunBucketUptoRow : OpenClaim := { program := "ytmdoddikaaaamaa", sum := "6d492ee1ec6c24b78f9142a2741b2cb63c49727c6d465d8593310695a6b1bb3c", func := "loop.example/g01202/laws.FnExactRunBucket", spec := "fnExactRunBucket", unfollowed := true, recurses := true, apart := false, narrowed := true }
def FnExactRunBucketUptoSaid : Prop := fnExactRunBucketUptoRow.holds Try.pinned (OpenSpec.upto fnExactRunBucketSpec)

/-- 'laws.FnExactRunWindow', WHERE WHAT IT READS IS OF BULK AT MOST 1048576: true; the input reads as it did. -/
def fnExactRunWindowUptoRow : OpenClaim := { program := "ytmdoddikaaaamaa", sum := "6d492ee1ec6c24b78f9142a2741b2cb63c49727c6d465d8593310695a6b1bb3c", func := "loop.example/g01202/laws.FnExactRunWindow", spec := "fnExactRunWindow", unfollowed := true, recurses := true, apart := false, narrowed := true }
def FnExactRunWindowUptoSaid : Prop := fnExactRunWindowUptoRow.holds Try.pinned (OpenSpec.upto fnExactRunWindowSpec)

/-- 'laws.FnExactAreBadWords', WHERE WHAT IT READS IS OF BULK AT MOST 1048576: true; the input reads as it did. -/
def fnExactAreBadWordsUptoRow : OpenClaim := { program := "ytmdoddikaaaamaa", sum := "6d492ee1ec6c24b78f9142a2741b2cb63c49727c6d465d8593310695a6b1bb3c", func := "loop.example/g01202/laws.FnExactAreBadWords", spec := "fnExactAreBadWords", unfollowed := true, recurses := true, apart := false, narrowed := true }
def FnExactAreBadWordsUptoSaid : Prop := fnExactAreBadWordsUptoRow.holds Try.pinned (OpenSpec.upto fnExactAreBadWordsSpec)

/-- 'laws.FnExactAreStrikes', WHERE WHAT IT READS IS OF BULK AT MOST 1048576: true; the input reads as it did. -/
def fnExactAreStrikesUptoRow : OpenClaim := { program := "ytmdoddikaaaamaa", sum := "6d492ee1ec6c24b78f9142a2741b2cb63c49727c6d465d8593310695a6b1bb3c", func := "loop.example/g01202/laws.FnExactAreStrikes", spec := "fnExactAreStrikes", unfollowed := true, recurses := true, apart := false, narrowed := true }
def FnExactAreStrikesUptoSaid : Prop := fnExactAreStrikesUptoRow.holds Try.pinned (OpenSpec.upto fnExactAreStrikesSpec)

/-- 'laws.FnExactAddStrike', WHERE WHAT IT READS IS OF BULK AT MOST 1048576: true; the input reads as it did. -/
def fnExactAddStrikeUptoRow : OpenClaim := { program := "ytmdoddikaaaamaa", sum := "6d492ee1ec6c24b78f9142a2741b2cb63c49727c6d465d8593310695a6b1bb3c", func := "loop.example/g01202/laws.FnExactAddStrike", spec := "fnExactAddStrike", unfollowed := true, recurses := true, apart := false, narrowed := true }
def FnExactAddStrikeUptoSaid : Prop := fnExactAddStrikeUptoRow.holds Try.pinned (OpenSpec.upto fnExactAddStrikeSpec)

/-- 'laws.FnExactPointsOf', WHERE WHAT IT READS IS OF BULK AT MOST 1048576: true; the input reads as it did. -/
def fnExactPointsOfUptoRow : OpenClaim := { program := "ytmdoddikaaaamaa", sum := "6d492ee1ec6c24b78f9142a2741b2cb63c49727c6d465d8593310695a6b1bb3c", func := "loop.example/g01202/laws.FnExactPointsOf", spec := "fnExactPointsOf", unfollowed := true, recurses := true, apart := false, narrowed := true }
def FnExactPointsOfUptoSaid : Prop := fnExactPointsOfUptoRow.holds Try.pinned (OpenSpec.upto fnExactPointsOfSpec)

end Rows
end Go.Proofs.Ytmdoddikaaaamaa
