/-
  No cell of these rows narrows 'for every input' (looked for: loops, veiled, ifaces, maps, wideKeys, modest, calm, conditions, laid).
  DERIVED. THE GIVEN ROWS OF THIS SEAT. 10 by the template 'for every input the law returns true; each argument reads behind the call as it read before'; 0 by the template 'total and deterministic' (their statements: YtmdoddikaaaamabTotals.lean).
  GIVEN WITH THE SEED: the statements are not yours to turn. If you find one false, say at which input.
  Laid BY PROGRAM, IN A SANDBOX (cutbox-rows.mjs): the forced cells as the released guide's own fill.sh prints them over the translation 33602a73fa3fbeb3… (all of the seat's roots in one cut). By AI agents, Wed Nov 11 2026. No macro, syntax, notation, axiom, sorry.
-/
import Derived.Test.YtmdoddikaaaamabChecked
import GoSem.Claim
import GoSem.ClaimJoined
import GoSem.ClaimMapViews
import Derived.JoinedTies
import Derived.KernelRfl
namespace Go.Proofs.Ytmdoddikaaaamab
/- THE CELL 'sum', in the pinned program and in every row, IS THE sha256 OF THE DUMP (.gsa) THAT YtmdoddikaaaamabProg.lean LOADS. Nothing in Lean hashes anything: it is a label: what it is worth is what the hold of that sum in a sandbox is worth. -/
noncomputable def Try.pinned : Pinned := { name := "ytmdoddikaaaamab", sum := "33602a73fa3fbeb359b102452b3bda9b731d8cd7b5c2c58e14b98b565145c8fc", checked := Try.checked }
namespace Rows
def none {H : Type} : Left H := { results := [], args := [] }

/-- 'laws.FnExactForgiveOld': WHATEVER THE INPUT: true; the input reads as it did. -/
def fnExactForgiveOldSpec : ChangeSpec := { name := "fnExactForgiveOld", fn := fun _ => fun
  | [d1, d2] => { results := [.lit (.bool true)], args := [d1, d2] }
  | _ => none }
def fnExactForgiveOldRow : OpenClaim := { program := "ytmdoddikaaaamab", sum := "33602a73fa3fbeb359b102452b3bda9b731d8cd7b5c2c58e14b98b565145c8fc", func := "loop.example/g01202/laws.FnExactForgiveOld", spec := "fnExactForgiveOld", unfollowed := true, recurses := true, apart := false }
def FnExactForgiveOldSaid : Prop := fnExactForgiveOldRow.holds Try.pinned (OpenSpec.ofChange fnExactForgiveOldSpec)

/-- ITS FALSE NEIGHBOUR: 'it returns false'. Refute it at one input. -/
def fnExactForgiveOldWrong : ChangeSpec := { name := "fnExactForgiveOld", fn := fun _ => fun
  | [d1, d2] => { results := [.lit (.bool false)], args := [d1, d2] }
  | _ => none }
def FnExactForgiveOldWrongFalsely : Prop := fnExactForgiveOldRow.holds Try.pinned (OpenSpec.ofChange fnExactForgiveOldWrong)

/-- 'laws.FnExactWorstMembers': WHATEVER THE INPUT: true; the input reads as it did. -/
def fnExactWorstMembersSpec : ChangeSpec := { name := "fnExactWorstMembers", fn := fun _ => fun
  | [d1, d2, d3, d4] => { results := [.lit (.bool true)], args := [d1, d2, d3, d4] }
  | _ => none }
def fnExactWorstMembersRow : OpenClaim := { program := "ytmdoddikaaaamab", sum := "33602a73fa3fbeb359b102452b3bda9b731d8cd7b5c2c58e14b98b565145c8fc", func := "loop.example/g01202/laws.FnExactWorstMembers", spec := "fnExactWorstMembers", unfollowed := true, recurses := true, apart := false }
def FnExactWorstMembersSaid : Prop := fnExactWorstMembersRow.holds Try.pinned (OpenSpec.ofChange fnExactWorstMembersSpec)

/-- ITS FALSE NEIGHBOUR: 'it returns false'. Refute it at one input. -/
def fnExactWorstMembersWrong : ChangeSpec := { name := "fnExactWorstMembers", fn := fun _ => fun
  | [d1, d2, d3, d4] => { results := [.lit (.bool false)], args := [d1, d2, d3, d4] }
  | _ => none }
def FnExactWorstMembersWrongFalsely : Prop := fnExactWorstMembersRow.holds Try.pinned (OpenSpec.ofChange fnExactWorstMembersWrong)

/-- 'laws.FnExactHasBadWord': WHATEVER THE INPUT: true; the input reads as it did. -/
def fnExactHasBadWordSpec : ChangeSpec := { name := "fnExactHasBadWord", fn := fun _ => fun
  | [d1, d2] => { results := [.lit (.bool true)], args := [d1, d2] }
  | _ => none }
def fnExactHasBadWordRow : OpenClaim := { program := "ytmdoddikaaaamab", sum := "33602a73fa3fbeb359b102452b3bda9b731d8cd7b5c2c58e14b98b565145c8fc", func := "loop.example/g01202/laws.FnExactHasBadWord", spec := "fnExactHasBadWord", unfollowed := true, recurses := true, apart := false }
def FnExactHasBadWordSaid : Prop := fnExactHasBadWordRow.holds Try.pinned (OpenSpec.ofChange fnExactHasBadWordSpec)

/-- ITS FALSE NEIGHBOUR: 'it returns false'. Refute it at one input. -/
def fnExactHasBadWordWrong : ChangeSpec := { name := "fnExactHasBadWord", fn := fun _ => fun
  | [d1, d2] => { results := [.lit (.bool false)], args := [d1, d2] }
  | _ => none }
def FnExactHasBadWordWrongFalsely : Prop := fnExactHasBadWordRow.holds Try.pinned (OpenSpec.ofChange fnExactHasBadWordWrong)

/-- 'laws.FnExactBadWordsIn': WHATEVER THE INPUT: true; the input reads as it did. -/
def fnExactBadWordsInSpec : ChangeSpec := { name := "fnExactBadWordsIn", fn := fun _ => fun
  | [d1, d2] => { results := [.lit (.bool true)], args := [d1, d2] }
  | _ => none }
def fnExactBadWordsInRow : OpenClaim := { program := "ytmdoddikaaaamab", sum := "33602a73fa3fbeb359b102452b3bda9b731d8cd7b5c2c58e14b98b565145c8fc", func := "loop.example/g01202/laws.FnExactBadWordsIn", spec := "fnExactBadWordsIn", unfollowed := true, recurses := true, apart := false }
def FnExactBadWordsInSaid : Prop := fnExactBadWordsInRow.holds Try.pinned (OpenSpec.ofChange fnExactBadWordsInSpec)

/-- ITS FALSE NEIGHBOUR: 'it returns false'. Refute it at one input. -/
def fnExactBadWordsInWrong : ChangeSpec := { name := "fnExactBadWordsIn", fn := fun _ => fun
  | [d1, d2] => { results := [.lit (.bool false)], args := [d1, d2] }
  | _ => none }
def FnExactBadWordsInWrongFalsely : Prop := fnExactBadWordsInRow.holds Try.pinned (OpenSpec.ofChange fnExactBadWordsInWrong)

/-- 'laws.FnExactCensorText': WHATEVER THE INPUT: true; the input reads as it did. -/
def fnExactCensorTextSpec : ChangeSpec := { name := "fnExactCensorText", fn := fun _ => fun
  | [d1, d2] => { results := [.lit (.bool true)], args := [d1, d2] }
  | _ => none }
def fnExactCensorTextRow : OpenClaim := { program := "ytmdoddikaaaamab", sum := "33602a73fa3fbeb359b102452b3bda9b731d8cd7b5c2c58e14b98b565145c8fc", func := "loop.example/g01202/laws.FnExactCensorText", spec := "fnExactCensorText", inPlace := ["internal/abi.NoEscape", "internal/bytealg.MakeNoZero"], unfollowed := true, recurses := true, apart := false }
def FnExactCensorTextSaid : Prop := fnExactCensorTextRow.holds Try.pinned (OpenSpec.ofChange fnExactCensorTextSpec)

/-- ITS FALSE NEIGHBOUR: 'it returns false'. Refute it at one input. -/
def fnExactCensorTextWrong : ChangeSpec := { name := "fnExactCensorText", fn := fun _ => fun
  | [d1, d2] => { results := [.lit (.bool false)], args := [d1, d2] }
  | _ => none }
def FnExactCensorTextWrongFalsely : Prop := fnExactCensorTextRow.holds Try.pinned (OpenSpec.ofChange fnExactCensorTextWrong)

/-- 'laws.FnExactWordsOf': WHATEVER THE INPUT: true; the input reads as it did. -/
def fnExactWordsOfSpec : ChangeSpec := { name := "fnExactWordsOf", fn := fun _ => fun
  | [d] => { results := [.lit (.bool true)], args := [d] }
  | _ => none }
def fnExactWordsOfRow : OpenClaim := { program := "ytmdoddikaaaamab", sum := "33602a73fa3fbeb359b102452b3bda9b731d8cd7b5c2c58e14b98b565145c8fc", func := "loop.example/g01202/laws.FnExactWordsOf", spec := "fnExactWordsOf", unfollowed := true, recurses := true, apart := false }
def FnExactWordsOfSaid : Prop := fnExactWordsOfRow.holds Try.pinned (OpenSpec.ofChange fnExactWordsOfSpec)

/-- ITS FALSE NEIGHBOUR: 'it returns false'. Refute it at one input. -/
def fnExactWordsOfWrong : ChangeSpec := { name := "fnExactWordsOf", fn := fun _ => fun
  | [d] => { results := [.lit (.bool false)], args := [d] }
  | _ => none }
def FnExactWordsOfWrongFalsely : Prop := fnExactWordsOfRow.holds Try.pinned (OpenSpec.ofChange fnExactWordsOfWrong)

/-- 'laws.FnExactJoinPresence': WHATEVER THE INPUT: true; the input reads as it did. -/
def fnExactJoinPresenceSpec : ChangeSpec := { name := "fnExactJoinPresence", fn := fun _ => fun
  | [d1, d2] => { results := [.lit (.bool true)], args := [d1, d2] }
  | _ => none }
def fnExactJoinPresenceRow : OpenClaim := { program := "ytmdoddikaaaamab", sum := "33602a73fa3fbeb359b102452b3bda9b731d8cd7b5c2c58e14b98b565145c8fc", func := "loop.example/g01202/laws.FnExactJoinPresence", spec := "fnExactJoinPresence", unfollowed := true, recurses := true, apart := false }
def FnExactJoinPresenceSaid : Prop := fnExactJoinPresenceRow.holds Try.pinned (OpenSpec.ofChange fnExactJoinPresenceSpec)

/-- ITS FALSE NEIGHBOUR: 'it returns false'. Refute it at one input. -/
def fnExactJoinPresenceWrong : ChangeSpec := { name := "fnExactJoinPresence", fn := fun _ => fun
  | [d1, d2] => { results := [.lit (.bool false)], args := [d1, d2] }
  | _ => none }
def FnExactJoinPresenceWrongFalsely : Prop := fnExactJoinPresenceRow.holds Try.pinned (OpenSpec.ofChange fnExactJoinPresenceWrong)

/-- 'laws.FnWaits': WHATEVER THE INPUT: true; the input reads as it did. -/
def fnWaitsSpec : ChangeSpec := { name := "fnWaits", fn := fun _ => fun
  | [d1, d2] => { results := [.lit (.bool true)], args := [d1, d2] }
  | _ => none }
def fnWaitsRow : OpenClaim := { program := "ytmdoddikaaaamab", sum := "33602a73fa3fbeb359b102452b3bda9b731d8cd7b5c2c58e14b98b565145c8fc", func := "loop.example/g01202/laws.FnWaits", spec := "fnWaits", apart := false }
def FnWaitsSaid : Prop := fnWaitsRow.holds Try.pinned (OpenSpec.ofChange fnWaitsSpec)

/-- ITS FALSE NEIGHBOUR: 'it returns false'. Refute it at one input. -/
def fnWaitsWrong : ChangeSpec := { name := "fnWaits", fn := fun _ => fun
  | [d1, d2] => { results := [.lit (.bool false)], args := [d1, d2] }
  | _ => none }
def FnWaitsWrongFalsely : Prop := fnWaitsRow.holds Try.pinned (OpenSpec.ofChange fnWaitsWrong)

/-- 'laws.FnBuckets': WHATEVER THE INPUT: true; the input reads as it did. -/
def fnBucketsSpec : ChangeSpec := { name := "fnBuckets", fn := fun _ => fun
  | [d1, d2] => { results := [.lit (.bool true)], args := [d1, d2] }
  | _ => none }
def fnBucketsRow : OpenClaim := { program := "ytmdoddikaaaamab", sum := "33602a73fa3fbeb359b102452b3bda9b731d8cd7b5c2c58e14b98b565145c8fc", func := "loop.example/g01202/laws.FnBuckets", spec := "fnBuckets", unfollowed := true, recurses := true, apart := false }
def FnBucketsSaid : Prop := fnBucketsRow.holds Try.pinned (OpenSpec.ofChange fnBucketsSpec)

/-- ITS FALSE NEIGHBOUR: 'it returns false'. Refute it at one input. -/
def fnBucketsWrong : ChangeSpec := { name := "fnBuckets", fn := fun _ => fun
  | [d1, d2] => { results := [.lit (.bool false)], args := [d1, d2] }
  | _ => none }
def FnBucketsWrongFalsely : Prop := fnBucketsRow.holds Try.pinned (OpenSpec.ofChange fnBucketsWrong)

/-- 'laws.FnWindows': WHATEVER THE INPUT: true; the input reads as it did. -/
def fnWindowsSpec : ChangeSpec := { name := "fnWindows", fn := fun _ => fun
  | [d1, d2] => { results := [.lit (.bool true)], args := [d1, d2] }
  | _ => none }
def fnWindowsRow : OpenClaim := { program := "ytmdoddikaaaamab", sum := "33602a73fa3fbeb359b102452b3bda9b731d8cd7b5c2c58e14b98b565145c8fc", func := "loop.example/g01202/laws.FnWindows", spec := "fnWindows", unfollowed := true, recurses := true, apart := false }
def FnWindowsSaid : Prop := fnWindowsRow.holds Try.pinned (OpenSpec.ofChange fnWindowsSpec)

/-- ITS FALSE NEIGHBOUR: 'it returns false'. Refute it at one input. -/
def fnWindowsWrong : ChangeSpec := { name := "fnWindows", fn := fun _ => fun
  | [d1, d2] => { results := [.lit (.bool false)], args := [d1, d2] }
  | _ => none }
def FnWindowsWrongFalsely : Prop := fnWindowsRow.holds Try.pinned (OpenSpec.ofChange fnWindowsWrong)

/- THE SECOND FORM. 'bulk': how many values and letters a reading holds, each counted each time it is reached (what is shared counts as often as it is met; a slice's spare places count too). A statement '..UptoSaid' is the law's where the arguments, and the package variables that the reading takes, are together of bulk at most 1048576: NARROWER than '..Said'. Prove '..Said' where nothing that the law and all that it calls make is longer than what came in: it says more and counts as full. Else prove '..UptoSaid'. A law counts once. -/
mutual
def uptoBulk {H : Type} : DataW H → Nat
  | .lit (.string bytes) => bytes.length + 1
  | .lit _ => 1
  | .nil => 1
  | .ptr d => uptoBulk d + 1
  | .slice elems spare => uptoBulkAll elems + uptoBulkAll spare + 1
  | .agg parts => uptoBulkAll parts + 1
  | .iface _ d => uptoBulk d + 1
  | .map entries => uptoBulkEntries entries + 1
  | .held _ => 1
def uptoBulkAll {H : Type} : List (DataW H) → Nat
  | [] => 0
  | d :: r => uptoBulk d + uptoBulkAll r
def uptoBulkEntries {H : Type} : List (Lit × DataW H) → Nat
  | [] => 0
  | x :: r => uptoBulkEntry x + uptoBulkEntries r
def uptoBulkEntry {H : Type} : Lit × DataW H → Nat
  | (.string bytes, d) => bytes.length + uptoBulk d + 1
  | (_, d) => uptoBulk d + 1
 end
def uptoSmall : (H : Type) → List (DataW H) → Bool := fun _ ds => decide (uptoBulkAll ds ≤ 1048576)
def OpenSpec.upto (s : _root_.Go.ChangeSpec) : _root_.Go.OpenSpec := { _root_.Go.OpenSpec.ofChange s with cond := some uptoSmall }

/-- 'laws.FnExactForgiveOld', WHERE WHAT IT READS IS OF BULK AT MOST 1048576: true; the input reads as it did. -/
def fnExactForgiveOldUptoRow : OpenClaim := { program := "ytmdoddikaaaamab", sum := "33602a73fa3fbeb359b102452b3bda9b731d8cd7b5c2c58e14b98b565145c8fc", func := "loop.example/g01202/laws.FnExactForgiveOld", spec := "fnExactForgiveOld", unfollowed := true, recurses := true, apart := false, narrowed := true }
def FnExactForgiveOldUptoSaid : Prop := fnExactForgiveOldUptoRow.holds Try.pinned (OpenSpec.upto fnExactForgiveOldSpec)

/-- 'laws.FnExactWorstMembers', WHERE WHAT IT READS IS OF BULK AT MOST 1048576: true; the input reads as it did. -/
def fnExactWorstMembersUptoRow : OpenClaim := { program := "ytmdoddikaaaamab", sum := "33602a73fa3fbeb359b102452b3bda9b731d8cd7b5c2c58e14b98b565145c8fc", func := "loop.example/g01202/laws.FnExactWorstMembers", spec := "fnExactWorstMembers", unfollowed := true, recurses := true, apart := false, narrowed := true }
def FnExactWorstMembersUptoSaid : Prop := fnExactWorstMembersUptoRow.holds Try.pinned (OpenSpec.upto fnExactWorstMembersSpec)

/-- 'laws.FnExactHasBadWord', WHERE WHAT IT READS IS OF BULK AT MOST 1048576: true; the input reads as it did. -/
def fnExactHasBadWordUptoRow : OpenClaim := { program := "ytmdoddikaaaamab", sum := "33602a73fa3fbeb359b102452b3bda9b731d8cd7b5c2c58e14b98b565145c8fc", func := "loop.example/g01202/laws.FnExactHasBadWord", spec := "fnExactHasBadWord", unfollowed := true, recurses := true, apart := false, narrowed := true }
def FnExactHasBadWordUptoSaid : Prop := fnExactHasBadWordUptoRow.holds Try.pinned (OpenSpec.upto fnExactHasBadWordSpec)

/-- 'laws.FnExactBadWordsIn', WHERE WHAT IT READS IS OF BULK AT MOST 1048576: true; the input reads as it did. -/
def fnExactBadWordsInUptoRow : OpenClaim := { program := "ytmdoddikaaaamab", sum := "33602a73fa3fbeb359b102452b3bda9b731d8cd7b5c2c58e14b98b565145c8fc", func := "loop.example/g01202/laws.FnExactBadWordsIn", spec := "fnExactBadWordsIn", unfollowed := true, recurses := true, apart := false, narrowed := true }
def FnExactBadWordsInUptoSaid : Prop := fnExactBadWordsInUptoRow.holds Try.pinned (OpenSpec.upto fnExactBadWordsInSpec)

/-- 'laws.FnExactCensorText', WHERE WHAT IT READS IS OF BULK AT MOST 1048576: true; the input reads as it did. -/
def fnExactCensorTextUptoRow : OpenClaim := { program := "ytmdoddikaaaamab", sum := "33602a73fa3fbeb359b102452b3bda9b731d8cd7b5c2c58e14b98b565145c8fc", func := "loop.example/g01202/laws.FnExactCensorText", spec := "fnExactCensorText", inPlace := ["internal/abi.NoEscape", "internal/bytealg.MakeNoZero"], unfollowed := true, recurses := true, apart := false, narrowed := true }
def FnExactCensorTextUptoSaid : Prop := fnExactCensorTextUptoRow.holds Try.pinned (OpenSpec.upto fnExactCensorTextSpec)

/-- 'laws.FnExactWordsOf', WHERE WHAT IT READS IS OF BULK AT MOST 1048576: true; the input reads as it did. -/
def fnExactWordsOfUptoRow : OpenClaim := { program := "ytmdoddikaaaamab", sum := "33602a73fa3fbeb359b102452b3bda9b731d8cd7b5c2c58e14b98b565145c8fc", func := "loop.example/g01202/laws.FnExactWordsOf", spec := "fnExactWordsOf", unfollowed := true, recurses := true, apart := false, narrowed := true }
def FnExactWordsOfUptoSaid : Prop := fnExactWordsOfUptoRow.holds Try.pinned (OpenSpec.upto fnExactWordsOfSpec)

/-- 'laws.FnExactJoinPresence', WHERE WHAT IT READS IS OF BULK AT MOST 1048576: true; the input reads as it did. -/
def fnExactJoinPresenceUptoRow : OpenClaim := { program := "ytmdoddikaaaamab", sum := "33602a73fa3fbeb359b102452b3bda9b731d8cd7b5c2c58e14b98b565145c8fc", func := "loop.example/g01202/laws.FnExactJoinPresence", spec := "fnExactJoinPresence", unfollowed := true, recurses := true, apart := false, narrowed := true }
def FnExactJoinPresenceUptoSaid : Prop := fnExactJoinPresenceUptoRow.holds Try.pinned (OpenSpec.upto fnExactJoinPresenceSpec)

/-- 'laws.FnWaits', WHERE WHAT IT READS IS OF BULK AT MOST 1048576: true; the input reads as it did. -/
def fnWaitsUptoRow : OpenClaim := { program := "ytmdoddikaaaamab", sum := "33602a73fa3fbeb359b102452b3bda9b731d8cd7b5c2c58e14b98b565145c8fc", func := "loop.example/g01202/laws.FnWaits", spec := "fnWaits", apart := false, narrowed := true }
def FnWaitsUptoSaid : Prop := fnWaitsUptoRow.holds Try.pinned (OpenSpec.upto fnWaitsSpec)

/-- 'laws.FnBuckets', WHERE WHAT IT READS IS OF BULK AT MOST 1048576: true; the input reads as it did. -/
def fnBucketsUptoRow : OpenClaim := { program := "ytmdoddikaaaamab", sum := "33602a73fa3fbeb359b102452b3bda9b731d8cd7b5c2c58e14b98b565145c8fc", func := "loop.example/g01202/laws.FnBuckets", spec := "fnBuckets", unfollowed := true, recurses := true, apart := false, narrowed := true }
def FnBucketsUptoSaid : Prop := fnBucketsUptoRow.holds Try.pinned (OpenSpec.upto fnBucketsSpec)

/-- 'laws.FnWindows', WHERE WHAT IT READS IS OF BULK AT MOST 1048576: true; the input reads as it did. -/
def fnWindowsUptoRow : OpenClaim := { program := "ytmdoddikaaaamab", sum := "33602a73fa3fbeb359b102452b3bda9b731d8cd7b5c2c58e14b98b565145c8fc", func := "loop.example/g01202/laws.FnWindows", spec := "fnWindows", unfollowed := true, recurses := true, apart := false, narrowed := true }
def FnWindowsUptoSaid : Prop := fnWindowsUptoRow.holds Try.pinned (OpenSpec.upto fnWindowsSpec)

end Rows
end Go.Proofs.Ytmdoddikaaaamab
