/-
  No cell of these rows narrows 'for every input' (looked for: loops, veiled, ifaces, maps, wideKeys, modest, calm, conditions, laid).
  DERIVED. THE GIVEN ROWS OF THIS SEAT. 9 by the template 'for every input the law returns true; each argument reads behind the call as it read before'; 0 by the template 'total and deterministic' (their statements: YtgomffcdoglbfaaTotals.lean).
  GIVEN WITH THE SEED: the statements are not yours to turn. If you find one false, say at which input.
  Laid BY PROGRAM, IN A SANDBOX (cutbox-rows.mjs): the forced cells as the released guide's own fill.sh prints them over the translation 9a910f8cb4a911e3… (all of the seat's roots in one cut). By AI agents, Wed Nov 11 2026. No macro, syntax, notation, axiom, sorry.
-/
import Derived.Test.YtgomffcdoglbfaaChecked
import GoSem.Claim
import GoSem.ClaimJoined
import GoSem.ClaimMapViews
import Derived.JoinedTies
import Derived.KernelRfl
namespace Go.Proofs.Ytgomffcdoglbfaa
/- THE CELL 'sum', in the pinned program and in every row, IS THE sha256 OF THE DUMP (.gsa) THAT YtgomffcdoglbfaaProg.lean LOADS. Nothing in Lean hashes anything: it is a label: what it is worth is what the hold of that sum in a sandbox is worth. -/
noncomputable def Try.pinned : Pinned := { name := "ytgomffcdoglbfaa", sum := "9a910f8cb4a911e3ffb1c3860876e9e4dcabde0a0a174dacd1bb37bd06a396ca", checked := Try.checked }
namespace Rows
def none {H : Type} : Left H := { results := [], args := [] }

/-- 'laws.FnExactValidPresence': WHATEVER THE INPUT: true; the input reads as it did. -/
def fnExactValidPresenceSpec : ChangeSpec := { name := "fnExactValidPresence", fn := fun _ => fun
  | [d] => { results := [.lit (.bool true)], args := [d] }
  | _ => none }
def fnExactValidPresenceRow : OpenClaim := { program := "ytgomffcdoglbfaa", sum := "9a910f8cb4a911e3ffb1c3860876e9e4dcabde0a0a174dacd1bb37bd06a396ca", func := "loop.example/g01202/laws.FnExactValidPresence", spec := "fnExactValidPresence", unfollowed := true, recurses := true, apart := false }
def FnExactValidPresenceSaid : Prop := fnExactValidPresenceRow.holds Try.pinned (OpenSpec.ofChange fnExactValidPresenceSpec)

/-- ITS FALSE NEIGHBOUR: 'it returns false'. Refute it at one input. -/
def fnExactValidPresenceWrong : ChangeSpec := { name := "fnExactValidPresence", fn := fun _ => fun
  | [d] => { results := [.lit (.bool false)], args := [d] }
  | _ => none }
def FnExactValidPresenceWrongFalsely : Prop := fnExactValidPresenceRow.holds Try.pinned (OpenSpec.ofChange fnExactValidPresenceWrong)

/-- 'laws.FnExactSamePresence': WHATEVER THE INPUT: true; the input reads as it did. -/
def fnExactSamePresenceSpec : ChangeSpec := { name := "fnExactSamePresence", fn := fun _ => fun
  | [d1, d2] => { results := [.lit (.bool true)], args := [d1, d2] }
  | _ => none }
def fnExactSamePresenceRow : OpenClaim := { program := "ytgomffcdoglbfaa", sum := "9a910f8cb4a911e3ffb1c3860876e9e4dcabde0a0a174dacd1bb37bd06a396ca", func := "loop.example/g01202/laws.FnExactSamePresence", spec := "fnExactSamePresence", apart := false }
def FnExactSamePresenceSaid : Prop := fnExactSamePresenceRow.holds Try.pinned (OpenSpec.ofChange fnExactSamePresenceSpec)

/-- ITS FALSE NEIGHBOUR: 'it returns false'. Refute it at one input. -/
def fnExactSamePresenceWrong : ChangeSpec := { name := "fnExactSamePresence", fn := fun _ => fun
  | [d1, d2] => { results := [.lit (.bool false)], args := [d1, d2] }
  | _ => none }
def FnExactSamePresenceWrongFalsely : Prop := fnExactSamePresenceRow.holds Try.pinned (OpenSpec.ofChange fnExactSamePresenceWrong)

/-- 'laws.FnExactMarkOf': WHATEVER THE INPUT: true; the input reads as it did. -/
def fnExactMarkOfSpec : ChangeSpec := { name := "fnExactMarkOf", fn := fun _ => fun
  | [d1, d2] => { results := [.lit (.bool true)], args := [d1, d2] }
  | _ => none }
def fnExactMarkOfRow : OpenClaim := { program := "ytgomffcdoglbfaa", sum := "9a910f8cb4a911e3ffb1c3860876e9e4dcabde0a0a174dacd1bb37bd06a396ca", func := "loop.example/g01202/laws.FnExactMarkOf", spec := "fnExactMarkOf", unfollowed := true, recurses := true, apart := false }
def FnExactMarkOfSaid : Prop := fnExactMarkOfRow.holds Try.pinned (OpenSpec.ofChange fnExactMarkOfSpec)

/-- ITS FALSE NEIGHBOUR: 'it returns false'. Refute it at one input. -/
def fnExactMarkOfWrong : ChangeSpec := { name := "fnExactMarkOf", fn := fun _ => fun
  | [d1, d2] => { results := [.lit (.bool false)], args := [d1, d2] }
  | _ => none }
def FnExactMarkOfWrongFalsely : Prop := fnExactMarkOfRow.holds Try.pinned (OpenSpec.ofChange fnExactMarkOfWrong)

/-- 'laws.FnExactHaveRead': WHATEVER THE INPUT: true; the input reads as it did. -/
def fnExactHaveReadSpec : ChangeSpec := { name := "fnExactHaveRead", fn := fun _ => fun
  | [d1, d2] => { results := [.lit (.bool true)], args := [d1, d2] }
  | _ => none }
def fnExactHaveReadRow : OpenClaim := { program := "ytgomffcdoglbfaa", sum := "9a910f8cb4a911e3ffb1c3860876e9e4dcabde0a0a174dacd1bb37bd06a396ca", func := "loop.example/g01202/laws.FnExactHaveRead", spec := "fnExactHaveRead", unfollowed := true, recurses := true, apart := false }
def FnExactHaveReadSaid : Prop := fnExactHaveReadRow.holds Try.pinned (OpenSpec.ofChange fnExactHaveReadSpec)

/-- ITS FALSE NEIGHBOUR: 'it returns false'. Refute it at one input. -/
def fnExactHaveReadWrong : ChangeSpec := { name := "fnExactHaveRead", fn := fun _ => fun
  | [d1, d2] => { results := [.lit (.bool false)], args := [d1, d2] }
  | _ => none }
def FnExactHaveReadWrongFalsely : Prop := fnExactHaveReadRow.holds Try.pinned (OpenSpec.ofChange fnExactHaveReadWrong)

/-- 'laws.FnExactUnreadOf': WHATEVER THE INPUT: true; the input reads as it did. -/
def fnExactUnreadOfSpec : ChangeSpec := { name := "fnExactUnreadOf", fn := fun _ => fun
  | [d1, d2, d3] => { results := [.lit (.bool true)], args := [d1, d2, d3] }
  | _ => none }
def fnExactUnreadOfRow : OpenClaim := { program := "ytgomffcdoglbfaa", sum := "9a910f8cb4a911e3ffb1c3860876e9e4dcabde0a0a174dacd1bb37bd06a396ca", func := "loop.example/g01202/laws.FnExactUnreadOf", spec := "fnExactUnreadOf", unfollowed := true, recurses := true, apart := false }
def FnExactUnreadOfSaid : Prop := fnExactUnreadOfRow.holds Try.pinned (OpenSpec.ofChange fnExactUnreadOfSpec)

/-- ITS FALSE NEIGHBOUR: 'it returns false'. Refute it at one input. -/
def fnExactUnreadOfWrong : ChangeSpec := { name := "fnExactUnreadOf", fn := fun _ => fun
  | [d1, d2, d3] => { results := [.lit (.bool false)], args := [d1, d2, d3] }
  | _ => none }
def FnExactUnreadOfWrongFalsely : Prop := fnExactUnreadOfRow.holds Try.pinned (OpenSpec.ofChange fnExactUnreadOfWrong)

/-- 'laws.FnExactHeartbeat': WHATEVER THE INPUT: true; the input reads as it did. -/
def fnExactHeartbeatSpec : ChangeSpec := { name := "fnExactHeartbeat", fn := fun _ => fun
  | [d1, d2, d3, d4] => { results := [.lit (.bool true)], args := [d1, d2, d3, d4] }
  | _ => none }
def fnExactHeartbeatRow : OpenClaim := { program := "ytgomffcdoglbfaa", sum := "9a910f8cb4a911e3ffb1c3860876e9e4dcabde0a0a174dacd1bb37bd06a396ca", func := "loop.example/g01202/laws.FnExactHeartbeat", spec := "fnExactHeartbeat", unfollowed := true, recurses := true, apart := false }
def FnExactHeartbeatSaid : Prop := fnExactHeartbeatRow.holds Try.pinned (OpenSpec.ofChange fnExactHeartbeatSpec)

/-- ITS FALSE NEIGHBOUR: 'it returns false'. Refute it at one input. -/
def fnExactHeartbeatWrong : ChangeSpec := { name := "fnExactHeartbeat", fn := fun _ => fun
  | [d1, d2, d3, d4] => { results := [.lit (.bool false)], args := [d1, d2, d3, d4] }
  | _ => none }
def FnExactHeartbeatWrongFalsely : Prop := fnExactHeartbeatRow.holds Try.pinned (OpenSpec.ofChange fnExactHeartbeatWrong)

/-- 'laws.FnExactReadUpTo': WHATEVER THE INPUT: true; the input reads as it did. -/
def fnExactReadUpToSpec : ChangeSpec := { name := "fnExactReadUpTo", fn := fun _ => fun
  | [d1, d2, d3] => { results := [.lit (.bool true)], args := [d1, d2, d3] }
  | _ => none }
def fnExactReadUpToRow : OpenClaim := { program := "ytgomffcdoglbfaa", sum := "9a910f8cb4a911e3ffb1c3860876e9e4dcabde0a0a174dacd1bb37bd06a396ca", func := "loop.example/g01202/laws.FnExactReadUpTo", spec := "fnExactReadUpTo", unfollowed := true, recurses := true, apart := false }
def FnExactReadUpToSaid : Prop := fnExactReadUpToRow.holds Try.pinned (OpenSpec.ofChange fnExactReadUpToSpec)

/-- ITS FALSE NEIGHBOUR: 'it returns false'. Refute it at one input. -/
def fnExactReadUpToWrong : ChangeSpec := { name := "fnExactReadUpTo", fn := fun _ => fun
  | [d1, d2, d3] => { results := [.lit (.bool false)], args := [d1, d2, d3] }
  | _ => none }
def FnExactReadUpToWrongFalsely : Prop := fnExactReadUpToRow.holds Try.pinned (OpenSpec.ofChange fnExactReadUpToWrong)

/-- 'laws.FnExactLeaveNow': WHATEVER THE INPUT: true; the input reads as it did. -/
def fnExactLeaveNowSpec : ChangeSpec := { name := "fnExactLeaveNow", fn := fun _ => fun
  | [d1, d2] => { results := [.lit (.bool true)], args := [d1, d2] }
  | _ => none }
def fnExactLeaveNowRow : OpenClaim := { program := "ytgomffcdoglbfaa", sum := "9a910f8cb4a911e3ffb1c3860876e9e4dcabde0a0a174dacd1bb37bd06a396ca", func := "loop.example/g01202/laws.FnExactLeaveNow", spec := "fnExactLeaveNow", unfollowed := true, recurses := true, apart := false }
def FnExactLeaveNowSaid : Prop := fnExactLeaveNowRow.holds Try.pinned (OpenSpec.ofChange fnExactLeaveNowSpec)

/-- ITS FALSE NEIGHBOUR: 'it returns false'. Refute it at one input. -/
def fnExactLeaveNowWrong : ChangeSpec := { name := "fnExactLeaveNow", fn := fun _ => fun
  | [d1, d2] => { results := [.lit (.bool false)], args := [d1, d2] }
  | _ => none }
def FnExactLeaveNowWrongFalsely : Prop := fnExactLeaveNowRow.holds Try.pinned (OpenSpec.ofChange fnExactLeaveNowWrong)

/-- 'laws.FnExactStartTyping': WHATEVER THE INPUT: true; the input reads as it did. -/
def fnExactStartTypingSpec : ChangeSpec := { name := "fnExactStartTyping", fn := fun _ => fun
  | [d1, d2, d3] => { results := [.lit (.bool true)], args := [d1, d2, d3] }
  | _ => none }
def fnExactStartTypingRow : OpenClaim := { program := "ytgomffcdoglbfaa", sum := "9a910f8cb4a911e3ffb1c3860876e9e4dcabde0a0a174dacd1bb37bd06a396ca", func := "loop.example/g01202/laws.FnExactStartTyping", spec := "fnExactStartTyping", unfollowed := true, recurses := true, apart := false }
def FnExactStartTypingSaid : Prop := fnExactStartTypingRow.holds Try.pinned (OpenSpec.ofChange fnExactStartTypingSpec)

/-- ITS FALSE NEIGHBOUR: 'it returns false'. Refute it at one input. -/
def fnExactStartTypingWrong : ChangeSpec := { name := "fnExactStartTyping", fn := fun _ => fun
  | [d1, d2, d3] => { results := [.lit (.bool false)], args := [d1, d2, d3] }
  | _ => none }
def FnExactStartTypingWrongFalsely : Prop := fnExactStartTypingRow.holds Try.pinned (OpenSpec.ofChange fnExactStartTypingWrong)

/- THE SECOND FORM. 'bulk': how many values and letters a reading holds, each counted each time it is reached (what is shared counts as often as it is met; a slice's spare places count too). A statement '..UptoSaid' is the law's where the arguments, and the package variables that the reading takes, are together of bulk at most 1048576: NARROWER than '..Said'. Prove '..Said' where nothing that the law and all that it calls make is longer than what came in: it says more and counts as full. Else prove '..UptoSaid'. A law counts once. -/
mutual
def uptoBulk {H : Type} : DataW H → Nat
  | .lit (.string bytes) => bytes.length + 1
  | .lit _ => 1
  | .nil => 1
  | .ptr d => uptoBulk d + 1
  | .slice elems spare => uptoBulkAll elems + uptoBulkAll spare + 1
  | .agg parts => uptoBulkAll parts + 1
  | .iface _ d => uptoBulk d + 1
  | .map entries => uptoBulkEntries entries + 1
  | .held _ => 1
def uptoBulkAll {H : Type} : List (DataW H) → Nat
  | [] => 0
  | d :: r => uptoBulk d + uptoBulkAll r
def uptoBulkEntries {H : Type} : List (Lit × DataW H) → Nat
  | [] => 0
  | x :: r => uptoBulkEntry x + uptoBulkEntries r
def uptoBulkEntry {H : Type} : Lit × DataW H → Nat
  | (.string bytes, d) => bytes.length + uptoBulk d + 1
  | (_, d) => uptoBulk d + 1
 end
def uptoSmall : (H : Type) → List (DataW H) → Bool := fun _ ds => decide (uptoBulkAll ds ≤ 1048576)
def OpenSpec.upto (s : _root_.Go.ChangeSpec) : _root_.Go.OpenSpec := { _root_.Go.OpenSpec.ofChange s with cond := some uptoSmall }

/-- 'laws.FnExactValidPresence', WHERE WHAT IT READS IS OF BULK AT MOST 1048576: true; the input reads as it did. -/
def fnExactValidPresenceUptoRow : OpenClaim := { program := "ytgomffcdoglbfaa", sum := "9a910f8cb4a911e3ffb1c3860876e9e4dcabde0a0a174dacd1bb37bd06a396ca", func := "loop.example/g01202/laws.FnExactValidPresence", spec := "fnExactValidPresence", unfollowed := true, recurses := true, apart := false, narrowed := true }
def FnExactValidPresenceUptoSaid : Prop := fnExactValidPresenceUptoRow.holds Try.pinned (OpenSpec.upto fnExactValidPresenceSpec)

/-- 'laws.FnExactSamePresence', WHERE WHAT IT READS IS OF BULK AT MOST 1048576: true; the input reads as it did. -/
def fnExactSamePresenceUptoRow : OpenClaim := { program := "ytgomffcdoglbfaa", sum := "9a910f8cb4a911e3ffb1c3860876e9e4dcabde0a0a174dacd1bb37bd06a396ca", func := "loop.example/g01202/laws.FnExactSamePresence", spec := "fnExactSamePresence", apart := false, narrowed := true }
def FnExactSamePresenceUptoSaid : Prop := fnExactSamePresenceUptoRow.holds Try.pinned (OpenSpec.upto fnExactSamePresenceSpec)

/-- 'laws.FnExactMarkOf', WHERE WHAT IT READS IS OF BULK AT MOST 1048576: true; the input reads as it did. -/
def fnExactMarkOfUptoRow : OpenClaim := { program := "ytgomffcdoglbfaa", sum := "9a910f8cb4a911e3ffb1c3860876e9e4dcabde0a0a174dacd1bb37bd06a396ca", func := "loop.example/g01202/laws.FnExactMarkOf", spec := "fnExactMarkOf", unfollowed := true, recurses := true, apart := false, narrowed := true }
def FnExactMarkOfUptoSaid : Prop := fnExactMarkOfUptoRow.holds Try.pinned (OpenSpec.upto fnExactMarkOfSpec)

/-- 'laws.FnExactHaveRead', WHERE WHAT IT READS IS OF BULK AT MOST 1048576: true; the input reads as it did. -/
def fnExactHaveReadUptoRow : OpenClaim := { program := "ytgomffcdoglbfaa", sum := "9a910f8cb4a911e3ffb1c3860876e9e4dcabde0a0a174dacd1bb37bd06a396ca", func := "loop.example/g01202/laws.FnExactHaveRead", spec := "fnExactHaveRead", unfollowed := true, recurses := true, apart := false, narrowed := true }
def FnExactHaveReadUptoSaid : Prop := fnExactHaveReadUptoRow.holds Try.pinned (OpenSpec.upto fnExactHaveReadSpec)

/-- 'laws.FnExactUnreadOf', WHERE WHAT IT READS IS OF BULK AT MOST 1048576: true; the input reads as it did. -/
def fnExactUnreadOfUptoRow : OpenClaim := { program := "ytgomffcdoglbfaa", sum := "9a910f8cb4a911e3ffb1c3860876e9e4dcabde0a0a174dacd1bb37bd06a396ca", func := "loop.example/g01202/laws.FnExactUnreadOf", spec := "fnExactUnreadOf", unfollowed := true, recurses := true, apart := false, narrowed := true }
def FnExactUnreadOfUptoSaid : Prop := fnExactUnreadOfUptoRow.holds Try.pinned (OpenSpec.upto fnExactUnreadOfSpec)

/-- 'laws.FnExactHeartbeat', WHERE WHAT IT READS IS OF BULK AT MOST 1048576: true; the input reads as it did. -/
def fnExactHeartbeatUptoRow : OpenClaim := { program := "ytgomffcdoglbfaa", sum := "9a910f8cb4a911e3ffb1c3860876e9e4dcabde0a0a174dacd1bb37bd06a396ca", func := "loop.example/g01202/laws.FnExactHeartbeat", spec := "fnExactHeartbeat", unfollowed := true, recurses := true, apart := false, narrowed := true }
def FnExactHeartbeatUptoSaid : Prop := fnExactHeartbeatUptoRow.holds Try.pinned (OpenSpec.upto fnExactHeartbeatSpec)

/-- 'laws.FnExactReadUpTo', WHERE WHAT IT READS IS OF BULK AT MOST 1048576: true; the input reads as it did. -/
def fnExactReadUpToUptoRow : OpenClaim := { program := "ytgomffcdoglbfaa", sum := "9a910f8cb4a911e3ffb1c3860876e9e4dcabde0a0a174dacd1bb37bd06a396ca", func := "loop.example/g01202/laws.FnExactReadUpTo", spec := "fnExactReadUpTo", unfollowed := true, recurses := true, apart := false, narrowed := true }
def FnExactReadUpToUptoSaid : Prop := fnExactReadUpToUptoRow.holds Try.pinned (OpenSpec.upto fnExactReadUpToSpec)

/-- 'laws.FnExactLeaveNow', WHERE WHAT IT READS IS OF BULK AT MOST 1048576: true; the input reads as it did. -/
def fnExactLeaveNowUptoRow : OpenClaim := { program := "ytgomffcdoglbfaa", sum := "9a910f8cb4a911e3ffb1c3860876e9e4dcabde0a0a174dacd1bb37bd06a396ca", func := "loop.example/g01202/laws.FnExactLeaveNow", spec := "fnExactLeaveNow", unfollowed := true, recurses := true, apart := false, narrowed := true }
def FnExactLeaveNowUptoSaid : Prop := fnExactLeaveNowUptoRow.holds Try.pinned (OpenSpec.upto fnExactLeaveNowSpec)

/-- 'laws.FnExactStartTyping', WHERE WHAT IT READS IS OF BULK AT MOST 1048576: true; the input reads as it did. -/
def fnExactStartTypingUptoRow : OpenClaim := { program := "ytgomffcdoglbfaa", sum := "9a910f8cb4a911e3ffb1c3860876e9e4dcabde0a0a174dacd1bb37bd06a396ca", func := "loop.example/g01202/laws.FnExactStartTyping", spec := "fnExactStartTyping", unfollowed := true, recurses := true, apart := false, narrowed := true }
def FnExactStartTypingUptoSaid : Prop := fnExactStartTypingUptoRow.holds Try.pinned (OpenSpec.upto fnExactStartTypingSpec)

end Rows
end Go.Proofs.Ytgomffcdoglbfaa
