/-
  No cell of these rows narrows 'for every input' (looked for: loops, veiled, ifaces, maps, wideKeys, modest, calm, conditions, laid).
  DERIVED. THE GIVEN ROWS OF THIS SEAT. 10 by the template 'for every input the law returns true; each argument reads behind the call as it read before'; 0 by the template 'total and deterministic' (their statements: YtdpclbmcmgknjaaTotals.lean).
  GIVEN WITH THE SEED: the statements are not yours to turn. If you find one false, say at which input.
  Laid BY PROGRAM, IN A SANDBOX (cutbox-rows.mjs): the forced cells as the released guide's own fill.sh prints them over the translation 4ce030263a4d02e4… (all of the seat's roots in one cut). By AI agents, Wed Nov 11 2026. No macro, syntax, notation, axiom, sorry.
-/
import Derived.Test.YtdpclbmcmgknjaaChecked
import GoSem.Claim
import GoSem.ClaimJoined
import GoSem.ClaimMapViews
import Derived.JoinedTies
import Derived.KernelRfl
namespace Go.Proofs.Ytdpclbmcmgknjaa
/- THE CELL 'sum', in the pinned program and in every row, IS THE sha256 OF THE DUMP (.gsa) THAT YtdpclbmcmgknjaaProg.lean LOADS. Nothing in Lean hashes anything: it is a label: what it is worth is what the hold of that sum in a sandbox is worth. -/
noncomputable def Try.pinned : Pinned := { name := "ytdpclbmcmgknjaa", sum := "4ce030263a4d02e4a10eea630582b7ce74a1826d867f6dad9c4f43388fdd49c6", checked := Try.checked }
namespace Rows
def none {H : Type} : Left H := { results := [], args := [] }

/-- 'laws.FnExactValidEvent': WHATEVER THE INPUT: true; the input reads as it did. -/
def fnExactValidEventSpec : ChangeSpec := { name := "fnExactValidEvent", fn := fun _ => fun
  | [d] => { results := [.lit (.bool true)], args := [d] }
  | _ => none }
def fnExactValidEventRow : OpenClaim := { program := "ytdpclbmcmgknjaa", sum := "4ce030263a4d02e4a10eea630582b7ce74a1826d867f6dad9c4f43388fdd49c6", func := "loop.example/g01202/laws.FnExactValidEvent", spec := "fnExactValidEvent", unfollowed := true, recurses := true, apart := false }
def FnExactValidEventSaid : Prop := fnExactValidEventRow.holds Try.pinned (OpenSpec.ofChange fnExactValidEventSpec)

/-- ITS FALSE NEIGHBOUR: 'it returns false'. Refute it at one input. -/
def fnExactValidEventWrong : ChangeSpec := { name := "fnExactValidEvent", fn := fun _ => fun
  | [d] => { results := [.lit (.bool false)], args := [d] }
  | _ => none }
def FnExactValidEventWrongFalsely : Prop := fnExactValidEventRow.holds Try.pinned (OpenSpec.ofChange fnExactValidEventWrong)

/-- 'laws.FnExactEventCost': WHATEVER THE INPUT: true; the input reads as it did. -/
def fnExactEventCostSpec : ChangeSpec := { name := "fnExactEventCost", fn := fun _ => fun
  | [d] => { results := [.lit (.bool true)], args := [d] }
  | _ => none }
def fnExactEventCostRow : OpenClaim := { program := "ytdpclbmcmgknjaa", sum := "4ce030263a4d02e4a10eea630582b7ce74a1826d867f6dad9c4f43388fdd49c6", func := "loop.example/g01202/laws.FnExactEventCost", spec := "fnExactEventCost", unfollowed := true, recurses := true, apart := false }
def FnExactEventCostSaid : Prop := fnExactEventCostRow.holds Try.pinned (OpenSpec.ofChange fnExactEventCostSpec)

/-- ITS FALSE NEIGHBOUR: 'it returns false'. Refute it at one input. -/
def fnExactEventCostWrong : ChangeSpec := { name := "fnExactEventCost", fn := fun _ => fun
  | [d] => { results := [.lit (.bool false)], args := [d] }
  | _ => none }
def FnExactEventCostWrongFalsely : Prop := fnExactEventCostRow.holds Try.pinned (OpenSpec.ofChange fnExactEventCostWrong)

/-- 'laws.FnExactLogCost': WHATEVER THE INPUT: true; the input reads as it did. -/
def fnExactLogCostSpec : ChangeSpec := { name := "fnExactLogCost", fn := fun _ => fun
  | [d] => { results := [.lit (.bool true)], args := [d] }
  | _ => none }
def fnExactLogCostRow : OpenClaim := { program := "ytdpclbmcmgknjaa", sum := "4ce030263a4d02e4a10eea630582b7ce74a1826d867f6dad9c4f43388fdd49c6", func := "loop.example/g01202/laws.FnExactLogCost", spec := "fnExactLogCost", unfollowed := true, recurses := true, apart := false }
def FnExactLogCostSaid : Prop := fnExactLogCostRow.holds Try.pinned (OpenSpec.ofChange fnExactLogCostSpec)

/-- ITS FALSE NEIGHBOUR: 'it returns false'. Refute it at one input. -/
def fnExactLogCostWrong : ChangeSpec := { name := "fnExactLogCost", fn := fun _ => fun
  | [d] => { results := [.lit (.bool false)], args := [d] }
  | _ => none }
def FnExactLogCostWrongFalsely : Prop := fnExactLogCostRow.holds Try.pinned (OpenSpec.ofChange fnExactLogCostWrong)

/-- 'laws.FnExactAddStrike': WHATEVER THE INPUT: true; the input reads as it did. -/
def fnExactAddStrikeSpec : ChangeSpec := { name := "fnExactAddStrike", fn := fun _ => fun
  | [d1, d2] => { results := [.lit (.bool true)], args := [d1, d2] }
  | _ => none }
def fnExactAddStrikeRow : OpenClaim := { program := "ytdpclbmcmgknjaa", sum := "4ce030263a4d02e4a10eea630582b7ce74a1826d867f6dad9c4f43388fdd49c6", func := "loop.example/g01202/laws.FnExactAddStrike", spec := "fnExactAddStrike", unfollowed := true, recurses := true, apart := false }
def FnExactAddStrikeSaid : Prop := fnExactAddStrikeRow.holds Try.pinned (OpenSpec.ofChange fnExactAddStrikeSpec)

/-- ITS FALSE NEIGHBOUR: 'it returns false'. Refute it at one input. -/
def fnExactAddStrikeWrong : ChangeSpec := { name := "fnExactAddStrike", fn := fun _ => fun
  | [d1, d2] => { results := [.lit (.bool false)], args := [d1, d2] }
  | _ => none }
def FnExactAddStrikeWrongFalsely : Prop := fnExactAddStrikeRow.holds Try.pinned (OpenSpec.ofChange fnExactAddStrikeWrong)

/-- 'laws.FnExactForgiveOld': WHATEVER THE INPUT: true; the input reads as it did. -/
def fnExactForgiveOldSpec : ChangeSpec := { name := "fnExactForgiveOld", fn := fun _ => fun
  | [d1, d2] => { results := [.lit (.bool true)], args := [d1, d2] }
  | _ => none }
def fnExactForgiveOldRow : OpenClaim := { program := "ytdpclbmcmgknjaa", sum := "4ce030263a4d02e4a10eea630582b7ce74a1826d867f6dad9c4f43388fdd49c6", func := "loop.example/g01202/laws.FnExactForgiveOld", spec := "fnExactForgiveOld", unfollowed := true, recurses := true, apart := false }
def FnExactForgiveOldSaid : Prop := fnExactForgiveOldRow.holds Try.pinned (OpenSpec.ofChange fnExactForgiveOldSpec)

/-- ITS FALSE NEIGHBOUR: 'it returns false'. Refute it at one input. -/
def fnExactForgiveOldWrong : ChangeSpec := { name := "fnExactForgiveOld", fn := fun _ => fun
  | [d1, d2] => { results := [.lit (.bool false)], args := [d1, d2] }
  | _ => none }
def FnExactForgiveOldWrongFalsely : Prop := fnExactForgiveOldRow.holds Try.pinned (OpenSpec.ofChange fnExactForgiveOldWrong)

/-- 'laws.FnExactWorstMembers': WHATEVER THE INPUT: true; the input reads as it did. -/
def fnExactWorstMembersSpec : ChangeSpec := { name := "fnExactWorstMembers", fn := fun _ => fun
  | [d1, d2, d3, d4] => { results := [.lit (.bool true)], args := [d1, d2, d3, d4] }
  | _ => none }
def fnExactWorstMembersRow : OpenClaim := { program := "ytdpclbmcmgknjaa", sum := "4ce030263a4d02e4a10eea630582b7ce74a1826d867f6dad9c4f43388fdd49c6", func := "loop.example/g01202/laws.FnExactWorstMembers", spec := "fnExactWorstMembers", unfollowed := true, recurses := true, apart := false }
def FnExactWorstMembersSaid : Prop := fnExactWorstMembersRow.holds Try.pinned (OpenSpec.ofChange fnExactWorstMembersSpec)

/-- ITS FALSE NEIGHBOUR: 'it returns false'. Refute it at one input. -/
def fnExactWorstMembersWrong : ChangeSpec := { name := "fnExactWorstMembers", fn := fun _ => fun
  | [d1, d2, d3, d4] => { results := [.lit (.bool false)], args := [d1, d2, d3, d4] }
  | _ => none }
def FnExactWorstMembersWrongFalsely : Prop := fnExactWorstMembersRow.holds Try.pinned (OpenSpec.ofChange fnExactWorstMembersWrong)

/-- 'laws.FnExactJoinPresence': WHATEVER THE INPUT: true; the input reads as it did. -/
def fnExactJoinPresenceSpec : ChangeSpec := { name := "fnExactJoinPresence", fn := fun _ => fun
  | [d1, d2] => { results := [.lit (.bool true)], args := [d1, d2] }
  | _ => none }
def fnExactJoinPresenceRow : OpenClaim := { program := "ytdpclbmcmgknjaa", sum := "4ce030263a4d02e4a10eea630582b7ce74a1826d867f6dad9c4f43388fdd49c6", func := "loop.example/g01202/laws.FnExactJoinPresence", spec := "fnExactJoinPresence", unfollowed := true, recurses := true, apart := false }
def FnExactJoinPresenceSaid : Prop := fnExactJoinPresenceRow.holds Try.pinned (OpenSpec.ofChange fnExactJoinPresenceSpec)

/-- ITS FALSE NEIGHBOUR: 'it returns false'. Refute it at one input. -/
def fnExactJoinPresenceWrong : ChangeSpec := { name := "fnExactJoinPresence", fn := fun _ => fun
  | [d1, d2] => { results := [.lit (.bool false)], args := [d1, d2] }
  | _ => none }
def FnExactJoinPresenceWrongFalsely : Prop := fnExactJoinPresenceRow.holds Try.pinned (OpenSpec.ofChange fnExactJoinPresenceWrong)

/-- 'laws.FnExactLeaveNow': WHATEVER THE INPUT: true; the input reads as it did. -/
def fnExactLeaveNowSpec : ChangeSpec := { name := "fnExactLeaveNow", fn := fun _ => fun
  | [d1, d2] => { results := [.lit (.bool true)], args := [d1, d2] }
  | _ => none }
def fnExactLeaveNowRow : OpenClaim := { program := "ytdpclbmcmgknjaa", sum := "4ce030263a4d02e4a10eea630582b7ce74a1826d867f6dad9c4f43388fdd49c6", func := "loop.example/g01202/laws.FnExactLeaveNow", spec := "fnExactLeaveNow", unfollowed := true, recurses := true, apart := false }
def FnExactLeaveNowSaid : Prop := fnExactLeaveNowRow.holds Try.pinned (OpenSpec.ofChange fnExactLeaveNowSpec)

/-- ITS FALSE NEIGHBOUR: 'it returns false'. Refute it at one input. -/
def fnExactLeaveNowWrong : ChangeSpec := { name := "fnExactLeaveNow", fn := fun _ => fun
  | [d1, d2] => { results := [.lit (.bool false)], args := [d1, d2] }
  | _ => none }
def FnExactLeaveNowWrongFalsely : Prop := fnExactLeaveNowRow.holds Try.pinned (OpenSpec.ofChange fnExactLeaveNowWrong)

/-- 'laws.FnExactSweepPresence': WHATEVER THE INPUT: true; the input reads as it did. -/
def fnExactSweepPresenceSpec : ChangeSpec := { name := "fnExactSweepPresence", fn := fun _ => fun
  | [d1, d2] => { results := [.lit (.bool true)], args := [d1, d2] }
  | _ => none }
def fnExactSweepPresenceRow : OpenClaim := { program := "ytdpclbmcmgknjaa", sum := "4ce030263a4d02e4a10eea630582b7ce74a1826d867f6dad9c4f43388fdd49c6", func := "loop.example/g01202/laws.FnExactSweepPresence", spec := "fnExactSweepPresence", unfollowed := true, recurses := true, apart := false }
def FnExactSweepPresenceSaid : Prop := fnExactSweepPresenceRow.holds Try.pinned (OpenSpec.ofChange fnExactSweepPresenceSpec)

/-- ITS FALSE NEIGHBOUR: 'it returns false'. Refute it at one input. -/
def fnExactSweepPresenceWrong : ChangeSpec := { name := "fnExactSweepPresence", fn := fun _ => fun
  | [d1, d2] => { results := [.lit (.bool false)], args := [d1, d2] }
  | _ => none }
def FnExactSweepPresenceWrongFalsely : Prop := fnExactSweepPresenceRow.holds Try.pinned (OpenSpec.ofChange fnExactSweepPresenceWrong)

/-- 'laws.FnExactCountsOf': WHATEVER THE INPUT: true; the input reads as it did. -/
def fnExactCountsOfSpec : ChangeSpec := { name := "fnExactCountsOf", fn := fun _ => fun
  | [d] => { results := [.lit (.bool true)], args := [d] }
  | _ => none }
def fnExactCountsOfRow : OpenClaim := { program := "ytdpclbmcmgknjaa", sum := "4ce030263a4d02e4a10eea630582b7ce74a1826d867f6dad9c4f43388fdd49c6", func := "loop.example/g01202/laws.FnExactCountsOf", spec := "fnExactCountsOf", unfollowed := true, recurses := true, apart := false }
def FnExactCountsOfSaid : Prop := fnExactCountsOfRow.holds Try.pinned (OpenSpec.ofChange fnExactCountsOfSpec)

/-- ITS FALSE NEIGHBOUR: 'it returns false'. Refute it at one input. -/
def fnExactCountsOfWrong : ChangeSpec := { name := "fnExactCountsOf", fn := fun _ => fun
  | [d] => { results := [.lit (.bool false)], args := [d] }
  | _ => none }
def FnExactCountsOfWrongFalsely : Prop := fnExactCountsOfRow.holds Try.pinned (OpenSpec.ofChange fnExactCountsOfWrong)

/- THE SECOND FORM. 'bulk': how many values and letters a reading holds, each counted each time it is reached (what is shared counts as often as it is met; a slice's spare places count too). A statement '..UptoSaid' is the law's where the arguments, and the package variables that the reading takes, are together of bulk at most 1048576: NARROWER than '..Said'. Prove '..Said' where nothing that the law and all that it calls make is longer than what came in: it says more and counts as full. Else prove '..UptoSaid'. A law counts once. -/
mutual
def uptoBulk {H : Type} : DataW H → Nat
  | .lit (.string bytes) => bytes.length + 1
  | .lit _ => 1
  | .nil => 1
  | .ptr d => uptoBulk d + 1
  | .slice elems spare => uptoBulkAll elems + uptoBulkAll spare + 1
  | .agg parts => uptoBulkAll parts + 1
  | .iface _ d => uptoBulk d + 1
  | .map entries => uptoBulkEntries entries + 1
  | .held _ => 1
def uptoBulkAll {H : Type} : List (DataW H) → Nat
  | [] => 0
  | d :: r => uptoBulk d + uptoBulkAll r
def uptoBulkEntries {H : Type} : List (Lit × DataW H) → Nat
  | [] => 0
  | x :: r => uptoBulkEntry x + uptoBulkEntries r
def uptoBulkEntry {H : Type} : Lit × DataW H → Nat
  | (.string bytes, d) => bytes.length + uptoBulk d + 1
  | (_, d) => uptoBulk d + 1
 end
def uptoSmall : (H : Type) → List (DataW H) → Bool := fun _ ds => decide (uptoBulkAll ds ≤ 1048576)
def OpenSpec.upto (s : _root_.Go.ChangeSpec) : _root_.Go.OpenSpec := { _root_.Go.OpenSpec.ofChange s with cond := some uptoSmall }

/-- 'laws.FnExactValidEvent', WHERE WHAT IT READS IS OF BULK AT MOST 1048576: true; the input reads as it did. -/
def fnExactValidEventUptoRow : OpenClaim := { program := "ytdpclbmcmgknjaa", sum := "4ce030263a4d02e4a10eea630582b7ce74a1826d867f6dad9c4f43388fdd49c6", func := "loop.example/g01202/laws.FnExactValidEvent", spec := "fnExactValidEvent", unfollowed := true, recurses := true, apart := false, narrowed := true }
def FnExactValidEventUptoSaid : Prop := fnExactValidEventUptoRow.holds Try.pinned (OpenSpec.upto fnExactValidEventSpec)

/-- 'laws.FnExactEventCost', WHERE WHAT IT READS IS OF BULK AT MOST 1048576: true; the input reads as it did. -/
def fnExactEventCostUptoRow : OpenClaim := { program := "ytdpclbmcmgknjaa", sum := "4ce030263a4d02e4a10eea630582b7ce74a1826d867f6dad9c4f43388fdd49c6", func := "loop.example/g01202/laws.FnExactEventCost", spec := "fnExactEventCost", unfollowed := true, recurses := true, apart := false, narrowed := true }
def FnExactEventCostUptoSaid : Prop := fnExactEventCostUptoRow.holds Try.pinned (OpenSpec.upto fnExactEventCostSpec)

/-- 'laws.FnExactLogCost', WHERE WHAT IT READS IS OF BULK AT MOST 1048576: true; the input reads as it did. -/
def fnExactLogCostUptoRow : OpenClaim := { program := "ytdpclbmcmgknjaa", sum := "4ce030263a4d02e4a10eea630582b7ce74a1826d867f6dad9c4f43388fdd49c6", func := "loop.example/g01202/laws.FnExactLogCost", spec := "fnExactLogCost", unfollowed := true, recurses := true, apart := false, narrowed := true }
def FnExactLogCostUptoSaid : Prop := fnExactLogCostUptoRow.holds Try.pinned (OpenSpec.upto fnExactLogCostSpec)

/-- 'laws.FnExactAddStrike', WHERE WHAT IT READS IS OF BULK AT MOST 1048576: true; the input reads as it did. -/
def fnExactAddStrikeUptoRow : OpenClaim := { program := "ytdpclbmcmgknjaa", sum := "4ce030263a4d02e4a10eea630582b7ce74a1826d867f6dad9c4f43388fdd49c6", func := "loop.example/g01202/laws.FnExactAddStrike", spec := "fnExactAddStrike", unfollowed := true, recurses := true, apart := false, narrowed := true }
def FnExactAddStrikeUptoSaid : Prop := fnExactAddStrikeUptoRow.holds Try.pinned (OpenSpec.upto fnExactAddStrikeSpec)

/-- 'laws.FnExactForgiveOld', WHERE WHAT IT READS IS OF BULK AT MOST 1048576: true; the input reads as it did. -/
def fnExactForgiveOldUptoRow : OpenClaim := { program := "ytdpclbmcmgknjaa", sum := "4ce030263a4d02e4a10eea630582b7ce74a1826d867f6dad9c4f43388fdd49c6", func := "loop.example/g01202/laws.FnExactForgiveOld", spec := "fnExactForgiveOld", unfollowed := true, recurses := true, apart := false, narrowed := true }
def FnExactForgiveOldUptoSaid : Prop := fnExactForgiveOldUptoRow.holds Try.pinned (OpenSpec.upto fnExactForgiveOldSpec)

/-- 'laws.FnExactWorstMembers', WHERE WHAT IT READS IS OF BULK AT MOST 1048576: true; the input reads as it did. -/
def fnExactWorstMembersUptoRow : OpenClaim := { program := "ytdpclbmcmgknjaa", sum := "4ce030263a4d02e4a10eea630582b7ce74a1826d867f6dad9c4f43388fdd49c6", func := "loop.example/g01202/laws.FnExactWorstMembers", spec := "fnExactWorstMembers", unfollowed := true, recurses := true, apart := false, narrowed := true }
def FnExactWorstMembersUptoSaid : Prop := fnExactWorstMembersUptoRow.holds Try.pinned (OpenSpec.upto fnExactWorstMembersSpec)

/-- 'laws.FnExactJoinPresence', WHERE WHAT IT READS IS OF BULK AT MOST 1048576: true; the input reads as it did. -/
def fnExactJoinPresenceUptoRow : OpenClaim := { program := "ytdpclbmcmgknjaa", sum := "4ce030263a4d02e4a10eea630582b7ce74a1826d867f6dad9c4f43388fdd49c6", func := "loop.example/g01202/laws.FnExactJoinPresence", spec := "fnExactJoinPresence", unfollowed := true, recurses := true, apart := false, narrowed := true }
def FnExactJoinPresenceUptoSaid : Prop := fnExactJoinPresenceUptoRow.holds Try.pinned (OpenSpec.upto fnExactJoinPresenceSpec)

/-- 'laws.FnExactLeaveNow', WHERE WHAT IT READS IS OF BULK AT MOST 1048576: true; the input reads as it did. -/
def fnExactLeaveNowUptoRow : OpenClaim := { program := "ytdpclbmcmgknjaa", sum := "4ce030263a4d02e4a10eea630582b7ce74a1826d867f6dad9c4f43388fdd49c6", func := "loop.example/g01202/laws.FnExactLeaveNow", spec := "fnExactLeaveNow", unfollowed := true, recurses := true, apart := false, narrowed := true }
def FnExactLeaveNowUptoSaid : Prop := fnExactLeaveNowUptoRow.holds Try.pinned (OpenSpec.upto fnExactLeaveNowSpec)

/-- 'laws.FnExactSweepPresence', WHERE WHAT IT READS IS OF BULK AT MOST 1048576: true; the input reads as it did. -/
def fnExactSweepPresenceUptoRow : OpenClaim := { program := "ytdpclbmcmgknjaa", sum := "4ce030263a4d02e4a10eea630582b7ce74a1826d867f6dad9c4f43388fdd49c6", func := "loop.example/g01202/laws.FnExactSweepPresence", spec := "fnExactSweepPresence", unfollowed := true, recurses := true, apart := false, narrowed := true }
def FnExactSweepPresenceUptoSaid : Prop := fnExactSweepPresenceUptoRow.holds Try.pinned (OpenSpec.upto fnExactSweepPresenceSpec)

/-- 'laws.FnExactCountsOf', WHERE WHAT IT READS IS OF BULK AT MOST 1048576: true; the input reads as it did. -/
def fnExactCountsOfUptoRow : OpenClaim := { program := "ytdpclbmcmgknjaa", sum := "4ce030263a4d02e4a10eea630582b7ce74a1826d867f6dad9c4f43388fdd49c6", func := "loop.example/g01202/laws.FnExactCountsOf", spec := "fnExactCountsOf", unfollowed := true, recurses := true, apart := false, narrowed := true }
def FnExactCountsOfUptoSaid : Prop := fnExactCountsOfUptoRow.holds Try.pinned (OpenSpec.upto fnExactCountsOfSpec)

end Rows
end Go.Proofs.Ytdpclbmcmgknjaa
