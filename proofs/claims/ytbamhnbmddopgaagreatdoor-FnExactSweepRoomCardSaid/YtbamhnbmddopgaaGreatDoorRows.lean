/-
  NARROWER THAN 'FOR EVERY INPUT', by the rows' own cells (each row's printed sentence says how): FnExactOpenRoom: ifaces, laid · FnExactInviteTo: ifaces, laid · FnExactJoinRoom: ifaces, laid · FnExactLeaveRoom: ifaces, laid · FnExactGiveRole: ifaces, laid · FnExactMuteMember: ifaces, laid · FnExactBanMember: ifaces, laid · FnExactLiftBan: ifaces, laid · FnExactSweepRoom: ifaces, laid · FnJoined: ifaces, laid · FnRanked: ifaces, laid · FnSwept: ifaces, laid.
  DERIVED. THE GIVEN ROWS OF THIS SEAT. 12 by the template 'for every input the law returns true; each argument reads behind the call as it read before'; 0 by the template 'total and deterministic' (their statements: YtbamhnbmddopgaaGreatDoorTotals.lean).
  GIVEN WITH THE SEED: the statements are not yours to turn. If you find one false, say at which input.
  Laid BY PROGRAM, IN A SANDBOX (cutbox-rows.mjs): the forced cells as the released guide's own fill.sh prints them over the translation 7032fee542921f44… (all of the seat's roots in one cut). By AI agents, Wed Nov 11 2026. No macro, syntax, notation, axiom, sorry.
-/
import Derived.Test.YtbamhnbmddopgaaGreatDoorChecked
import GoSem.Claim
import GoSem.ClaimJoined
import GoSem.ClaimMapViews
import Derived.JoinedTies
import Derived.KernelRfl
namespace Go.Proofs.YtbamhnbmddopgaaGreatDoor
/- THE CELL 'sum', in the pinned program and in every row, IS THE sha256 OF THE DUMP (.gsa) THAT YtbamhnbmddopgaaGreatDoorProg.lean LOADS. Nothing in Lean hashes anything: it is a label: what it is worth is what the hold of that sum in a sandbox is worth. -/
noncomputable def Tryz.pinned : Pinned := { name := "ytbamhnbmddopgaagreatdoor", sum := "7032fee542921f44c677428fdca7115c259852aaefe0f5cb52b5988677867c2a", checked := Tryz.checked }
namespace Rows
def none {H : Type} : Left H := { results := [], args := [] }

/- WHAT THE LISTED PACKAGE-LEVEL VARIABLES READ AS WHEN THE CALL BEGINS. Each datum BY PROGRAM (the guide's laid-datum.mjs) off the statement by which the dump's own 'gosem.cut.vars' lays the variable. In a bare row this is a premise. The card (YtbamhnbmddopgaaGreatDoorCards.lean) ties it to the program's text. -/
def laid_loop_example_g01202_impl_errNoMember {H : Type} : DataW H := .iface "*errors.errorString" (.ptr (.agg [.lit (.string [110, 111, 32, 115, 117, 99, 104, 32, 109, 101, 109, 98, 101, 114])]))
def laid_loop_example_g01202_impl_errRefused {H : Type} : DataW H := .iface "*errors.errorString" (.ptr (.agg [.lit (.string [114, 101, 102, 117, 115, 101, 100])]))

/-- 'laws.FnExactOpenRoom': WHATEVER THE INPUT: true; the input reads as it did. -/
def fnExactOpenRoomSpec : ChangeSpec := { name := "fnExactOpenRoom", vars := ["loop.example/g01202/impl.errNoMember", "loop.example/g01202/impl.errRefused"], fn := fun _ => fun
  | [d1, d2, d3, d4, g1, g2] => { results := [.lit (.bool true)], args := [d1, d2, d3, d4], vars := [g1, g2] }
  | _ => none }
def fnExactOpenRoomRow : OpenClaim := { program := "ytbamhnbmddopgaagreatdoor", sum := "7032fee542921f44c677428fdca7115c259852aaefe0f5cb52b5988677867c2a", func := "loop.example/g01202/laws.FnExactOpenRoom", spec := "fnExactOpenRoom", inPlace := ["internal/reflectlite.TypeOf"], unfollowed := true, recurses := true, named := ["loop.example/g01202/impl.errNoMember", "loop.example/g01202/impl.errRefused"], ifaces := true, apart := false, laid := [("loop.example/g01202/impl.errNoMember", laid_loop_example_g01202_impl_errNoMember), ("loop.example/g01202/impl.errRefused", laid_loop_example_g01202_impl_errRefused)] }
def FnExactOpenRoomSaid : Prop := fnExactOpenRoomRow.holds Tryz.pinned (OpenSpec.ofChange fnExactOpenRoomSpec)

/-- ITS FALSE NEIGHBOUR: 'it returns false'. Refute it at one input. -/
def fnExactOpenRoomWrong : ChangeSpec := { name := "fnExactOpenRoom", vars := ["loop.example/g01202/impl.errNoMember", "loop.example/g01202/impl.errRefused"], fn := fun _ => fun
  | [d1, d2, d3, d4, g1, g2] => { results := [.lit (.bool false)], args := [d1, d2, d3, d4], vars := [g1, g2] }
  | _ => none }
def FnExactOpenRoomWrongFalsely : Prop := fnExactOpenRoomRow.holds Tryz.pinned (OpenSpec.ofChange fnExactOpenRoomWrong)

/-- 'laws.FnExactInviteTo': WHATEVER THE INPUT: true; the input reads as it did. -/
def fnExactInviteToSpec : ChangeSpec := { name := "fnExactInviteTo", vars := ["loop.example/g01202/impl.errNoMember", "loop.example/g01202/impl.errRefused"], fn := fun _ => fun
  | [d1, d2, d3, d4, d5, g1, g2] => { results := [.lit (.bool true)], args := [d1, d2, d3, d4, d5], vars := [g1, g2] }
  | _ => none }
def fnExactInviteToRow : OpenClaim := { program := "ytbamhnbmddopgaagreatdoor", sum := "7032fee542921f44c677428fdca7115c259852aaefe0f5cb52b5988677867c2a", func := "loop.example/g01202/laws.FnExactInviteTo", spec := "fnExactInviteTo", inPlace := ["internal/reflectlite.TypeOf"], unfollowed := true, recurses := true, named := ["loop.example/g01202/impl.errNoMember", "loop.example/g01202/impl.errRefused"], ifaces := true, apart := false, laid := [("loop.example/g01202/impl.errNoMember", laid_loop_example_g01202_impl_errNoMember), ("loop.example/g01202/impl.errRefused", laid_loop_example_g01202_impl_errRefused)] }
def FnExactInviteToSaid : Prop := fnExactInviteToRow.holds Tryz.pinned (OpenSpec.ofChange fnExactInviteToSpec)

/-- ITS FALSE NEIGHBOUR: 'it returns false'. Refute it at one input. -/
def fnExactInviteToWrong : ChangeSpec := { name := "fnExactInviteTo", vars := ["loop.example/g01202/impl.errNoMember", "loop.example/g01202/impl.errRefused"], fn := fun _ => fun
  | [d1, d2, d3, d4, d5, g1, g2] => { results := [.lit (.bool false)], args := [d1, d2, d3, d4, d5], vars := [g1, g2] }
  | _ => none }
def FnExactInviteToWrongFalsely : Prop := fnExactInviteToRow.holds Tryz.pinned (OpenSpec.ofChange fnExactInviteToWrong)

/-- 'laws.FnExactJoinRoom': WHATEVER THE INPUT: true; the input reads as it did. -/
def fnExactJoinRoomSpec : ChangeSpec := { name := "fnExactJoinRoom", vars := ["loop.example/g01202/impl.errNoMember", "loop.example/g01202/impl.errRefused"], fn := fun _ => fun
  | [d1, d2, d3, g1, g2] => { results := [.lit (.bool true)], args := [d1, d2, d3], vars := [g1, g2] }
  | _ => none }
def fnExactJoinRoomRow : OpenClaim := { program := "ytbamhnbmddopgaagreatdoor", sum := "7032fee542921f44c677428fdca7115c259852aaefe0f5cb52b5988677867c2a", func := "loop.example/g01202/laws.FnExactJoinRoom", spec := "fnExactJoinRoom", inPlace := ["internal/reflectlite.TypeOf"], unfollowed := true, recurses := true, named := ["loop.example/g01202/impl.errNoMember", "loop.example/g01202/impl.errRefused"], ifaces := true, apart := false, laid := [("loop.example/g01202/impl.errNoMember", laid_loop_example_g01202_impl_errNoMember), ("loop.example/g01202/impl.errRefused", laid_loop_example_g01202_impl_errRefused)] }
def FnExactJoinRoomSaid : Prop := fnExactJoinRoomRow.holds Tryz.pinned (OpenSpec.ofChange fnExactJoinRoomSpec)

/-- ITS FALSE NEIGHBOUR: 'it returns false'. Refute it at one input. -/
def fnExactJoinRoomWrong : ChangeSpec := { name := "fnExactJoinRoom", vars := ["loop.example/g01202/impl.errNoMember", "loop.example/g01202/impl.errRefused"], fn := fun _ => fun
  | [d1, d2, d3, g1, g2] => { results := [.lit (.bool false)], args := [d1, d2, d3], vars := [g1, g2] }
  | _ => none }
def FnExactJoinRoomWrongFalsely : Prop := fnExactJoinRoomRow.holds Tryz.pinned (OpenSpec.ofChange fnExactJoinRoomWrong)

/-- 'laws.FnExactLeaveRoom': WHATEVER THE INPUT: true; the input reads as it did. -/
def fnExactLeaveRoomSpec : ChangeSpec := { name := "fnExactLeaveRoom", vars := ["loop.example/g01202/impl.errRefused", "loop.example/g01202/impl.errNoMember"], fn := fun _ => fun
  | [d1, d2, g1, g2] => { results := [.lit (.bool true)], args := [d1, d2], vars := [g1, g2] }
  | _ => none }
def fnExactLeaveRoomRow : OpenClaim := { program := "ytbamhnbmddopgaagreatdoor", sum := "7032fee542921f44c677428fdca7115c259852aaefe0f5cb52b5988677867c2a", func := "loop.example/g01202/laws.FnExactLeaveRoom", spec := "fnExactLeaveRoom", unfollowed := true, recurses := true, named := ["loop.example/g01202/impl.errRefused", "loop.example/g01202/impl.errNoMember"], ifaces := true, apart := false, laid := [("loop.example/g01202/impl.errNoMember", laid_loop_example_g01202_impl_errNoMember), ("loop.example/g01202/impl.errRefused", laid_loop_example_g01202_impl_errRefused)] }
def FnExactLeaveRoomSaid : Prop := fnExactLeaveRoomRow.holds Tryz.pinned (OpenSpec.ofChange fnExactLeaveRoomSpec)

/-- ITS FALSE NEIGHBOUR: 'it returns false'. Refute it at one input. -/
def fnExactLeaveRoomWrong : ChangeSpec := { name := "fnExactLeaveRoom", vars := ["loop.example/g01202/impl.errRefused", "loop.example/g01202/impl.errNoMember"], fn := fun _ => fun
  | [d1, d2, g1, g2] => { results := [.lit (.bool false)], args := [d1, d2], vars := [g1, g2] }
  | _ => none }
def FnExactLeaveRoomWrongFalsely : Prop := fnExactLeaveRoomRow.holds Tryz.pinned (OpenSpec.ofChange fnExactLeaveRoomWrong)

/-- 'laws.FnExactGiveRole': WHATEVER THE INPUT: true; the input reads as it did. -/
def fnExactGiveRoleSpec : ChangeSpec := { name := "fnExactGiveRole", vars := ["loop.example/g01202/impl.errNoMember", "loop.example/g01202/impl.errRefused"], fn := fun _ => fun
  | [d1, d2, d3, d4, d5, g1, g2] => { results := [.lit (.bool true)], args := [d1, d2, d3, d4, d5], vars := [g1, g2] }
  | _ => none }
def fnExactGiveRoleRow : OpenClaim := { program := "ytbamhnbmddopgaagreatdoor", sum := "7032fee542921f44c677428fdca7115c259852aaefe0f5cb52b5988677867c2a", func := "loop.example/g01202/laws.FnExactGiveRole", spec := "fnExactGiveRole", inPlace := ["internal/reflectlite.TypeOf"], unfollowed := true, recurses := true, named := ["loop.example/g01202/impl.errNoMember", "loop.example/g01202/impl.errRefused"], ifaces := true, apart := false, laid := [("loop.example/g01202/impl.errNoMember", laid_loop_example_g01202_impl_errNoMember), ("loop.example/g01202/impl.errRefused", laid_loop_example_g01202_impl_errRefused)] }
def FnExactGiveRoleSaid : Prop := fnExactGiveRoleRow.holds Tryz.pinned (OpenSpec.ofChange fnExactGiveRoleSpec)

/-- ITS FALSE NEIGHBOUR: 'it returns false'. Refute it at one input. -/
def fnExactGiveRoleWrong : ChangeSpec := { name := "fnExactGiveRole", vars := ["loop.example/g01202/impl.errNoMember", "loop.example/g01202/impl.errRefused"], fn := fun _ => fun
  | [d1, d2, d3, d4, d5, g1, g2] => { results := [.lit (.bool false)], args := [d1, d2, d3, d4, d5], vars := [g1, g2] }
  | _ => none }
def FnExactGiveRoleWrongFalsely : Prop := fnExactGiveRoleRow.holds Tryz.pinned (OpenSpec.ofChange fnExactGiveRoleWrong)

/-- 'laws.FnExactMuteMember': WHATEVER THE INPUT: true; the input reads as it did. -/
def fnExactMuteMemberSpec : ChangeSpec := { name := "fnExactMuteMember", vars := ["loop.example/g01202/impl.errNoMember", "loop.example/g01202/impl.errRefused"], fn := fun _ => fun
  | [d1, d2, d3, d4, d5, g1, g2] => { results := [.lit (.bool true)], args := [d1, d2, d3, d4, d5], vars := [g1, g2] }
  | _ => none }
def fnExactMuteMemberRow : OpenClaim := { program := "ytbamhnbmddopgaagreatdoor", sum := "7032fee542921f44c677428fdca7115c259852aaefe0f5cb52b5988677867c2a", func := "loop.example/g01202/laws.FnExactMuteMember", spec := "fnExactMuteMember", inPlace := ["internal/reflectlite.TypeOf"], unfollowed := true, recurses := true, named := ["loop.example/g01202/impl.errNoMember", "loop.example/g01202/impl.errRefused"], ifaces := true, apart := false, laid := [("loop.example/g01202/impl.errNoMember", laid_loop_example_g01202_impl_errNoMember), ("loop.example/g01202/impl.errRefused", laid_loop_example_g01202_impl_errRefused)] }
def FnExactMuteMemberSaid : Prop := fnExactMuteMemberRow.holds Tryz.pinned (OpenSpec.ofChange fnExactMuteMemberSpec)

/-- ITS FALSE NEIGHBOUR: 'it returns false'. Refute it at one input. -/
def fnExactMuteMemberWrong : ChangeSpec := { name := "fnExactMuteMember", vars := ["loop.example/g01202/impl.errNoMember", "loop.example/g01202/impl.errRefused"], fn := fun _ => fun
  | [d1, d2, d3, d4, d5, g1, g2] => { results := [.lit (.bool false)], args := [d1, d2, d3, d4, d5], vars := [g1, g2] }
  | _ => none }
def FnExactMuteMemberWrongFalsely : Prop := fnExactMuteMemberRow.holds Tryz.pinned (OpenSpec.ofChange fnExactMuteMemberWrong)

/-- 'laws.FnExactBanMember': WHATEVER THE INPUT: true; the input reads as it did. -/
def fnExactBanMemberSpec : ChangeSpec := { name := "fnExactBanMember", vars := ["loop.example/g01202/impl.errNoMember", "loop.example/g01202/impl.errRefused"], fn := fun _ => fun
  | [d1, d2, d3, d4, d5, g1, g2] => { results := [.lit (.bool true)], args := [d1, d2, d3, d4, d5], vars := [g1, g2] }
  | _ => none }
def fnExactBanMemberRow : OpenClaim := { program := "ytbamhnbmddopgaagreatdoor", sum := "7032fee542921f44c677428fdca7115c259852aaefe0f5cb52b5988677867c2a", func := "loop.example/g01202/laws.FnExactBanMember", spec := "fnExactBanMember", inPlace := ["internal/reflectlite.TypeOf"], unfollowed := true, recurses := true, named := ["loop.example/g01202/impl.errNoMember", "loop.example/g01202/impl.errRefused"], ifaces := true, apart := false, laid := [("loop.example/g01202/impl.errNoMember", laid_loop_example_g01202_impl_errNoMember), ("loop.example/g01202/impl.errRefused", laid_loop_example_g01202_impl_errRefused)] }
def FnExactBanMemberSaid : Prop := fnExactBanMemberRow.holds Tryz.pinned (OpenSpec.ofChange fnExactBanMemberSpec)

/-- ITS FALSE NEIGHBOUR: 'it returns false'. Refute it at one input. -/
def fnExactBanMemberWrong : ChangeSpec := { name := "fnExactBanMember", vars := ["loop.example/g01202/impl.errNoMember", "loop.example/g01202/impl.errRefused"], fn := fun _ => fun
  | [d1, d2, d3, d4, d5, g1, g2] => { results := [.lit (.bool false)], args := [d1, d2, d3, d4, d5], vars := [g1, g2] }
  | _ => none }
def FnExactBanMemberWrongFalsely : Prop := fnExactBanMemberRow.holds Tryz.pinned (OpenSpec.ofChange fnExactBanMemberWrong)

/-- 'laws.FnExactLiftBan': WHATEVER THE INPUT: true; the input reads as it did. -/
def fnExactLiftBanSpec : ChangeSpec := { name := "fnExactLiftBan", vars := ["loop.example/g01202/impl.errNoMember", "loop.example/g01202/impl.errRefused"], fn := fun _ => fun
  | [d1, d2, d3, d4, g1, g2] => { results := [.lit (.bool true)], args := [d1, d2, d3, d4], vars := [g1, g2] }
  | _ => none }
def fnExactLiftBanRow : OpenClaim := { program := "ytbamhnbmddopgaagreatdoor", sum := "7032fee542921f44c677428fdca7115c259852aaefe0f5cb52b5988677867c2a", func := "loop.example/g01202/laws.FnExactLiftBan", spec := "fnExactLiftBan", inPlace := ["internal/reflectlite.TypeOf"], unfollowed := true, recurses := true, named := ["loop.example/g01202/impl.errNoMember", "loop.example/g01202/impl.errRefused"], ifaces := true, apart := false, laid := [("loop.example/g01202/impl.errNoMember", laid_loop_example_g01202_impl_errNoMember), ("loop.example/g01202/impl.errRefused", laid_loop_example_g01202_impl_errRefused)] }
def FnExactLiftBanSaid : Prop := fnExactLiftBanRow.holds Tryz.pinned (OpenSpec.ofChange fnExactLiftBanSpec)

/-- ITS FALSE NEIGHBOUR: 'it returns false'. Refute it at one input. -/
def fnExactLiftBanWrong : ChangeSpec := { name := "fnExactLiftBan", vars := ["loop.example/g01202/impl.errNoMember", "loop.example/g01202/impl.errRefused"], fn := fun _ => fun
  | [d1, d2, d3, d4, g1, g2] => { results := [.lit (.bool false)], args := [d1, d2, d3, d4], vars := [g1, g2] }
  | _ => none }
def FnExactLiftBanWrongFalsely : Prop := fnExactLiftBanRow.holds Tryz.pinned (OpenSpec.ofChange fnExactLiftBanWrong)

/-- 'laws.FnExactSweepRoom': WHATEVER THE INPUT: true; the input reads as it did. -/
def fnExactSweepRoomSpec : ChangeSpec := { name := "fnExactSweepRoom", vars := ["loop.example/g01202/impl.errRefused"], fn := fun _ => fun
  | [d1, d2, g1] => { results := [.lit (.bool true)], args := [d1, d2], vars := [g1] }
  | _ => none }
def fnExactSweepRoomRow : OpenClaim := { program := "ytbamhnbmddopgaagreatdoor", sum := "7032fee542921f44c677428fdca7115c259852aaefe0f5cb52b5988677867c2a", func := "loop.example/g01202/laws.FnExactSweepRoom", spec := "fnExactSweepRoom", unfollowed := true, recurses := true, named := ["loop.example/g01202/impl.errRefused"], ifaces := true, apart := false, laid := [("loop.example/g01202/impl.errRefused", laid_loop_example_g01202_impl_errRefused)] }
def FnExactSweepRoomSaid : Prop := fnExactSweepRoomRow.holds Tryz.pinned (OpenSpec.ofChange fnExactSweepRoomSpec)

/-- ITS FALSE NEIGHBOUR: 'it returns false'. Refute it at one input. -/
def fnExactSweepRoomWrong : ChangeSpec := { name := "fnExactSweepRoom", vars := ["loop.example/g01202/impl.errRefused"], fn := fun _ => fun
  | [d1, d2, g1] => { results := [.lit (.bool false)], args := [d1, d2], vars := [g1] }
  | _ => none }
def FnExactSweepRoomWrongFalsely : Prop := fnExactSweepRoomRow.holds Tryz.pinned (OpenSpec.ofChange fnExactSweepRoomWrong)

/-- 'laws.FnJoined': WHATEVER THE INPUT: true; the input reads as it did. -/
def fnJoinedSpec : ChangeSpec := { name := "fnJoined", vars := ["loop.example/g01202/impl.errNoMember", "loop.example/g01202/impl.errRefused"], fn := fun _ => fun
  | [d1, d2, g1, g2] => { results := [.lit (.bool true)], args := [d1, d2], vars := [g1, g2] }
  | _ => none }
def fnJoinedRow : OpenClaim := { program := "ytbamhnbmddopgaagreatdoor", sum := "7032fee542921f44c677428fdca7115c259852aaefe0f5cb52b5988677867c2a", func := "loop.example/g01202/laws.FnJoined", spec := "fnJoined", inPlace := ["internal/reflectlite.TypeOf"], unfollowed := true, recurses := true, named := ["loop.example/g01202/impl.errNoMember", "loop.example/g01202/impl.errRefused"], ifaces := true, apart := false, laid := [("loop.example/g01202/impl.errNoMember", laid_loop_example_g01202_impl_errNoMember), ("loop.example/g01202/impl.errRefused", laid_loop_example_g01202_impl_errRefused)] }
def FnJoinedSaid : Prop := fnJoinedRow.holds Tryz.pinned (OpenSpec.ofChange fnJoinedSpec)

/-- ITS FALSE NEIGHBOUR: 'it returns false'. Refute it at one input. -/
def fnJoinedWrong : ChangeSpec := { name := "fnJoined", vars := ["loop.example/g01202/impl.errNoMember", "loop.example/g01202/impl.errRefused"], fn := fun _ => fun
  | [d1, d2, g1, g2] => { results := [.lit (.bool false)], args := [d1, d2], vars := [g1, g2] }
  | _ => none }
def FnJoinedWrongFalsely : Prop := fnJoinedRow.holds Tryz.pinned (OpenSpec.ofChange fnJoinedWrong)

/-- 'laws.FnRanked': WHATEVER THE INPUT: true; the input reads as it did. -/
def fnRankedSpec : ChangeSpec := { name := "fnRanked", vars := ["loop.example/g01202/impl.errNoMember", "loop.example/g01202/impl.errRefused"], fn := fun _ => fun
  | [d1, d2, g1, g2] => { results := [.lit (.bool true)], args := [d1, d2], vars := [g1, g2] }
  | _ => none }
def fnRankedRow : OpenClaim := { program := "ytbamhnbmddopgaagreatdoor", sum := "7032fee542921f44c677428fdca7115c259852aaefe0f5cb52b5988677867c2a", func := "loop.example/g01202/laws.FnRanked", spec := "fnRanked", inPlace := ["internal/reflectlite.TypeOf"], unfollowed := true, recurses := true, named := ["loop.example/g01202/impl.errNoMember", "loop.example/g01202/impl.errRefused"], ifaces := true, apart := false, laid := [("loop.example/g01202/impl.errNoMember", laid_loop_example_g01202_impl_errNoMember), ("loop.example/g01202/impl.errRefused", laid_loop_example_g01202_impl_errRefused)] }
def FnRankedSaid : Prop := fnRankedRow.holds Tryz.pinned (OpenSpec.ofChange fnRankedSpec)

/-- ITS FALSE NEIGHBOUR: 'it returns false'. Refute it at one input. -/
def fnRankedWrong : ChangeSpec := { name := "fnRanked", vars := ["loop.example/g01202/impl.errNoMember", "loop.example/g01202/impl.errRefused"], fn := fun _ => fun
  | [d1, d2, g1, g2] => { results := [.lit (.bool false)], args := [d1, d2], vars := [g1, g2] }
  | _ => none }
def FnRankedWrongFalsely : Prop := fnRankedRow.holds Tryz.pinned (OpenSpec.ofChange fnRankedWrong)

/-- 'laws.FnSwept': WHATEVER THE INPUT: true; the input reads as it did. -/
def fnSweptSpec : ChangeSpec := { name := "fnSwept", vars := ["loop.example/g01202/impl.errRefused", "loop.example/g01202/impl.errNoMember"], fn := fun _ => fun
  | [d1, d2, g1, g2] => { results := [.lit (.bool true)], args := [d1, d2], vars := [g1, g2] }
  | _ => none }
def fnSweptRow : OpenClaim := { program := "ytbamhnbmddopgaagreatdoor", sum := "7032fee542921f44c677428fdca7115c259852aaefe0f5cb52b5988677867c2a", func := "loop.example/g01202/laws.FnSwept", spec := "fnSwept", unfollowed := true, recurses := true, named := ["loop.example/g01202/impl.errRefused", "loop.example/g01202/impl.errNoMember"], ifaces := true, apart := false, laid := [("loop.example/g01202/impl.errNoMember", laid_loop_example_g01202_impl_errNoMember), ("loop.example/g01202/impl.errRefused", laid_loop_example_g01202_impl_errRefused)] }
def FnSweptSaid : Prop := fnSweptRow.holds Tryz.pinned (OpenSpec.ofChange fnSweptSpec)

/-- ITS FALSE NEIGHBOUR: 'it returns false'. Refute it at one input. -/
def fnSweptWrong : ChangeSpec := { name := "fnSwept", vars := ["loop.example/g01202/impl.errRefused", "loop.example/g01202/impl.errNoMember"], fn := fun _ => fun
  | [d1, d2, g1, g2] => { results := [.lit (.bool false)], args := [d1, d2], vars := [g1, g2] }
  | _ => none }
def FnSweptWrongFalsely : Prop := fnSweptRow.holds Tryz.pinned (OpenSpec.ofChange fnSweptWrong)

/- THE SECOND FORM. 'bulk': how many values and letters a reading holds, each counted each time it is reached (what is shared counts as often as it is met; a slice's spare places count too). A statement '..UptoSaid' is the law's where the arguments, and the package variables that the reading takes, are together of bulk at most 1048576: NARROWER than '..Said'. Prove '..Said' where nothing that the law and all that it calls make is longer than what came in: it says more and counts as full. Else prove '..UptoSaid'. A law counts once. -/
mutual
def uptoBulk {H : Type} : DataW H → Nat
  | .lit (.string bytes) => bytes.length + 1
  | .lit _ => 1
  | .nil => 1
  | .ptr d => uptoBulk d + 1
  | .slice elems spare => uptoBulkAll elems + uptoBulkAll spare + 1
  | .agg parts => uptoBulkAll parts + 1
  | .iface _ d => uptoBulk d + 1
  | .map entries => uptoBulkEntries entries + 1
  | .held _ => 1
def uptoBulkAll {H : Type} : List (DataW H) → Nat
  | [] => 0
  | d :: r => uptoBulk d + uptoBulkAll r
def uptoBulkEntries {H : Type} : List (Lit × DataW H) → Nat
  | [] => 0
  | x :: r => uptoBulkEntry x + uptoBulkEntries r
def uptoBulkEntry {H : Type} : Lit × DataW H → Nat
  | (.string bytes, d) => bytes.length + uptoBulk d + 1
  | (_, d) => uptoBulk d + 1
 end
def uptoSmall : (H : Type) → List (DataW H) → Bool := fun _ ds => decide (uptoBulkAll ds ≤ 1048576)
def OpenSpec.upto (s : _root_.Go.ChangeSpec) : _root_.Go.OpenSpec := { _root_.Go.OpenSpec.ofChange s with cond := some uptoSmall }

/-- 'laws.FnExactOpenRoom', WHERE WHAT IT READS IS OF BULK AT MOST 1048576: true; the input reads as it did. -/
def fnExactOpenRoomUptoRow : OpenClaim := { program := "ytbamhnbmddopgaagreatdoor", sum := "7032fee542921f44c677428fdca7115c259852aaefe0f5cb52b5988677867c2a", func := "loop.example/g01202/laws.FnExactOpenRoom", spec := "fnExactOpenRoom", inPlace := ["internal/reflectlite.TypeOf"], unfollowed := true, recurses := true, named := ["loop.example/g01202/impl.errNoMember", "loop.example/g01202/impl.errRefused"], ifaces := true, apart := false, laid := [("loop.example/g01202/impl.errNoMember", laid_loop_example_g01202_impl_errNoMember), ("loop.example/g01202/impl.errRefused", laid_loop_example_g01202_impl_errRefused)], narrowed := true }
def FnExactOpenRoomUptoSaid : Prop := fnExactOpenRoomUptoRow.holds Tryz.pinned (OpenSpec.upto fnExactOpenRoomSpec)

/-- 'laws.FnExactInviteTo', WHERE WHAT IT READS IS OF BULK AT MOST 1048576: true; the input reads as it did. -/
def fnExactInviteToUptoRow : OpenClaim := { program := "ytbamhnbmddopgaagreatdoor", sum := "7032fee542921f44c677428fdca7115c259852aaefe0f5cb52b5988677867c2a", func := "loop.example/g01202/laws.FnExactInviteTo", spec := "fnExactInviteTo", inPlace := ["internal/reflectlite.TypeOf"], unfollowed := true, recurses := true, named := ["loop.example/g01202/impl.errNoMember", "loop.example/g01202/impl.errRefused"], ifaces := true, apart := false, laid := [("loop.example/g01202/impl.errNoMember", laid_loop_example_g01202_impl_errNoMember), ("loop.example/g01202/impl.errRefused", laid_loop_example_g01202_impl_errRefused)], narrowed := true }
def FnExactInviteToUptoSaid : Prop := fnExactInviteToUptoRow.holds Tryz.pinned (OpenSpec.upto fnExactInviteToSpec)

/-- 'laws.FnExactJoinRoom', WHERE WHAT IT READS IS OF BULK AT MOST 1048576: true; the input reads as it did. -/
def fnExactJoinRoomUptoRow : OpenClaim := { program := "ytbamhnbmddopgaagreatdoor", sum := "7032fee542921f44c677428fdca7115c259852aaefe0f5cb52b5988677867c2a", func := "loop.example/g01202/laws.FnExactJoinRoom", spec := "fnExactJoinRoom", inPlace := ["internal/reflectlite.TypeOf"], unfollowed := true, recurses := true, named := ["loop.example/g01202/impl.errNoMember", "loop.example/g01202/impl.errRefused"], ifaces := true, apart := false, laid := [("loop.example/g01202/impl.errNoMember", laid_loop_example_g01202_impl_errNoMember), ("loop.example/g01202/impl.errRefused", laid_loop_example_g01202_impl_errRefused)], narrowed := true }
def FnExactJoinRoomUptoSaid : Prop := fnExactJoinRoomUptoRow.holds Tryz.pinned (OpenSpec.upto fnExactJoinRoomSpec)

/-- 'laws.FnExactLeaveRoom', WHERE WHAT IT READS IS OF BULK AT MOST 1048576: true; the input reads as it did. -/
def fnExactLeaveRoomUptoRow : OpenClaim := { program := "ytbamhnbmddopgaagreatdoor", sum := "7032fee542921f44c677428fdca7115c259852aaefe0f5cb52b5988677867c2a", func := "loop.example/g01202/laws.FnExactLeaveRoom", spec := "fnExactLeaveRoom", unfollowed := true, recurses := true, named := ["loop.example/g01202/impl.errRefused", "loop.example/g01202/impl.errNoMember"], ifaces := true, apart := false, laid := [("loop.example/g01202/impl.errNoMember", laid_loop_example_g01202_impl_errNoMember), ("loop.example/g01202/impl.errRefused", laid_loop_example_g01202_impl_errRefused)], narrowed := true }
def FnExactLeaveRoomUptoSaid : Prop := fnExactLeaveRoomUptoRow.holds Tryz.pinned (OpenSpec.upto fnExactLeaveRoomSpec)

/-- 'laws.FnExactGiveRole', WHERE WHAT IT READS IS OF BULK AT MOST 1048576: true; the input reads as it did. -/
def fnExactGiveRoleUptoRow : OpenClaim := { program := "ytbamhnbmddopgaagreatdoor", sum := "7032fee542921f44c677428fdca7115c259852aaefe0f5cb52b5988677867c2a", func := "loop.example/g01202/laws.FnExactGiveRole", spec := "fnExactGiveRole", inPlace := ["internal/reflectlite.TypeOf"], unfollowed := true, recurses := true, named := ["loop.example/g01202/impl.errNoMember", "loop.example/g01202/impl.errRefused"], ifaces := true, apart := false, laid := [("loop.example/g01202/impl.errNoMember", laid_loop_example_g01202_impl_errNoMember), ("loop.example/g01202/impl.errRefused", laid_loop_example_g01202_impl_errRefused)], narrowed := true }
def FnExactGiveRoleUptoSaid : Prop := fnExactGiveRoleUptoRow.holds Tryz.pinned (OpenSpec.upto fnExactGiveRoleSpec)

/-- 'laws.FnExactMuteMember', WHERE WHAT IT READS IS OF BULK AT MOST 1048576: true; the input reads as it did. -/
def fnExactMuteMemberUptoRow : OpenClaim := { program := "ytbamhnbmddopgaagreatdoor", sum := "7032fee542921f44c677428fdca7115c259852aaefe0f5cb52b5988677867c2a", func := "loop.example/g01202/laws.FnExactMuteMember", spec := "fnExactMuteMember", inPlace := ["internal/reflectlite.TypeOf"], unfollowed := true, recurses := true, named := ["loop.example/g01202/impl.errNoMember", "loop.example/g01202/impl.errRefused"], ifaces := true, apart := false, laid := [("loop.example/g01202/impl.errNoMember", laid_loop_example_g01202_impl_errNoMember), ("loop.example/g01202/impl.errRefused", laid_loop_example_g01202_impl_errRefused)], narrowed := true }
def FnExactMuteMemberUptoSaid : Prop := fnExactMuteMemberUptoRow.holds Tryz.pinned (OpenSpec.upto fnExactMuteMemberSpec)

/-- 'laws.FnExactBanMember', WHERE WHAT IT READS IS OF BULK AT MOST 1048576: true; the input reads as it did. -/
def fnExactBanMemberUptoRow : OpenClaim := { program := "ytbamhnbmddopgaagreatdoor", sum := "7032fee542921f44c677428fdca7115c259852aaefe0f5cb52b5988677867c2a", func := "loop.example/g01202/laws.FnExactBanMember", spec := "fnExactBanMember", inPlace := ["internal/reflectlite.TypeOf"], unfollowed := true, recurses := true, named := ["loop.example/g01202/impl.errNoMember", "loop.example/g01202/impl.errRefused"], ifaces := true, apart := false, laid := [("loop.example/g01202/impl.errNoMember", laid_loop_example_g01202_impl_errNoMember), ("loop.example/g01202/impl.errRefused", laid_loop_example_g01202_impl_errRefused)], narrowed := true }
def FnExactBanMemberUptoSaid : Prop := fnExactBanMemberUptoRow.holds Tryz.pinned (OpenSpec.upto fnExactBanMemberSpec)

/-- 'laws.FnExactLiftBan', WHERE WHAT IT READS IS OF BULK AT MOST 1048576: true; the input reads as it did. -/
def fnExactLiftBanUptoRow : OpenClaim := { program := "ytbamhnbmddopgaagreatdoor", sum := "7032fee542921f44c677428fdca7115c259852aaefe0f5cb52b5988677867c2a", func := "loop.example/g01202/laws.FnExactLiftBan", spec := "fnExactLiftBan", inPlace := ["internal/reflectlite.TypeOf"], unfollowed := true, recurses := true, named := ["loop.example/g01202/impl.errNoMember", "loop.example/g01202/impl.errRefused"], ifaces := true, apart := false, laid := [("loop.example/g01202/impl.errNoMember", laid_loop_example_g01202_impl_errNoMember), ("loop.example/g01202/impl.errRefused", laid_loop_example_g01202_impl_errRefused)], narrowed := true }
def FnExactLiftBanUptoSaid : Prop := fnExactLiftBanUptoRow.holds Tryz.pinned (OpenSpec.upto fnExactLiftBanSpec)

/-- 'laws.FnExactSweepRoom', WHERE WHAT IT READS IS OF BULK AT MOST 1048576: true; the input reads as it did. -/
def fnExactSweepRoomUptoRow : OpenClaim := { program := "ytbamhnbmddopgaagreatdoor", sum := "7032fee542921f44c677428fdca7115c259852aaefe0f5cb52b5988677867c2a", func := "loop.example/g01202/laws.FnExactSweepRoom", spec := "fnExactSweepRoom", unfollowed := true, recurses := true, named := ["loop.example/g01202/impl.errRefused"], ifaces := true, apart := false, laid := [("loop.example/g01202/impl.errRefused", laid_loop_example_g01202_impl_errRefused)], narrowed := true }
def FnExactSweepRoomUptoSaid : Prop := fnExactSweepRoomUptoRow.holds Tryz.pinned (OpenSpec.upto fnExactSweepRoomSpec)

/-- 'laws.FnJoined', WHERE WHAT IT READS IS OF BULK AT MOST 1048576: true; the input reads as it did. -/
def fnJoinedUptoRow : OpenClaim := { program := "ytbamhnbmddopgaagreatdoor", sum := "7032fee542921f44c677428fdca7115c259852aaefe0f5cb52b5988677867c2a", func := "loop.example/g01202/laws.FnJoined", spec := "fnJoined", inPlace := ["internal/reflectlite.TypeOf"], unfollowed := true, recurses := true, named := ["loop.example/g01202/impl.errNoMember", "loop.example/g01202/impl.errRefused"], ifaces := true, apart := false, laid := [("loop.example/g01202/impl.errNoMember", laid_loop_example_g01202_impl_errNoMember), ("loop.example/g01202/impl.errRefused", laid_loop_example_g01202_impl_errRefused)], narrowed := true }
def FnJoinedUptoSaid : Prop := fnJoinedUptoRow.holds Tryz.pinned (OpenSpec.upto fnJoinedSpec)

/-- 'laws.FnRanked', WHERE WHAT IT READS IS OF BULK AT MOST 1048576: true; the input reads as it did. -/
def fnRankedUptoRow : OpenClaim := { program := "ytbamhnbmddopgaagreatdoor", sum := "7032fee542921f44c677428fdca7115c259852aaefe0f5cb52b5988677867c2a", func := "loop.example/g01202/laws.FnRanked", spec := "fnRanked", inPlace := ["internal/reflectlite.TypeOf"], unfollowed := true, recurses := true, named := ["loop.example/g01202/impl.errNoMember", "loop.example/g01202/impl.errRefused"], ifaces := true, apart := false, laid := [("loop.example/g01202/impl.errNoMember", laid_loop_example_g01202_impl_errNoMember), ("loop.example/g01202/impl.errRefused", laid_loop_example_g01202_impl_errRefused)], narrowed := true }
def FnRankedUptoSaid : Prop := fnRankedUptoRow.holds Tryz.pinned (OpenSpec.upto fnRankedSpec)

/-- 'laws.FnSwept', WHERE WHAT IT READS IS OF BULK AT MOST 1048576: true; the input reads as it did. -/
def fnSweptUptoRow : OpenClaim := { program := "ytbamhnbmddopgaagreatdoor", sum := "7032fee542921f44c677428fdca7115c259852aaefe0f5cb52b5988677867c2a", func := "loop.example/g01202/laws.FnSwept", spec := "fnSwept", unfollowed := true, recurses := true, named := ["loop.example/g01202/impl.errRefused", "loop.example/g01202/impl.errNoMember"], ifaces := true, apart := false, laid := [("loop.example/g01202/impl.errNoMember", laid_loop_example_g01202_impl_errNoMember), ("loop.example/g01202/impl.errRefused", laid_loop_example_g01202_impl_errRefused)], narrowed := true }
def FnSweptUptoSaid : Prop := fnSweptUptoRow.holds Tryz.pinned (OpenSpec.upto fnSweptSpec)

end Rows
end Go.Proofs.YtbamhnbmddopgaaGreatDoor
