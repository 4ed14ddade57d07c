/-
  DERIVED. GIVEN WITH THE SEED: THE CARDS: each row of YtbamhnbmddopgaaGreatDoorRows.lean that lists a variable, with what it lists TIED to the program's text (the seventh form; the later family's looks); each row that meets fmt, with fmt's text TOLD by the authors' own Lean function (tested against real Go, not proved from fmt's source: count such statements apart). THE CARD IS WHAT COUNTS. Prove the row's statement (the work); the ties are given (YtbamhnbmddopgaaGreatDoorTie.lean); close each card by the builder's one call (the guide's Derived/Test/ToyasCard.lean, 'card_holds'). Laid BY PROGRAM, IN A SANDBOX (cutbox-door.mjs). By AI agents, Wed Nov 11 2026. No macro, syntax, notation, axiom, sorry.
-/
import Derived.Test.YtbamhnbmddopgaaGreatDoorRows
import GoSem.ClaimSeven
namespace Go.Proofs.YtbamhnbmddopgaaGreatDoor
namespace Rows

/-- THE TIED CARD OF 'laws.FnExactOpenRoom'. -/
def fnExactOpenRoomCard : Claim7 := { stood := { row := fnExactOpenRoomRow, standIns := [], harness := (true, "55409fff74c4fd57f0bab32e9803c571d198ddb2065f9d9b6a9b59218009035c"), looks := true }, kinds := [], alts := [], laidByText := true, laidKinds := [.sentinel, .sentinel], laidTests := true, laidLooks := .later }
def FnExactOpenRoomCardSaid : Prop := Claim7.holds Tryz.pinned (.plain (OpenSpec.ofChange fnExactOpenRoomSpec)) fnExactOpenRoomCard

/-- THE TIED CARD OF 'laws.FnExactInviteTo'. -/
def fnExactInviteToCard : Claim7 := { stood := { row := fnExactInviteToRow, standIns := [], harness := (true, "55409fff74c4fd57f0bab32e9803c571d198ddb2065f9d9b6a9b59218009035c"), looks := true }, kinds := [], alts := [], laidByText := true, laidKinds := [.sentinel, .sentinel], laidTests := true, laidLooks := .later }
def FnExactInviteToCardSaid : Prop := Claim7.holds Tryz.pinned (.plain (OpenSpec.ofChange fnExactInviteToSpec)) fnExactInviteToCard

/-- THE TIED CARD OF 'laws.FnExactJoinRoom'. -/
def fnExactJoinRoomCard : Claim7 := { stood := { row := fnExactJoinRoomRow, standIns := [], harness := (true, "55409fff74c4fd57f0bab32e9803c571d198ddb2065f9d9b6a9b59218009035c"), looks := true }, kinds := [], alts := [], laidByText := true, laidKinds := [.sentinel, .sentinel], laidTests := true, laidLooks := .later }
def FnExactJoinRoomCardSaid : Prop := Claim7.holds Tryz.pinned (.plain (OpenSpec.ofChange fnExactJoinRoomSpec)) fnExactJoinRoomCard

/-- THE TIED CARD OF 'laws.FnExactLeaveRoom'. -/
def fnExactLeaveRoomCard : Claim7 := { stood := { row := fnExactLeaveRoomRow, standIns := [], harness := (true, "55409fff74c4fd57f0bab32e9803c571d198ddb2065f9d9b6a9b59218009035c"), looks := true }, kinds := [], alts := [], laidByText := true, laidKinds := [.sentinel, .sentinel], laidTests := true, laidLooks := .later }
def FnExactLeaveRoomCardSaid : Prop := Claim7.holds Tryz.pinned (.plain (OpenSpec.ofChange fnExactLeaveRoomSpec)) fnExactLeaveRoomCard

/-- THE TIED CARD OF 'laws.FnExactGiveRole'. -/
def fnExactGiveRoleCard : Claim7 := { stood := { row := fnExactGiveRoleRow, standIns := [], harness := (true, "55409fff74c4fd57f0bab32e9803c571d198ddb2065f9d9b6a9b59218009035c"), looks := true }, kinds := [], alts := [], laidByText := true, laidKinds := [.sentinel, .sentinel], laidTests := true, laidLooks := .later }
def FnExactGiveRoleCardSaid : Prop := Claim7.holds Tryz.pinned (.plain (OpenSpec.ofChange fnExactGiveRoleSpec)) fnExactGiveRoleCard

/-- THE TIED CARD OF 'laws.FnExactMuteMember'. -/
def fnExactMuteMemberCard : Claim7 := { stood := { row := fnExactMuteMemberRow, standIns := [], harness := (true, "55409fff74c4fd57f0bab32e9803c571d198ddb2065f9d9b6a9b59218009035c"), looks := true }, kinds := [], alts := [], laidByText := true, laidKinds := [.sentinel, .sentinel], laidTests := true, laidLooks := .later }
def FnExactMuteMemberCardSaid : Prop := Claim7.holds Tryz.pinned (.plain (OpenSpec.ofChange fnExactMuteMemberSpec)) fnExactMuteMemberCard

/-- THE TIED CARD OF 'laws.FnExactBanMember'. -/
def fnExactBanMemberCard : Claim7 := { stood := { row := fnExactBanMemberRow, standIns := [], harness := (true, "55409fff74c4fd57f0bab32e9803c571d198ddb2065f9d9b6a9b59218009035c"), looks := true }, kinds := [], alts := [], laidByText := true, laidKinds := [.sentinel, .sentinel], laidTests := true, laidLooks := .later }
def FnExactBanMemberCardSaid : Prop := Claim7.holds Tryz.pinned (.plain (OpenSpec.ofChange fnExactBanMemberSpec)) fnExactBanMemberCard

/-- THE TIED CARD OF 'laws.FnExactLiftBan'. -/
def fnExactLiftBanCard : Claim7 := { stood := { row := fnExactLiftBanRow, standIns := [], harness := (true, "55409fff74c4fd57f0bab32e9803c571d198ddb2065f9d9b6a9b59218009035c"), looks := true }, kinds := [], alts := [], laidByText := true, laidKinds := [.sentinel, .sentinel], laidTests := true, laidLooks := .later }
def FnExactLiftBanCardSaid : Prop := Claim7.holds Tryz.pinned (.plain (OpenSpec.ofChange fnExactLiftBanSpec)) fnExactLiftBanCard

/-- THE TIED CARD OF 'laws.FnExactSweepRoom'. -/
def fnExactSweepRoomCard : Claim7 := { stood := { row := fnExactSweepRoomRow, standIns := [], harness := (true, "55409fff74c4fd57f0bab32e9803c571d198ddb2065f9d9b6a9b59218009035c"), looks := true }, kinds := [], alts := [], laidByText := true, laidKinds := [.sentinel], laidTests := true, laidLooks := .later }
def FnExactSweepRoomCardSaid : Prop := Claim7.holds Tryz.pinned (.plain (OpenSpec.ofChange fnExactSweepRoomSpec)) fnExactSweepRoomCard

/-- THE TIED CARD OF 'laws.FnJoined'. -/
def fnJoinedCard : Claim7 := { stood := { row := fnJoinedRow, standIns := [], harness := (true, "55409fff74c4fd57f0bab32e9803c571d198ddb2065f9d9b6a9b59218009035c"), looks := true }, kinds := [], alts := [], laidByText := true, laidKinds := [.sentinel, .sentinel], laidTests := true, laidLooks := .later }
def FnJoinedCardSaid : Prop := Claim7.holds Tryz.pinned (.plain (OpenSpec.ofChange fnJoinedSpec)) fnJoinedCard

/-- THE TIED CARD OF 'laws.FnRanked'. -/
def fnRankedCard : Claim7 := { stood := { row := fnRankedRow, standIns := [], harness := (true, "55409fff74c4fd57f0bab32e9803c571d198ddb2065f9d9b6a9b59218009035c"), looks := true }, kinds := [], alts := [], laidByText := true, laidKinds := [.sentinel, .sentinel], laidTests := true, laidLooks := .later }
def FnRankedCardSaid : Prop := Claim7.holds Tryz.pinned (.plain (OpenSpec.ofChange fnRankedSpec)) fnRankedCard

/-- THE TIED CARD OF 'laws.FnSwept'. -/
def fnSweptCard : Claim7 := { stood := { row := fnSweptRow, standIns := [], harness := (true, "55409fff74c4fd57f0bab32e9803c571d198ddb2065f9d9b6a9b59218009035c"), looks := true }, kinds := [], alts := [], laidByText := true, laidKinds := [.sentinel, .sentinel], laidTests := true, laidLooks := .later }
def FnSweptCardSaid : Prop := Claim7.holds Tryz.pinned (.plain (OpenSpec.ofChange fnSweptSpec)) fnSweptCard

/-- THE SECOND FORM's CARD OF 'laws.FnExactOpenRoom'. -/
def fnExactOpenRoomUptoCard : Claim7 := { stood := { row := fnExactOpenRoomUptoRow, standIns := [], harness := (true, "55409fff74c4fd57f0bab32e9803c571d198ddb2065f9d9b6a9b59218009035c"), looks := true }, kinds := [], alts := [], laidByText := true, laidKinds := [.sentinel, .sentinel], laidTests := true, laidLooks := .later }
def FnExactOpenRoomUptoCardSaid : Prop := Claim7.holds Tryz.pinned (.plain (OpenSpec.upto fnExactOpenRoomSpec)) fnExactOpenRoomUptoCard

/-- THE SECOND FORM's CARD OF 'laws.FnExactInviteTo'. -/
def fnExactInviteToUptoCard : Claim7 := { stood := { row := fnExactInviteToUptoRow, standIns := [], harness := (true, "55409fff74c4fd57f0bab32e9803c571d198ddb2065f9d9b6a9b59218009035c"), looks := true }, kinds := [], alts := [], laidByText := true, laidKinds := [.sentinel, .sentinel], laidTests := true, laidLooks := .later }
def FnExactInviteToUptoCardSaid : Prop := Claim7.holds Tryz.pinned (.plain (OpenSpec.upto fnExactInviteToSpec)) fnExactInviteToUptoCard

/-- THE SECOND FORM's CARD OF 'laws.FnExactJoinRoom'. -/
def fnExactJoinRoomUptoCard : Claim7 := { stood := { row := fnExactJoinRoomUptoRow, standIns := [], harness := (true, "55409fff74c4fd57f0bab32e9803c571d198ddb2065f9d9b6a9b59218009035c"), looks := true }, kinds := [], alts := [], laidByText := true, laidKinds := [.sentinel, .sentinel], laidTests := true, laidLooks := .later }
def FnExactJoinRoomUptoCardSaid : Prop := Claim7.holds Tryz.pinned (.plain (OpenSpec.upto fnExactJoinRoomSpec)) fnExactJoinRoomUptoCard

/-- THE SECOND FORM's CARD OF 'laws.FnExactLeaveRoom'. -/
def fnExactLeaveRoomUptoCard : Claim7 := { stood := { row := fnExactLeaveRoomUptoRow, standIns := [], harness := (true, "55409fff74c4fd57f0bab32e9803c571d198ddb2065f9d9b6a9b59218009035c"), looks := true }, kinds := [], alts := [], laidByText := true, laidKinds := [.sentinel, .sentinel], laidTests := true, laidLooks := .later }
def FnExactLeaveRoomUptoCardSaid : Prop := Claim7.holds Tryz.pinned (.plain (OpenSpec.upto fnExactLeaveRoomSpec)) fnExactLeaveRoomUptoCard

/-- THE SECOND FORM's CARD OF 'laws.FnExactGiveRole'. -/
def fnExactGiveRoleUptoCard : Claim7 := { stood := { row := fnExactGiveRoleUptoRow, standIns := [], harness := (true, "55409fff74c4fd57f0bab32e9803c571d198ddb2065f9d9b6a9b59218009035c"), looks := true }, kinds := [], alts := [], laidByText := true, laidKinds := [.sentinel, .sentinel], laidTests := true, laidLooks := .later }
def FnExactGiveRoleUptoCardSaid : Prop := Claim7.holds Tryz.pinned (.plain (OpenSpec.upto fnExactGiveRoleSpec)) fnExactGiveRoleUptoCard

/-- THE SECOND FORM's CARD OF 'laws.FnExactMuteMember'. -/
def fnExactMuteMemberUptoCard : Claim7 := { stood := { row := fnExactMuteMemberUptoRow, standIns := [], harness := (true, "55409fff74c4fd57f0bab32e9803c571d198ddb2065f9d9b6a9b59218009035c"), looks := true }, kinds := [], alts := [], laidByText := true, laidKinds := [.sentinel, .sentinel], laidTests := true, laidLooks := .later }
def FnExactMuteMemberUptoCardSaid : Prop := Claim7.holds Tryz.pinned (.plain (OpenSpec.upto fnExactMuteMemberSpec)) fnExactMuteMemberUptoCard

/-- THE SECOND FORM's CARD OF 'laws.FnExactBanMember'. -/
def fnExactBanMemberUptoCard : Claim7 := { stood := { row := fnExactBanMemberUptoRow, standIns := [], harness := (true, "55409fff74c4fd57f0bab32e9803c571d198ddb2065f9d9b6a9b59218009035c"), looks := true }, kinds := [], alts := [], laidByText := true, laidKinds := [.sentinel, .sentinel], laidTests := true, laidLooks := .later }
def FnExactBanMemberUptoCardSaid : Prop := Claim7.holds Tryz.pinned (.plain (OpenSpec.upto fnExactBanMemberSpec)) fnExactBanMemberUptoCard

/-- THE SECOND FORM's CARD OF 'laws.FnExactLiftBan'. -/
def fnExactLiftBanUptoCard : Claim7 := { stood := { row := fnExactLiftBanUptoRow, standIns := [], harness := (true, "55409fff74c4fd57f0bab32e9803c571d198ddb2065f9d9b6a9b59218009035c"), looks := true }, kinds := [], alts := [], laidByText := true, laidKinds := [.sentinel, .sentinel], laidTests := true, laidLooks := .later }
def FnExactLiftBanUptoCardSaid : Prop := Claim7.holds Tryz.pinned (.plain (OpenSpec.upto fnExactLiftBanSpec)) fnExactLiftBanUptoCard

/-- THE SECOND FORM's CARD OF 'laws.FnExactSweepRoom'. -/
def fnExactSweepRoomUptoCard : Claim7 := { stood := { row := fnExactSweepRoomUptoRow, standIns := [], harness := (true, "55409fff74c4fd57f0bab32e9803c571d198ddb2065f9d9b6a9b59218009035c"), looks := true }, kinds := [], alts := [], laidByText := true, laidKinds := [.sentinel], laidTests := true, laidLooks := .later }
def FnExactSweepRoomUptoCardSaid : Prop := Claim7.holds Tryz.pinned (.plain (OpenSpec.upto fnExactSweepRoomSpec)) fnExactSweepRoomUptoCard

/-- THE SECOND FORM's CARD OF 'laws.FnJoined'. -/
def fnJoinedUptoCard : Claim7 := { stood := { row := fnJoinedUptoRow, standIns := [], harness := (true, "55409fff74c4fd57f0bab32e9803c571d198ddb2065f9d9b6a9b59218009035c"), looks := true }, kinds := [], alts := [], laidByText := true, laidKinds := [.sentinel, .sentinel], laidTests := true, laidLooks := .later }
def FnJoinedUptoCardSaid : Prop := Claim7.holds Tryz.pinned (.plain (OpenSpec.upto fnJoinedSpec)) fnJoinedUptoCard

/-- THE SECOND FORM's CARD OF 'laws.FnRanked'. -/
def fnRankedUptoCard : Claim7 := { stood := { row := fnRankedUptoRow, standIns := [], harness := (true, "55409fff74c4fd57f0bab32e9803c571d198ddb2065f9d9b6a9b59218009035c"), looks := true }, kinds := [], alts := [], laidByText := true, laidKinds := [.sentinel, .sentinel], laidTests := true, laidLooks := .later }
def FnRankedUptoCardSaid : Prop := Claim7.holds Tryz.pinned (.plain (OpenSpec.upto fnRankedSpec)) fnRankedUptoCard

/-- THE SECOND FORM's CARD OF 'laws.FnSwept'. -/
def fnSweptUptoCard : Claim7 := { stood := { row := fnSweptUptoRow, standIns := [], harness := (true, "55409fff74c4fd57f0bab32e9803c571d198ddb2065f9d9b6a9b59218009035c"), looks := true }, kinds := [], alts := [], laidByText := true, laidKinds := [.sentinel, .sentinel], laidTests := true, laidLooks := .later }
def FnSweptUptoCardSaid : Prop := Claim7.holds Tryz.pinned (.plain (OpenSpec.upto fnSweptSpec)) fnSweptUptoCard
end Rows
end Go.Proofs.YtbamhnbmddopgaaGreatDoor
