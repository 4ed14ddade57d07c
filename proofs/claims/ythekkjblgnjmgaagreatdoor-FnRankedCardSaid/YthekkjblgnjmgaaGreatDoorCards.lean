/-
  DERIVED. GIVEN WITH THE SEED: THE CARDS: each row of YthekkjblgnjmgaaGreatDoorRows.lean that lists a variable, with what it lists TIED to the program's text (the seventh form; the later family's looks); each row that meets fmt, with fmt's text TOLD by the authors' own Lean function (tested against real Go, not proved from fmt's source: count such statements apart). THE CARD IS WHAT COUNTS. Prove the row's statement (the work); the ties are given (YthekkjblgnjmgaaGreatDoorTie.lean); close each card by the builder's one call (the guide's Derived/Test/ToyasCard.lean, 'card_holds'). Laid BY PROGRAM, IN A SANDBOX (cutbox-door.mjs). By AI agents, Wed Nov 11 2026. No macro, syntax, notation, axiom, sorry.
-/
import Derived.Test.YthekkjblgnjmgaaGreatDoorRows
import GoSem.ClaimSeven
namespace Go.Proofs.YthekkjblgnjmgaaGreatDoor
namespace Rows

/-- THE TIED CARD OF 'laws.FnJoined'. -/
def fnJoinedCard : Claim7 := { stood := { row := fnJoinedRow, standIns := [], harness := (true, "d8859cd357d47b600fa14cb784625b0248bf2c2158569a251c3fa63713d7c4ea"), looks := true }, kinds := [], alts := [], laidByText := true, laidKinds := [.sentinel, .sentinel], laidTests := true, laidLooks := .later }
def FnJoinedCardSaid : Prop := Claim7.holds Tryz.pinned (.plain (OpenSpec.ofChange fnJoinedSpec)) fnJoinedCard

/-- THE TIED CARD OF 'laws.FnRanked'. -/
def fnRankedCard : Claim7 := { stood := { row := fnRankedRow, standIns := [], harness := (true, "d8859cd357d47b600fa14cb784625b0248bf2c2158569a251c3fa63713d7c4ea"), looks := true }, kinds := [], alts := [], laidByText := true, laidKinds := [.sentinel, .sentinel], laidTests := true, laidLooks := .later }
def FnRankedCardSaid : Prop := Claim7.holds Tryz.pinned (.plain (OpenSpec.ofChange fnRankedSpec)) fnRankedCard

/-- THE TIED CARD OF 'laws.FnSwept'. -/
def fnSweptCard : Claim7 := { stood := { row := fnSweptRow, standIns := [], harness := (true, "d8859cd357d47b600fa14cb784625b0248bf2c2158569a251c3fa63713d7c4ea"), looks := true }, kinds := [], alts := [], laidByText := true, laidKinds := [.sentinel, .sentinel], laidTests := true, laidLooks := .later }
def FnSweptCardSaid : Prop := Claim7.holds Tryz.pinned (.plain (OpenSpec.ofChange fnSweptSpec)) fnSweptCard

/-- THE TIED CARD OF 'laws.FnExactLeaveRoom'. -/
def fnExactLeaveRoomCard : Claim7 := { stood := { row := fnExactLeaveRoomRow, standIns := [], harness := (true, "d8859cd357d47b600fa14cb784625b0248bf2c2158569a251c3fa63713d7c4ea"), looks := true }, kinds := [], alts := [], laidByText := true, laidKinds := [.sentinel, .sentinel], laidTests := true, laidLooks := .later }
def FnExactLeaveRoomCardSaid : Prop := Claim7.holds Tryz.pinned (.plain (OpenSpec.ofChange fnExactLeaveRoomSpec)) fnExactLeaveRoomCard

/-- THE TIED CARD OF 'laws.FnExactMentionsIn'. -/
def fnExactMentionsInCard : Claim7 := { stood := { row := fnExactMentionsInRow, standIns := [], harness := (true, "d8859cd357d47b600fa14cb784625b0248bf2c2158569a251c3fa63713d7c4ea"), looks := true }, kinds := [], alts := [], laidByText := true, laidKinds := [.data, .data, .data, .data, .sentinel, .sentinel, .sentinel, .pinned], laidTests := true, laidLooks := .later }
def FnExactMentionsInCardSaid : Prop := Claim7.holds Tryz.pinned (.plain (OpenSpec.ofChange fnExactMentionsInSpec)) fnExactMentionsInCard

/-- THE SECOND FORM's CARD OF 'laws.FnJoined'. -/
def fnJoinedUptoCard : Claim7 := { stood := { row := fnJoinedUptoRow, standIns := [], harness := (true, "d8859cd357d47b600fa14cb784625b0248bf2c2158569a251c3fa63713d7c4ea"), looks := true }, kinds := [], alts := [], laidByText := true, laidKinds := [.sentinel, .sentinel], laidTests := true, laidLooks := .later }
def FnJoinedUptoCardSaid : Prop := Claim7.holds Tryz.pinned (.plain (OpenSpec.upto fnJoinedSpec)) fnJoinedUptoCard

/-- THE SECOND FORM's CARD OF 'laws.FnRanked'. -/
def fnRankedUptoCard : Claim7 := { stood := { row := fnRankedUptoRow, standIns := [], harness := (true, "d8859cd357d47b600fa14cb784625b0248bf2c2158569a251c3fa63713d7c4ea"), looks := true }, kinds := [], alts := [], laidByText := true, laidKinds := [.sentinel, .sentinel], laidTests := true, laidLooks := .later }
def FnRankedUptoCardSaid : Prop := Claim7.holds Tryz.pinned (.plain (OpenSpec.upto fnRankedSpec)) fnRankedUptoCard

/-- THE SECOND FORM's CARD OF 'laws.FnSwept'. -/
def fnSweptUptoCard : Claim7 := { stood := { row := fnSweptUptoRow, standIns := [], harness := (true, "d8859cd357d47b600fa14cb784625b0248bf2c2158569a251c3fa63713d7c4ea"), looks := true }, kinds := [], alts := [], laidByText := true, laidKinds := [.sentinel, .sentinel], laidTests := true, laidLooks := .later }
def FnSweptUptoCardSaid : Prop := Claim7.holds Tryz.pinned (.plain (OpenSpec.upto fnSweptSpec)) fnSweptUptoCard

/-- THE SECOND FORM's CARD OF 'laws.FnExactLeaveRoom'. -/
def fnExactLeaveRoomUptoCard : Claim7 := { stood := { row := fnExactLeaveRoomUptoRow, standIns := [], harness := (true, "d8859cd357d47b600fa14cb784625b0248bf2c2158569a251c3fa63713d7c4ea"), looks := true }, kinds := [], alts := [], laidByText := true, laidKinds := [.sentinel, .sentinel], laidTests := true, laidLooks := .later }
def FnExactLeaveRoomUptoCardSaid : Prop := Claim7.holds Tryz.pinned (.plain (OpenSpec.upto fnExactLeaveRoomSpec)) fnExactLeaveRoomUptoCard

/-- THE SECOND FORM's CARD OF 'laws.FnExactMentionsIn'. -/
def fnExactMentionsInUptoCard : Claim7 := { stood := { row := fnExactMentionsInUptoRow, standIns := [], harness := (true, "d8859cd357d47b600fa14cb784625b0248bf2c2158569a251c3fa63713d7c4ea"), looks := true }, kinds := [], alts := [], laidByText := true, laidKinds := [.data, .data, .data, .data, .sentinel, .sentinel, .sentinel, .pinned], laidTests := true, laidLooks := .later }
def FnExactMentionsInUptoCardSaid : Prop := Claim7.holds Tryz.pinned (.plain (OpenSpec.upto fnExactMentionsInSpec)) fnExactMentionsInUptoCard
end Rows
end Go.Proofs.YthekkjblgnjmgaaGreatDoor
