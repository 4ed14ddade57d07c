/-
  DERIVED. GIVEN WITH THE SEED: THE CARDS: each row of YtmnmmjobplbflaaGreatDoorRows.lean that lists a variable, with what it lists TIED to the program's text (the seventh form; the later family's looks); each row that meets fmt, with fmt's text TOLD by the authors' own Lean function (tested against real Go, not proved from fmt's source: count such statements apart). THE CARD IS WHAT COUNTS. Prove the row's statement (the work); the ties are given (YtmnmmjobplbflaaGreatDoorTie.lean); close each card by the builder's one call (the guide's Derived/Test/ToyasCard.lean, 'card_holds'). Laid BY PROGRAM, IN A SANDBOX (cutbox-door.mjs). By AI agents, Wed Nov 11 2026. No macro, syntax, notation, axiom, sorry.
-/
import Derived.Test.YtmnmmjobplbflaaGreatDoorRows
import GoSem.ClaimSeven
namespace Go.Proofs.YtmnmmjobplbflaaGreatDoor
namespace Rows

/-- THE TIED CARD OF 'laws.FnJoined'. -/
def fnJoinedCard : Claim7 := { stood := { row := fnJoinedRow, standIns := [], harness := (true, "2c1b57a2ec73b3a604df4c99af4d85505dfc2ee99641f8a3e2566d66533035c9"), looks := true }, kinds := [], alts := [], laidByText := true, laidKinds := [.sentinel, .sentinel], laidTests := true, laidLooks := .later }
def FnJoinedCardSaid : Prop := Claim7.holds Tryz.pinned (.plain (OpenSpec.ofChange fnJoinedSpec)) fnJoinedCard

/-- THE TIED CARD OF 'laws.FnSwept'. -/
def fnSweptCard : Claim7 := { stood := { row := fnSweptRow, standIns := [], harness := (true, "2c1b57a2ec73b3a604df4c99af4d85505dfc2ee99641f8a3e2566d66533035c9"), looks := true }, kinds := [], alts := [], laidByText := true, laidKinds := [.sentinel, .sentinel], laidTests := true, laidLooks := .later }
def FnSweptCardSaid : Prop := Claim7.holds Tryz.pinned (.plain (OpenSpec.ofChange fnSweptSpec)) fnSweptCard

/-- THE TIED CARD OF 'laws.FnExactLeaveRoom'. -/
def fnExactLeaveRoomCard : Claim7 := { stood := { row := fnExactLeaveRoomRow, standIns := [], harness := (true, "2c1b57a2ec73b3a604df4c99af4d85505dfc2ee99641f8a3e2566d66533035c9"), looks := true }, kinds := [], alts := [], laidByText := true, laidKinds := [.sentinel, .sentinel], laidTests := true, laidLooks := .later }
def FnExactLeaveRoomCardSaid : Prop := Claim7.holds Tryz.pinned (.plain (OpenSpec.ofChange fnExactLeaveRoomSpec)) fnExactLeaveRoomCard

/-- THE SECOND FORM's CARD OF 'laws.FnJoined'. -/
def fnJoinedUptoCard : Claim7 := { stood := { row := fnJoinedUptoRow, standIns := [], harness := (true, "2c1b57a2ec73b3a604df4c99af4d85505dfc2ee99641f8a3e2566d66533035c9"), looks := true }, kinds := [], alts := [], laidByText := true, laidKinds := [.sentinel, .sentinel], laidTests := true, laidLooks := .later }
def FnJoinedUptoCardSaid : Prop := Claim7.holds Tryz.pinned (.plain (OpenSpec.upto fnJoinedSpec)) fnJoinedUptoCard

/-- THE SECOND FORM's CARD OF 'laws.FnSwept'. -/
def fnSweptUptoCard : Claim7 := { stood := { row := fnSweptUptoRow, standIns := [], harness := (true, "2c1b57a2ec73b3a604df4c99af4d85505dfc2ee99641f8a3e2566d66533035c9"), looks := true }, kinds := [], alts := [], laidByText := true, laidKinds := [.sentinel, .sentinel], laidTests := true, laidLooks := .later }
def FnSweptUptoCardSaid : Prop := Claim7.holds Tryz.pinned (.plain (OpenSpec.upto fnSweptSpec)) fnSweptUptoCard

/-- THE SECOND FORM's CARD OF 'laws.FnExactLeaveRoom'. -/
def fnExactLeaveRoomUptoCard : Claim7 := { stood := { row := fnExactLeaveRoomUptoRow, standIns := [], harness := (true, "2c1b57a2ec73b3a604df4c99af4d85505dfc2ee99641f8a3e2566d66533035c9"), looks := true }, kinds := [], alts := [], laidByText := true, laidKinds := [.sentinel, .sentinel], laidTests := true, laidLooks := .later }
def FnExactLeaveRoomUptoCardSaid : Prop := Claim7.holds Tryz.pinned (.plain (OpenSpec.upto fnExactLeaveRoomSpec)) fnExactLeaveRoomUptoCard
end Rows
end Go.Proofs.YtmnmmjobplbflaaGreatDoor
