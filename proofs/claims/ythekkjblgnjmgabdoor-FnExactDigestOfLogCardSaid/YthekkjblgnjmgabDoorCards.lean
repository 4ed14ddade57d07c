/-
  DERIVED. GIVEN WITH THE SEED: THE CARDS: each row of YthekkjblgnjmgabDoorRows.lean that lists a variable, with what it lists TIED to the program's text (the seventh form; the later family's looks); each row that meets fmt, with fmt's text TOLD by the authors' own Lean function (tested against real Go, not proved from fmt's source: count such statements apart). THE CARD IS WHAT COUNTS. Prove the row's statement (the work); the ties are given (YthekkjblgnjmgabDoorTie.lean); close each card by the builder's one call (the guide's Derived/Test/ToyasCard.lean, 'card_holds'). Laid BY PROGRAM, IN A SANDBOX (cutbox-door.mjs). By AI agents, Wed Nov 11 2026. No macro, syntax, notation, axiom, sorry.
-/
import Derived.Test.YthekkjblgnjmgabDoorRows
import GoSem.ClaimSeven
namespace Go.Proofs.YthekkjblgnjmgabDoor
namespace Rows

/-- THE TIED CARD OF 'laws.FnExactDigestOfLog'. -/
def fnExactDigestOfLogCard : Claim7 := { stood := { row := fnExactDigestOfLogRow, standIns := [], harness := (true, "ca1081b14ee5e73f9291dd63698740d93f4499540df58fcc65b5df40c0d87108"), looks := false }, kinds := [], alts := [], laidByText := true, laidKinds := [.data, .data, .data], laidTests := true, laidLooks := .later }
def FnExactDigestOfLogCardSaid : Prop := Claim7.holds Tryd.pinned (.plain (OpenSpec.ofChange fnExactDigestOfLogSpec)) fnExactDigestOfLogCard

/-- THE SECOND FORM's CARD OF 'laws.FnExactDigestOfLog'. -/
def fnExactDigestOfLogUptoCard : Claim7 := { stood := { row := fnExactDigestOfLogUptoRow, standIns := [], harness := (true, "ca1081b14ee5e73f9291dd63698740d93f4499540df58fcc65b5df40c0d87108"), looks := false }, kinds := [], alts := [], laidByText := true, laidKinds := [.data, .data, .data], laidTests := true, laidLooks := .later }
def FnExactDigestOfLogUptoCardSaid : Prop := Claim7.holds Tryd.pinned (.plain (OpenSpec.upto fnExactDigestOfLogSpec)) fnExactDigestOfLogUptoCard
end Rows
end Go.Proofs.YthekkjblgnjmgabDoor
