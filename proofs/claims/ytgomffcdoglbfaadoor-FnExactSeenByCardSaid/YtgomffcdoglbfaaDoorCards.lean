/-
  DERIVED. GIVEN WITH THE SEED: THE CARDS: each row of YtgomffcdoglbfaaDoorRows.lean that lists a variable, with what it lists TIED to the program's text (the seventh form; the later family's looks); each row that meets fmt, with fmt's text TOLD by the authors' own Lean function (tested against real Go, not proved from fmt's source: count such statements apart). THE CARD IS WHAT COUNTS. Prove the row's statement (the work); the ties are given (YtgomffcdoglbfaaDoorTie.lean); close each card by the builder's one call (the guide's Derived/Test/ToyasCard.lean, 'card_holds'). Laid BY PROGRAM, IN A SANDBOX (cutbox-door.mjs). By AI agents, Wed Nov 11 2026. No macro, syntax, notation, axiom, sorry.
-/
import Derived.Test.YtgomffcdoglbfaaDoorRows
import GoSem.ClaimSeven
namespace Go.Proofs.YtgomffcdoglbfaaDoor
namespace Rows

/-- THE TIED CARD OF 'laws.FnExactSeenBy'. -/
def fnExactSeenByCard : Claim7 := { stood := { row := fnExactSeenByRow, standIns := [], harness := (true, "26ac38ebcfa5df63325d652ad53c9b09a33c87549af0baca61441990f92d4cdf"), looks := false }, kinds := [], alts := [], laidByText := true, laidKinds := [.sentinel], laidTests := true, laidLooks := .later }
def FnExactSeenByCardSaid : Prop := Claim7.holds Tryd.pinned (.plain (OpenSpec.ofChange fnExactSeenBySpec)) fnExactSeenByCard

/-- THE SECOND FORM's CARD OF 'laws.FnExactSeenBy'. -/
def fnExactSeenByUptoCard : Claim7 := { stood := { row := fnExactSeenByUptoRow, standIns := [], harness := (true, "26ac38ebcfa5df63325d652ad53c9b09a33c87549af0baca61441990f92d4cdf"), looks := false }, kinds := [], alts := [], laidByText := true, laidKinds := [.sentinel], laidTests := true, laidLooks := .later }
def FnExactSeenByUptoCardSaid : Prop := Claim7.holds Tryd.pinned (.plain (OpenSpec.upto fnExactSeenBySpec)) fnExactSeenByUptoCard
end Rows
end Go.Proofs.YtgomffcdoglbfaaDoor
