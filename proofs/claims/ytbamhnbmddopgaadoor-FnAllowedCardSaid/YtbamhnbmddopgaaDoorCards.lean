/-
  DERIVED. GIVEN WITH THE SEED: THE CARDS: each row of YtbamhnbmddopgaaDoorRows.lean that lists a variable, with what it lists TIED to the program's text (the seventh form; the later family's looks); each row that meets fmt, with fmt's text TOLD by the authors' own Lean function (tested against real Go, not proved from fmt's source: count such statements apart). THE CARD IS WHAT COUNTS. Prove the row's statement (the work); the ties are given (YtbamhnbmddopgaaDoorTie.lean); close each card by the builder's one call (the guide's Derived/Test/ToyasCard.lean, 'card_holds'). Laid BY PROGRAM, IN A SANDBOX (cutbox-door.mjs). By AI agents, Wed Nov 11 2026. No macro, syntax, notation, axiom, sorry.
-/
import Derived.Test.YtbamhnbmddopgaaDoorRows
import GoSem.ClaimSeven
namespace Go.Proofs.YtbamhnbmddopgaaDoor
namespace Rows

/-- THE TIED CARD OF 'laws.FnExactMentionsOf'. -/
def fnExactMentionsOfCard : Claim7 := { stood := { row := fnExactMentionsOfRow, standIns := [], harness := (true, "0e28fc57a9172178064afa6ab5febb8cf5af7f750a233908ee9d9faf6613cc30"), looks := true }, kinds := [], alts := [], laidByText := true, laidKinds := [.data, .data, .data, .data, .sentinel, .sentinel, .pinned], laidTests := true, laidLooks := .later }
def FnExactMentionsOfCardSaid : Prop := Claim7.holds Tryd.pinned (.plain (OpenSpec.ofChange fnExactMentionsOfSpec)) fnExactMentionsOfCard

/-- THE TIED CARD OF 'laws.FnAllowed'. -/
def fnAllowedCard : Claim7 := { stood := { row := fnAllowedRow, standIns := [], harness := (true, "0e28fc57a9172178064afa6ab5febb8cf5af7f750a233908ee9d9faf6613cc30"), looks := true }, kinds := [], alts := [], laidByText := true, laidKinds := [.sentinel], laidTests := true, laidLooks := .later }
def FnAllowedCardSaid : Prop := Claim7.holds Tryd.pinned (.plain (OpenSpec.ofChange fnAllowedSpec)) fnAllowedCard

/-- THE SECOND FORM's CARD OF 'laws.FnExactMentionsOf'. -/
def fnExactMentionsOfUptoCard : Claim7 := { stood := { row := fnExactMentionsOfUptoRow, standIns := [], harness := (true, "0e28fc57a9172178064afa6ab5febb8cf5af7f750a233908ee9d9faf6613cc30"), looks := true }, kinds := [], alts := [], laidByText := true, laidKinds := [.data, .data, .data, .data, .sentinel, .sentinel, .pinned], laidTests := true, laidLooks := .later }
def FnExactMentionsOfUptoCardSaid : Prop := Claim7.holds Tryd.pinned (.plain (OpenSpec.upto fnExactMentionsOfSpec)) fnExactMentionsOfUptoCard

/-- THE SECOND FORM's CARD OF 'laws.FnAllowed'. -/
def fnAllowedUptoCard : Claim7 := { stood := { row := fnAllowedUptoRow, standIns := [], harness := (true, "0e28fc57a9172178064afa6ab5febb8cf5af7f750a233908ee9d9faf6613cc30"), looks := true }, kinds := [], alts := [], laidByText := true, laidKinds := [.sentinel], laidTests := true, laidLooks := .later }
def FnAllowedUptoCardSaid : Prop := Claim7.holds Tryd.pinned (.plain (OpenSpec.upto fnAllowedSpec)) fnAllowedUptoCard
end Rows
end Go.Proofs.YtbamhnbmddopgaaDoor
