/-
  DERIVED. GIVEN WITH THE SEED: THE CARDS: each row of YtfohognpcipmaaaDoorRows.lean that lists a variable, with what it lists TIED to the program's text (the seventh form; the later family's looks); each row that meets fmt, with fmt's text TOLD by the authors' own Lean function (tested against real Go, not proved from fmt's source: count such statements apart). THE CARD IS WHAT COUNTS. Prove the row's statement (the work); the ties are given (YtfohognpcipmaaaDoorTie.lean); close each card by the builder's one call (the guide's Derived/Test/ToyasCard.lean, 'card_holds'). Laid BY PROGRAM, IN A SANDBOX (cutbox-door.mjs). By AI agents, Wed Nov 11 2026. No macro, syntax, notation, axiom, sorry.
-/
import Derived.Test.YtfohognpcipmaaaDoorRows
import GoSem.ClaimSeven
namespace Go.Proofs.YtfohognpcipmaaaDoor
namespace Rows

/-- THE TIED CARD OF 'laws.FnSegment'. -/
def fnSegmentCard : Claim7 := { stood := { row := fnSegmentRow, standIns := [], harness := (true, "7d69ce8c4378de1c60227366117acb9458ff694f17e0905093445ef62bf1e1a9"), looks := false }, kinds := [], alts := [], laidByText := true, laidKinds := [.data, .data, .data, .data], laidTests := true, laidLooks := .later }
def FnSegmentCardSaid : Prop := Claim7.holds Tryd.pinned (.plain (OpenSpec.ofChange fnSegmentSpec)) fnSegmentCard

/-- THE SECOND FORM's CARD OF 'laws.FnSegment'. -/
def fnSegmentUptoCard : Claim7 := { stood := { row := fnSegmentUptoRow, standIns := [], harness := (true, "7d69ce8c4378de1c60227366117acb9458ff694f17e0905093445ef62bf1e1a9"), looks := false }, kinds := [], alts := [], laidByText := true, laidKinds := [.data, .data, .data, .data], laidTests := true, laidLooks := .later }
def FnSegmentUptoCardSaid : Prop := Claim7.holds Tryd.pinned (.plain (OpenSpec.upto fnSegmentSpec)) fnSegmentUptoCard
end Rows
end Go.Proofs.YtfohognpcipmaaaDoor
