/-
  DERIVED. GIVEN WITH THE SEED: THE CARDS: each row of YtmigalhmlofbkaaGreatDoorRows.lean that lists a variable, with what it lists TIED to the program's text (the seventh form; the later family's looks); each row that meets fmt, with fmt's text TOLD by the authors' own Lean function (tested against real Go, not proved from fmt's source: count such statements apart). THE CARD IS WHAT COUNTS. Prove the row's statement (the work); the ties are given (YtmigalhmlofbkaaGreatDoorTie.lean); close each card by the builder's one call (the guide's Derived/Test/ToyasCard.lean, 'card_holds'). Laid BY PROGRAM, IN A SANDBOX (cutbox-door.mjs). By AI agents, Wed Nov 11 2026. No macro, syntax, notation, axiom, sorry.
-/
import Derived.Test.YtmigalhmlofbkaaGreatDoorRows
import GoSem.ClaimSeven
namespace Go.Proofs.YtmigalhmlofbkaaGreatDoor
namespace Rows

/-- THE TIED CARD OF 'laws.FnUnkept'. -/
def fnUnkeptCard : Claim7 := { stood := { row := fnUnkeptRow, standIns := [], harness := (true, "b2b44375f021f07d46d0ba02412fe3470f7efbf7304e153df4d3ecbcb39561d5"), looks := true }, kinds := [], alts := [], laidByText := true, laidKinds := [.handle, .data], laidTests := true, laidLooks := .later }
def FnUnkeptCardSaid : Prop := Claim7.holds Tryz.pinned (.plain (OpenSpec.ofChange fnUnkeptSpec)) fnUnkeptCard

/-- THE SECOND FORM's CARD OF 'laws.FnUnkept'. -/
def fnUnkeptUptoCard : Claim7 := { stood := { row := fnUnkeptUptoRow, standIns := [], harness := (true, "b2b44375f021f07d46d0ba02412fe3470f7efbf7304e153df4d3ecbcb39561d5"), looks := true }, kinds := [], alts := [], laidByText := true, laidKinds := [.handle, .data], laidTests := true, laidLooks := .later }
def FnUnkeptUptoCardSaid : Prop := Claim7.holds Tryz.pinned (.plain (OpenSpec.upto fnUnkeptSpec)) fnUnkeptUptoCard
end Rows
end Go.Proofs.YtmigalhmlofbkaaGreatDoor
