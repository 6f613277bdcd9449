/-
  DERIVED. GIVEN WITH THE SEED: THE CARDS: each row of YtkdjmkdecddjjaaDoorRows.lean that lists a variable, with what it lists TIED to the program's text (the seventh form; the later family's looks); each row that meets fmt, with fmt's text TOLD by the authors' own Lean function (tested against real Go, not proved from fmt's source: count such statements apart). THE CARD IS WHAT COUNTS. Prove the row's statement (the work); the ties are given (YtkdjmkdecddjjaaDoorTie.lean); close each card by the builder's one call (the guide's Derived/Test/ToyasCard.lean, 'card_holds'). Laid BY PROGRAM, IN A SANDBOX (cutbox-door.mjs). By AI agents, Wed Nov 11 2026. No macro, syntax, notation, axiom, sorry.
-/
import Derived.Test.YtkdjmkdecddjjaaDoorRows
import GoSem.ClaimSeven
namespace Go.Proofs.YtkdjmkdecddjjaaDoor
namespace Rows

/-- THE TIED CARD OF 'laws.FnExactConnHear'. -/
def fnExactConnHearCard : Claim7 := { stood := { row := fnExactConnHearRow, standIns := [], harness := (true, "927c1078d35414642f1341a4755fc425ce6d53d06046a9a9e857e2ffb02cd471"), looks := true }, kinds := [], alts := [], laidByText := true, laidKinds := [.handle], laidTests := true, laidLooks := .later }
def FnExactConnHearCardSaid : Prop := Claim7.holds Tryd.pinned (.plain (OpenSpec.ofChange fnExactConnHearSpec)) fnExactConnHearCard

/-- THE SECOND FORM's CARD OF 'laws.FnExactConnHear'. -/
def fnExactConnHearUptoCard : Claim7 := { stood := { row := fnExactConnHearUptoRow, standIns := [], harness := (true, "927c1078d35414642f1341a4755fc425ce6d53d06046a9a9e857e2ffb02cd471"), looks := true }, kinds := [], alts := [], laidByText := true, laidKinds := [.handle], laidTests := true, laidLooks := .later }
def FnExactConnHearUptoCardSaid : Prop := Claim7.holds Tryd.pinned (.plain (OpenSpec.upto fnExactConnHearSpec)) fnExactConnHearUptoCard
end Rows
end Go.Proofs.YtkdjmkdecddjjaaDoor
