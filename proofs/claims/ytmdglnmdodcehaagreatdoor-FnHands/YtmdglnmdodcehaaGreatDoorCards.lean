/-
  DERIVED. GIVEN WITH THE SEED: THE CARDS: each row of YtmdglnmdodcehaaGreatDoorRows.lean that lists a variable, with what it lists TIED to the program's text (the seventh form; the later family's looks); each row that meets fmt, with fmt's text TOLD by the authors' own Lean function (tested against real Go, not proved from fmt's source: count such statements apart). THE CARD IS WHAT COUNTS. Prove the row's statement (the work); the ties are given (YtmdglnmdodcehaaGreatDoorTie.lean); close each card by the builder's one call (the guide's Derived/Test/ToyasCard.lean, 'card_holds'). Laid BY PROGRAM, IN A SANDBOX (cutbox-door.mjs). By AI agents, Wed Nov 11 2026. No macro, syntax, notation, axiom, sorry.
-/
import Derived.Test.YtmdglnmdodcehaaGreatDoorRows
import GoSem.ClaimSeven
namespace Go.Proofs.YtmdglnmdodcehaaGreatDoor
namespace Rows

/-- THE TIED CARD OF 'laws.FnHands'. -/
def fnHandsCard : Claim7 := { stood := { row := fnHandsRow, standIns := [], harness := (true, "852e33e17fe69af071251f0471be0c090e71e6ec35788a0048e6b384fe12c52e"), looks := true }, kinds := [], alts := [], laidByText := true, laidKinds := [.handle], laidTests := true, laidLooks := .later }
def FnHandsCardSaid : Prop := Claim7.holds Tryz.pinned (.plain (OpenSpec.ofChange fnHandsSpec)) fnHandsCard

/-- THE TIED CARD OF 'laws.FnUnkept'. -/
def fnUnkeptCard : Claim7 := { stood := { row := fnUnkeptRow, standIns := [], harness := (true, "852e33e17fe69af071251f0471be0c090e71e6ec35788a0048e6b384fe12c52e"), looks := true }, kinds := [], alts := [], laidByText := true, laidKinds := [.handle, .data], laidTests := true, laidLooks := .later }
def FnUnkeptCardSaid : Prop := Claim7.holds Tryz.pinned (.plain (OpenSpec.ofChange fnUnkeptSpec)) fnUnkeptCard

/-- THE SECOND FORM's CARD OF 'laws.FnHands'. -/
def fnHandsUptoCard : Claim7 := { stood := { row := fnHandsUptoRow, standIns := [], harness := (true, "852e33e17fe69af071251f0471be0c090e71e6ec35788a0048e6b384fe12c52e"), looks := true }, kinds := [], alts := [], laidByText := true, laidKinds := [.handle], laidTests := true, laidLooks := .later }
def FnHandsUptoCardSaid : Prop := Claim7.holds Tryz.pinned (.plain (OpenSpec.upto fnHandsSpec)) fnHandsUptoCard

/-- THE SECOND FORM's CARD OF 'laws.FnUnkept'. -/
def fnUnkeptUptoCard : Claim7 := { stood := { row := fnUnkeptUptoRow, standIns := [], harness := (true, "852e33e17fe69af071251f0471be0c090e71e6ec35788a0048e6b384fe12c52e"), looks := true }, kinds := [], alts := [], laidByText := true, laidKinds := [.handle, .data], laidTests := true, laidLooks := .later }
def FnUnkeptUptoCardSaid : Prop := Claim7.holds Tryz.pinned (.plain (OpenSpec.upto fnUnkeptSpec)) fnUnkeptUptoCard
end Rows
end Go.Proofs.YtmdglnmdodcehaaGreatDoor
