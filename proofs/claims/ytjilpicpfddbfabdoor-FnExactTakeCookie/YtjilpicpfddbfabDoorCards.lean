/-
  DERIVED. GIVEN WITH THE SEED: THE CARDS: each row of YtjilpicpfddbfabDoorRows.lean that lists a variable, with what it lists TIED to the program's text (the seventh form; the later family's looks); each row that meets fmt, with fmt's text TOLD by the authors' own Lean function (tested against real Go, not proved from fmt's source: count such statements apart). THE CARD IS WHAT COUNTS. Prove the row's statement (the work); the ties are given (YtjilpicpfddbfabDoorTie.lean); close each card by the builder's one call (the guide's Derived/Test/ToyasCard.lean, 'card_holds'). Laid BY PROGRAM, IN A SANDBOX (cutbox-door.mjs). By AI agents, Wed Nov 11 2026. No macro, syntax, notation, axiom, sorry.
-/
import Derived.Test.YtjilpicpfddbfabDoorRows
import GoSem.ClaimSeven
namespace Go.Proofs.YtjilpicpfddbfabDoor
namespace Rows

/-- THE TIED CARD OF 'laws.FnExactHearCookie'. -/
def fnExactHearCookieCard : Claim7 := { stood := { row := fnExactHearCookieRow, standIns := [], harness := (true, "79bf4c345fad9601765857beff960d1fd9262e9ff3a810e108338a46988e0724"), looks := true }, kinds := [], alts := [], laidByText := true, laidKinds := [.data], laidTests := true, laidLooks := .later }
def FnExactHearCookieCardSaid : Prop := Claim7.holds Tryd.pinned (.plain (OpenSpec.ofChange fnExactHearCookieSpec)) fnExactHearCookieCard

/-- THE TIED CARD OF 'laws.FnExactTakeCookie'. -/
def fnExactTakeCookieCard : Claim7 := { stood := { row := fnExactTakeCookieRow, standIns := [], harness := (true, "79bf4c345fad9601765857beff960d1fd9262e9ff3a810e108338a46988e0724"), looks := true }, kinds := [], alts := [], laidByText := true, laidKinds := [.handle], laidTests := true, laidLooks := .later }
def FnExactTakeCookieCardSaid : Prop := Claim7.holds Tryd.pinned (.plain (OpenSpec.ofChange fnExactTakeCookieSpec)) fnExactTakeCookieCard

/-- THE SECOND FORM's CARD OF 'laws.FnExactHearCookie'. -/
def fnExactHearCookieUptoCard : Claim7 := { stood := { row := fnExactHearCookieUptoRow, standIns := [], harness := (true, "79bf4c345fad9601765857beff960d1fd9262e9ff3a810e108338a46988e0724"), looks := true }, kinds := [], alts := [], laidByText := true, laidKinds := [.data], laidTests := true, laidLooks := .later }
def FnExactHearCookieUptoCardSaid : Prop := Claim7.holds Tryd.pinned (.plain (OpenSpec.upto fnExactHearCookieSpec)) fnExactHearCookieUptoCard

/-- THE SECOND FORM's CARD OF 'laws.FnExactTakeCookie'. -/
def fnExactTakeCookieUptoCard : Claim7 := { stood := { row := fnExactTakeCookieUptoRow, standIns := [], harness := (true, "79bf4c345fad9601765857beff960d1fd9262e9ff3a810e108338a46988e0724"), looks := true }, kinds := [], alts := [], laidByText := true, laidKinds := [.handle], laidTests := true, laidLooks := .later }
def FnExactTakeCookieUptoCardSaid : Prop := Claim7.holds Tryd.pinned (.plain (OpenSpec.upto fnExactTakeCookieSpec)) fnExactTakeCookieUptoCard
end Rows
end Go.Proofs.YtjilpicpfddbfabDoor
