/-
  DERIVED. GIVEN WITH THE SEED: THE CARDS: each row of YtjilpicpfddbfaaDoorRows.lean that lists a variable, with what it lists TIED to the program's text (the seventh form; the later family's looks); each row that meets fmt, with fmt's text TOLD by the authors' own Lean function (tested against real Go, not proved from fmt's source: count such statements apart). THE CARD IS WHAT COUNTS. Prove the row's statement (the work); the ties are given (YtjilpicpfddbfaaDoorTie.lean); close each card by the builder's one call (the guide's Derived/Test/ToyasCard.lean, 'card_holds'). Laid BY PROGRAM, IN A SANDBOX (cutbox-door.mjs). By AI agents, Wed Nov 11 2026. No macro, syntax, notation, axiom, sorry.
-/
import Derived.Test.YtjilpicpfddbfaaDoorRows
import GoSem.ClaimSeven
namespace Go.Proofs.YtjilpicpfddbfaaDoor
namespace Rows

/-- THE TIED CARD OF 'laws.FnCookie'. -/
def fnCookieCard : Claim7 := { stood := { row := fnCookieRow, standIns := [], harness := (true, "152bb3d73c84dcb57b14ab063b590a6aacca74a618adc32a48454c58f97db9a9"), looks := false }, kinds := [], alts := [], laidByText := true, laidKinds := [.data], laidTests := true, laidLooks := .later }
def FnCookieCardSaid : Prop := Claim7.holds Tryd.pinned (.plain (OpenSpec.ofChange fnCookieSpec)) fnCookieCard

/-- THE TIED CARD OF 'laws.FnExactMssOf'. -/
def fnExactMssOfCard : Claim7 := { stood := { row := fnExactMssOfRow, standIns := [], harness := (true, "152bb3d73c84dcb57b14ab063b590a6aacca74a618adc32a48454c58f97db9a9"), looks := false }, kinds := [], alts := [], laidByText := true, laidKinds := [.data], laidTests := true, laidLooks := .later }
def FnExactMssOfCardSaid : Prop := Claim7.holds Tryd.pinned (.plain (OpenSpec.ofChange fnExactMssOfSpec)) fnExactMssOfCard

/-- THE TIED CARD OF 'laws.FnExactMssStep'. -/
def fnExactMssStepCard : Claim7 := { stood := { row := fnExactMssStepRow, standIns := [], harness := (true, "152bb3d73c84dcb57b14ab063b590a6aacca74a618adc32a48454c58f97db9a9"), looks := false }, kinds := [], alts := [], laidByText := true, laidKinds := [.data], laidTests := true, laidLooks := .later }
def FnExactMssStepCardSaid : Prop := Claim7.holds Tryd.pinned (.plain (OpenSpec.ofChange fnExactMssStepSpec)) fnExactMssStepCard

/-- THE SECOND FORM's CARD OF 'laws.FnCookie'. -/
def fnCookieUptoCard : Claim7 := { stood := { row := fnCookieUptoRow, standIns := [], harness := (true, "152bb3d73c84dcb57b14ab063b590a6aacca74a618adc32a48454c58f97db9a9"), looks := false }, kinds := [], alts := [], laidByText := true, laidKinds := [.data], laidTests := true, laidLooks := .later }
def FnCookieUptoCardSaid : Prop := Claim7.holds Tryd.pinned (.plain (OpenSpec.upto fnCookieSpec)) fnCookieUptoCard

/-- THE SECOND FORM's CARD OF 'laws.FnExactMssOf'. -/
def fnExactMssOfUptoCard : Claim7 := { stood := { row := fnExactMssOfUptoRow, standIns := [], harness := (true, "152bb3d73c84dcb57b14ab063b590a6aacca74a618adc32a48454c58f97db9a9"), looks := false }, kinds := [], alts := [], laidByText := true, laidKinds := [.data], laidTests := true, laidLooks := .later }
def FnExactMssOfUptoCardSaid : Prop := Claim7.holds Tryd.pinned (.plain (OpenSpec.upto fnExactMssOfSpec)) fnExactMssOfUptoCard

/-- THE SECOND FORM's CARD OF 'laws.FnExactMssStep'. -/
def fnExactMssStepUptoCard : Claim7 := { stood := { row := fnExactMssStepUptoRow, standIns := [], harness := (true, "152bb3d73c84dcb57b14ab063b590a6aacca74a618adc32a48454c58f97db9a9"), looks := false }, kinds := [], alts := [], laidByText := true, laidKinds := [.data], laidTests := true, laidLooks := .later }
def FnExactMssStepUptoCardSaid : Prop := Claim7.holds Tryd.pinned (.plain (OpenSpec.upto fnExactMssStepSpec)) fnExactMssStepUptoCard
end Rows
end Go.Proofs.YtjilpicpfddbfaaDoor
