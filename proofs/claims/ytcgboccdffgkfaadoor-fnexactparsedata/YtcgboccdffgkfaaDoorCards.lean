/-
  DERIVED. GIVEN WITH THE SEED: THE CARDS: each row of YtcgboccdffgkfaaDoorRows.lean that lists a variable, with what it lists TIED to the program's text (the seventh form; the later family's looks); each row that meets fmt, with fmt's text TOLD by the authors' own Lean function (tested against real Go, not proved from fmt's source: count such statements apart). THE CARD IS WHAT COUNTS. Prove the row's statement (the work); the ties are given (YtcgboccdffgkfaaDoorTie.lean); close each card by the builder's one call (the guide's Derived/Test/ToyasCard.lean, 'card_holds'). Laid BY PROGRAM, IN A SANDBOX (cutbox-door.mjs). By AI agents, Wed Nov 11 2026. No macro, syntax, notation, axiom, sorry.
-/
import Derived.Test.YtcgboccdffgkfaaDoorRows
import GoSem.ClaimSeven
namespace Go.Proofs.YtcgboccdffgkfaaDoor
namespace Rows

/-- THE TIED CARD OF 'laws.FnExactParseData'. -/
def fnExactParseDataCard : Claim7 := { stood := { row := fnExactParseDataRow, standIns := [], harness := (true, "d657a90f3a2d399c094862ca795d0e7aa954e8ef00b3f64f7fc52aa32c210f0b"), looks := false }, kinds := [], alts := [], laidByText := true, laidKinds := [.data, .pinned], laidTests := true, laidLooks := .later }
def FnExactParseDataCardSaid : Prop := Claim7.holds Tryd.pinned (.plain (OpenSpec.ofChange fnExactParseDataSpec)) fnExactParseDataCard

/-- THE TIED CARD OF 'laws.FnExactPrintData'. -/
def fnExactPrintDataCard : Claim7 := { stood := { row := fnExactPrintDataRow, standIns := [], harness := (true, "d657a90f3a2d399c094862ca795d0e7aa954e8ef00b3f64f7fc52aa32c210f0b"), looks := false }, kinds := [], alts := [], laidByText := true, laidKinds := [.data, .data, .data], laidTests := true, laidLooks := .later }
def FnExactPrintDataCardSaid : Prop := Claim7.holds Tryd.pinned (.plain (OpenSpec.ofChange fnExactPrintDataSpec)) fnExactPrintDataCard

/-- THE SECOND FORM's CARD OF 'laws.FnExactParseData'. -/
def fnExactParseDataUptoCard : Claim7 := { stood := { row := fnExactParseDataUptoRow, standIns := [], harness := (true, "d657a90f3a2d399c094862ca795d0e7aa954e8ef00b3f64f7fc52aa32c210f0b"), looks := false }, kinds := [], alts := [], laidByText := true, laidKinds := [.data, .pinned], laidTests := true, laidLooks := .later }
def FnExactParseDataUptoCardSaid : Prop := Claim7.holds Tryd.pinned (.plain (OpenSpec.upto fnExactParseDataSpec)) fnExactParseDataUptoCard

/-- THE SECOND FORM's CARD OF 'laws.FnExactPrintData'. -/
def fnExactPrintDataUptoCard : Claim7 := { stood := { row := fnExactPrintDataUptoRow, standIns := [], harness := (true, "d657a90f3a2d399c094862ca795d0e7aa954e8ef00b3f64f7fc52aa32c210f0b"), looks := false }, kinds := [], alts := [], laidByText := true, laidKinds := [.data, .data, .data], laidTests := true, laidLooks := .later }
def FnExactPrintDataUptoCardSaid : Prop := Claim7.holds Tryd.pinned (.plain (OpenSpec.upto fnExactPrintDataSpec)) fnExactPrintDataUptoCard
end Rows
end Go.Proofs.YtcgboccdffgkfaaDoor
