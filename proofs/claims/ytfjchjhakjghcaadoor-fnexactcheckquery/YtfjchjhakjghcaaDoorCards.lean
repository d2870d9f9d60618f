/-
  DERIVED. GIVEN WITH THE SEED: THE CARDS: each row of YtfjchjhakjghcaaDoorRows.lean that lists a variable, with what it lists TIED to the program's text (the seventh form; the later family's looks); each row that meets fmt, with fmt's text TOLD by the authors' own Lean function (tested against real Go, not proved from fmt's source: count such statements apart). THE CARD IS WHAT COUNTS. Prove the row's statement (the work); the ties are given (YtfjchjhakjghcaaDoorTie.lean); close each card by the builder's one call (the guide's Derived/Test/ToyasCard.lean, 'card_holds'). Laid BY PROGRAM, IN A SANDBOX (cutbox-door.mjs). By AI agents, Wed Nov 11 2026. No macro, syntax, notation, axiom, sorry.
-/
import Derived.Test.YtfjchjhakjghcaaDoorRows
import GoSem.ClaimSeven
namespace Go.Proofs.YtfjchjhakjghcaaDoor
namespace Rows

/-- THE TIED CARD OF 'laws.FnExactPrintData'. -/
def fnExactPrintDataCard : Claim7 := { stood := { row := fnExactPrintDataRow, standIns := [], harness := (true, "96ac3a26dda857af47ee18ae46136778fe70b9207bfd9d2d1fe884bb94c3f925"), looks := true }, kinds := [], alts := [], laidByText := true, laidKinds := [.data, .data, .data], laidTests := true, laidLooks := .later }
def FnExactPrintDataCardSaid : Prop := Claim7.holds Tryd.pinned (.plain (OpenSpec.ofChange fnExactPrintDataSpec)) fnExactPrintDataCard

/-- THE TIED CARD OF 'laws.FnExactPrintQuery'. -/
def fnExactPrintQueryCard : Claim7 := { stood := { row := fnExactPrintQueryRow, standIns := [], harness := (true, "96ac3a26dda857af47ee18ae46136778fe70b9207bfd9d2d1fe884bb94c3f925"), looks := true }, kinds := [], alts := [], laidByText := true, laidKinds := [.data, .data, .data, .data], laidTests := true, laidLooks := .later }
def FnExactPrintQueryCardSaid : Prop := Claim7.holds Tryd.pinned (.plain (OpenSpec.ofChange fnExactPrintQuerySpec)) fnExactPrintQueryCard

/-- THE TIED CARD OF 'laws.FnExactCheckQuery'. -/
def fnExactCheckQueryCard : Claim7 := { stood := { row := fnExactCheckQueryRow, standIns := [], harness := (true, "96ac3a26dda857af47ee18ae46136778fe70b9207bfd9d2d1fe884bb94c3f925"), looks := true }, kinds := [], alts := [], laidByText := true, laidKinds := [.handle], laidTests := true, laidLooks := .later }
def FnExactCheckQueryCardSaid : Prop := Claim7.holds Tryd.pinned (.plain (OpenSpec.ofChange fnExactCheckQuerySpec)) fnExactCheckQueryCard

/-- THE SECOND FORM's CARD OF 'laws.FnExactPrintData'. -/
def fnExactPrintDataUptoCard : Claim7 := { stood := { row := fnExactPrintDataUptoRow, standIns := [], harness := (true, "96ac3a26dda857af47ee18ae46136778fe70b9207bfd9d2d1fe884bb94c3f925"), looks := true }, kinds := [], alts := [], laidByText := true, laidKinds := [.data, .data, .data], laidTests := true, laidLooks := .later }
def FnExactPrintDataUptoCardSaid : Prop := Claim7.holds Tryd.pinned (.plain (OpenSpec.upto fnExactPrintDataSpec)) fnExactPrintDataUptoCard

/-- THE SECOND FORM's CARD OF 'laws.FnExactPrintQuery'. -/
def fnExactPrintQueryUptoCard : Claim7 := { stood := { row := fnExactPrintQueryUptoRow, standIns := [], harness := (true, "96ac3a26dda857af47ee18ae46136778fe70b9207bfd9d2d1fe884bb94c3f925"), looks := true }, kinds := [], alts := [], laidByText := true, laidKinds := [.data, .data, .data, .data], laidTests := true, laidLooks := .later }
def FnExactPrintQueryUptoCardSaid : Prop := Claim7.holds Tryd.pinned (.plain (OpenSpec.upto fnExactPrintQuerySpec)) fnExactPrintQueryUptoCard

/-- THE SECOND FORM's CARD OF 'laws.FnExactCheckQuery'. -/
def fnExactCheckQueryUptoCard : Claim7 := { stood := { row := fnExactCheckQueryUptoRow, standIns := [], harness := (true, "96ac3a26dda857af47ee18ae46136778fe70b9207bfd9d2d1fe884bb94c3f925"), looks := true }, kinds := [], alts := [], laidByText := true, laidKinds := [.handle], laidTests := true, laidLooks := .later }
def FnExactCheckQueryUptoCardSaid : Prop := Claim7.holds Tryd.pinned (.plain (OpenSpec.upto fnExactCheckQuerySpec)) fnExactCheckQueryUptoCard
end Rows
end Go.Proofs.YtfjchjhakjghcaaDoor
