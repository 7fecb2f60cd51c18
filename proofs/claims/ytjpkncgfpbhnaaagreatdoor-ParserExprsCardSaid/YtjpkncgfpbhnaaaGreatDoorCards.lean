/-
  DERIVED. GIVEN WITH THE SEED: THE CARDS: each row of YtjpkncgfpbhnaaaGreatDoorRows.lean that lists a variable, with what it lists TIED to the program's text (the seventh form; the later family's looks); each row that meets fmt, with fmt's text TOLD by the authors' own Lean function (tested against real Go, not proved from fmt's source: count such statements apart). THE CARD IS WHAT COUNTS. Prove the row's statement (the work); the ties are given (YtjpkncgfpbhnaaaGreatDoorTie.lean); close each card by the builder's one call (the guide's Derived/Test/ToyasCard.lean, 'card_holds'). Laid BY PROGRAM, IN A SANDBOX (cutbox-door.mjs). By AI agents, Wed Nov 11 2026. No macro, syntax, notation, axiom, sorry.
-/
import Derived.Test.YtjpkncgfpbhnaaaGreatDoorRows
import GoSem.ClaimSeven
namespace Go.Proofs.YtjpkncgfpbhnaaaGreatDoor
namespace Rows

/-- THE TIED CARD OF 'geoproverlaw17.ParserPrograms'. -/
def parserProgramsCard : Claim7 := { stood := { row := parserProgramsRow, standIns := [], harness := (true, "529ace0d482e098aedf8e301c0a46fe3e098bd44c54ecd4432b50cf4c25de004"), looks := true }, kinds := [], alts := [], laidByText := true, laidKinds := [.data, .data, .data, .sentinel, .sentinel], laidTests := true, laidLooks := .later }
def ParserProgramsCardSaid : Prop := Claim7.holds Tryz.pinned (.plain (OpenSpec.ofChange parserProgramsSpec)) parserProgramsCard

/-- THE TIED CARD OF 'geoproverlaw17.ParserExprs'. -/
def parserExprsCard : Claim7 := { stood := { row := parserExprsRow, standIns := [], harness := (true, "529ace0d482e098aedf8e301c0a46fe3e098bd44c54ecd4432b50cf4c25de004"), looks := true }, kinds := [], alts := [], laidByText := true, laidKinds := [.data, .data, .data, .sentinel, .sentinel], laidTests := true, laidLooks := .later }
def ParserExprsCardSaid : Prop := Claim7.holds Tryz.pinned (.plain (OpenSpec.ofChange parserExprsSpec)) parserExprsCard

/-- THE TIED CARD OF 'geoproverlaw17.ParserRight'. -/
def parserRightCard : Claim7 := { stood := { row := parserRightRow, standIns := [], harness := (true, "529ace0d482e098aedf8e301c0a46fe3e098bd44c54ecd4432b50cf4c25de004"), looks := true }, kinds := [], alts := [], laidByText := true, laidKinds := [.data, .data, .data, .data, .sentinel, .sentinel, .pinned], laidTests := true, laidLooks := .later }
def ParserRightCardSaid : Prop := Claim7.holds Tryz.pinned (.plain (OpenSpec.ofChange parserRightSpec)) parserRightCard

/-- THE TIED CARD OF 'geoproverlaw17.ParserJoins'. -/
def parserJoinsCard : Claim7 := { stood := { row := parserJoinsRow, standIns := [], harness := (true, "529ace0d482e098aedf8e301c0a46fe3e098bd44c54ecd4432b50cf4c25de004"), looks := true }, kinds := [], alts := [], laidByText := true, laidKinds := [.data, .data, .data, .sentinel, .sentinel], laidTests := true, laidLooks := .later }
def ParserJoinsCardSaid : Prop := Claim7.holds Tryz.pinned (.plain (OpenSpec.ofChange parserJoinsSpec)) parserJoinsCard

/-- THE TIED CARD OF 'geoproverlaw17.ParserWithin'. -/
def parserWithinCard : Claim7 := { stood := { row := parserWithinRow, standIns := [], harness := (true, "529ace0d482e098aedf8e301c0a46fe3e098bd44c54ecd4432b50cf4c25de004"), looks := true }, kinds := [], alts := [], laidByText := true, laidKinds := [.data, .data, .data, .sentinel, .sentinel], laidTests := true, laidLooks := .later }
def ParserWithinCardSaid : Prop := Claim7.holds Tryz.pinned (.plain (OpenSpec.ofChange parserWithinSpec)) parserWithinCard

/-- THE TIED CARD OF 'geoproverlaw18.PrinterBack'. -/
def printerBackCard : Claim7 := { stood := { row := printerBackRow, standIns := [], harness := (true, "529ace0d482e098aedf8e301c0a46fe3e098bd44c54ecd4432b50cf4c25de004"), looks := true }, kinds := [], alts := [], laidByText := true, laidKinds := [.data, .data, .data, .sentinel, .sentinel], laidTests := true, laidLooks := .later }
def PrinterBackCardSaid : Prop := Claim7.holds Tryz.pinned (.plain (OpenSpec.ofChange printerBackSpec)) printerBackCard

/-- THE TIED CARD OF 'geoproverlaw18.PrinterExprBack'. -/
def printerExprBackCard : Claim7 := { stood := { row := printerExprBackRow, standIns := [], harness := (true, "529ace0d482e098aedf8e301c0a46fe3e098bd44c54ecd4432b50cf4c25de004"), looks := true }, kinds := [], alts := [], laidByText := true, laidKinds := [.data, .data, .data, .sentinel, .sentinel], laidTests := true, laidLooks := .later }
def PrinterExprBackCardSaid : Prop := Claim7.holds Tryz.pinned (.plain (OpenSpec.ofChange printerExprBackSpec)) printerExprBackCard

/-- THE TIED CARD OF 'geoproverlaw18.PrinterNormal'. -/
def printerNormalCard : Claim7 := { stood := { row := printerNormalRow, standIns := [], harness := (true, "529ace0d482e098aedf8e301c0a46fe3e098bd44c54ecd4432b50cf4c25de004"), looks := true }, kinds := [], alts := [], laidByText := true, laidKinds := [.data, .data, .data, .sentinel, .sentinel], laidTests := true, laidLooks := .later }
def PrinterNormalCardSaid : Prop := Claim7.holds Tryz.pinned (.plain (OpenSpec.ofChange printerNormalSpec)) printerNormalCard

/-- THE SECOND FORM's CARD OF 'geoproverlaw17.ParserPrograms'. -/
def parserProgramsUptoCard : Claim7 := { stood := { row := parserProgramsUptoRow, standIns := [], harness := (true, "529ace0d482e098aedf8e301c0a46fe3e098bd44c54ecd4432b50cf4c25de004"), looks := true }, kinds := [], alts := [], laidByText := true, laidKinds := [.data, .data, .data, .sentinel, .sentinel], laidTests := true, laidLooks := .later }
def ParserProgramsUptoCardSaid : Prop := Claim7.holds Tryz.pinned (.plain (OpenSpec.upto parserProgramsSpec)) parserProgramsUptoCard

/-- THE SECOND FORM's CARD OF 'geoproverlaw17.ParserExprs'. -/
def parserExprsUptoCard : Claim7 := { stood := { row := parserExprsUptoRow, standIns := [], harness := (true, "529ace0d482e098aedf8e301c0a46fe3e098bd44c54ecd4432b50cf4c25de004"), looks := true }, kinds := [], alts := [], laidByText := true, laidKinds := [.data, .data, .data, .sentinel, .sentinel], laidTests := true, laidLooks := .later }
def ParserExprsUptoCardSaid : Prop := Claim7.holds Tryz.pinned (.plain (OpenSpec.upto parserExprsSpec)) parserExprsUptoCard

/-- THE SECOND FORM's CARD OF 'geoproverlaw17.ParserRight'. -/
def parserRightUptoCard : Claim7 := { stood := { row := parserRightUptoRow, standIns := [], harness := (true, "529ace0d482e098aedf8e301c0a46fe3e098bd44c54ecd4432b50cf4c25de004"), looks := true }, kinds := [], alts := [], laidByText := true, laidKinds := [.data, .data, .data, .data, .sentinel, .sentinel, .pinned], laidTests := true, laidLooks := .later }
def ParserRightUptoCardSaid : Prop := Claim7.holds Tryz.pinned (.plain (OpenSpec.upto parserRightSpec)) parserRightUptoCard

/-- THE SECOND FORM's CARD OF 'geoproverlaw17.ParserJoins'. -/
def parserJoinsUptoCard : Claim7 := { stood := { row := parserJoinsUptoRow, standIns := [], harness := (true, "529ace0d482e098aedf8e301c0a46fe3e098bd44c54ecd4432b50cf4c25de004"), looks := true }, kinds := [], alts := [], laidByText := true, laidKinds := [.data, .data, .data, .sentinel, .sentinel], laidTests := true, laidLooks := .later }
def ParserJoinsUptoCardSaid : Prop := Claim7.holds Tryz.pinned (.plain (OpenSpec.upto parserJoinsSpec)) parserJoinsUptoCard

/-- THE SECOND FORM's CARD OF 'geoproverlaw17.ParserWithin'. -/
def parserWithinUptoCard : Claim7 := { stood := { row := parserWithinUptoRow, standIns := [], harness := (true, "529ace0d482e098aedf8e301c0a46fe3e098bd44c54ecd4432b50cf4c25de004"), looks := true }, kinds := [], alts := [], laidByText := true, laidKinds := [.data, .data, .data, .sentinel, .sentinel], laidTests := true, laidLooks := .later }
def ParserWithinUptoCardSaid : Prop := Claim7.holds Tryz.pinned (.plain (OpenSpec.upto parserWithinSpec)) parserWithinUptoCard

/-- THE SECOND FORM's CARD OF 'geoproverlaw18.PrinterBack'. -/
def printerBackUptoCard : Claim7 := { stood := { row := printerBackUptoRow, standIns := [], harness := (true, "529ace0d482e098aedf8e301c0a46fe3e098bd44c54ecd4432b50cf4c25de004"), looks := true }, kinds := [], alts := [], laidByText := true, laidKinds := [.data, .data, .data, .sentinel, .sentinel], laidTests := true, laidLooks := .later }
def PrinterBackUptoCardSaid : Prop := Claim7.holds Tryz.pinned (.plain (OpenSpec.upto printerBackSpec)) printerBackUptoCard

/-- THE SECOND FORM's CARD OF 'geoproverlaw18.PrinterExprBack'. -/
def printerExprBackUptoCard : Claim7 := { stood := { row := printerExprBackUptoRow, standIns := [], harness := (true, "529ace0d482e098aedf8e301c0a46fe3e098bd44c54ecd4432b50cf4c25de004"), looks := true }, kinds := [], alts := [], laidByText := true, laidKinds := [.data, .data, .data, .sentinel, .sentinel], laidTests := true, laidLooks := .later }
def PrinterExprBackUptoCardSaid : Prop := Claim7.holds Tryz.pinned (.plain (OpenSpec.upto printerExprBackSpec)) printerExprBackUptoCard

/-- THE SECOND FORM's CARD OF 'geoproverlaw18.PrinterNormal'. -/
def printerNormalUptoCard : Claim7 := { stood := { row := printerNormalUptoRow, standIns := [], harness := (true, "529ace0d482e098aedf8e301c0a46fe3e098bd44c54ecd4432b50cf4c25de004"), looks := true }, kinds := [], alts := [], laidByText := true, laidKinds := [.data, .data, .data, .sentinel, .sentinel], laidTests := true, laidLooks := .later }
def PrinterNormalUptoCardSaid : Prop := Claim7.holds Tryz.pinned (.plain (OpenSpec.upto printerNormalSpec)) printerNormalUptoCard
end Rows
end Go.Proofs.YtjpkncgfpbhnaaaGreatDoor
