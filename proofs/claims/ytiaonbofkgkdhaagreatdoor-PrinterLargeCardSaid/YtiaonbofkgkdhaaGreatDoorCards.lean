/-
  DERIVED. GIVEN WITH THE SEED: THE CARDS: each row of YtiaonbofkgkdhaaGreatDoorRows.lean that lists a variable, with what it lists TIED to the program's text (the seventh form; the later family's looks); each row that meets fmt, with fmt's text TOLD by the authors' own Lean function (tested against real Go, not proved from fmt's source: count such statements apart). THE CARD IS WHAT COUNTS. Prove the row's statement (the work); the ties are given (YtiaonbofkgkdhaaGreatDoorTie.lean); close each card by the builder's one call (the guide's Derived/Test/ToyasCard.lean, 'card_holds'). Laid BY PROGRAM, IN A SANDBOX (cutbox-door.mjs). By AI agents, Wed Nov 11 2026. No macro, syntax, notation, axiom, sorry.
-/
import Derived.Test.YtiaonbofkgkdhaaGreatDoorRows
import GoSem.ClaimSeven
namespace Go.Proofs.YtiaonbofkgkdhaaGreatDoor
namespace Rows

/-- THE TIED CARD OF 'geoproverlaw14.PredicateTexts'. -/
def predicateTextsCard : Claim7 := { stood := { row := predicateTextsRow, standIns := [], harness := (true, "1989977af8fa716c69e143fe6367492e06574091eb52548073075fc1e60ed6f4"), looks := false }, kinds := [], alts := [], laidByText := true, laidKinds := [.data, .data, .data], laidTests := true, laidLooks := .later }
def PredicateTextsCardSaid : Prop := Claim7.holds Tryz.pinned (.plain (OpenSpec.ofChange predicateTextsSpec)) predicateTextsCard

/-- THE TIED CARD OF 'geoproverlaw18.PrinterPrograms'. -/
def printerProgramsCard : Claim7 := { stood := { row := printerProgramsRow, standIns := [], harness := (true, "1989977af8fa716c69e143fe6367492e06574091eb52548073075fc1e60ed6f4"), looks := false }, kinds := [], alts := [], laidByText := true, laidKinds := [.data, .data, .data], laidTests := true, laidLooks := .later }
def PrinterProgramsCardSaid : Prop := Claim7.holds Tryz.pinned (.plain (OpenSpec.ofChange printerProgramsSpec)) printerProgramsCard

/-- THE TIED CARD OF 'geoproverlaw18.PrinterExprs'. -/
def printerExprsCard : Claim7 := { stood := { row := printerExprsRow, standIns := [], harness := (true, "1989977af8fa716c69e143fe6367492e06574091eb52548073075fc1e60ed6f4"), looks := false }, kinds := [], alts := [], laidByText := true, laidKinds := [.data, .data, .data], laidTests := true, laidLooks := .later }
def PrinterExprsCardSaid : Prop := Claim7.holds Tryz.pinned (.plain (OpenSpec.ofChange printerExprsSpec)) printerExprsCard

/-- THE TIED CARD OF 'geoproverlaw18.PrinterLarge'. -/
def printerLargeCard : Claim7 := { stood := { row := printerLargeRow, standIns := [], harness := (true, "1989977af8fa716c69e143fe6367492e06574091eb52548073075fc1e60ed6f4"), looks := false }, kinds := [], alts := [], laidByText := true, laidKinds := [.data, .data, .data], laidTests := true, laidLooks := .later }
def PrinterLargeCardSaid : Prop := Claim7.holds Tryz.pinned (.plain (OpenSpec.ofChange printerLargeSpec)) printerLargeCard

/-- THE TIED CARD OF 'geoproverlaw18.PrinterLines'. -/
def printerLinesCard : Claim7 := { stood := { row := printerLinesRow, standIns := [], harness := (true, "1989977af8fa716c69e143fe6367492e06574091eb52548073075fc1e60ed6f4"), looks := false }, kinds := [], alts := [], laidByText := true, laidKinds := [.data, .data, .data], laidTests := true, laidLooks := .later }
def PrinterLinesCardSaid : Prop := Claim7.holds Tryz.pinned (.plain (OpenSpec.ofChange printerLinesSpec)) printerLinesCard

/-- THE SECOND FORM's CARD OF 'geoproverlaw14.PredicateTexts'. -/
def predicateTextsUptoCard : Claim7 := { stood := { row := predicateTextsUptoRow, standIns := [], harness := (true, "1989977af8fa716c69e143fe6367492e06574091eb52548073075fc1e60ed6f4"), looks := false }, kinds := [], alts := [], laidByText := true, laidKinds := [.data, .data, .data], laidTests := true, laidLooks := .later }
def PredicateTextsUptoCardSaid : Prop := Claim7.holds Tryz.pinned (.plain (OpenSpec.upto predicateTextsSpec)) predicateTextsUptoCard

/-- THE SECOND FORM's CARD OF 'geoproverlaw18.PrinterPrograms'. -/
def printerProgramsUptoCard : Claim7 := { stood := { row := printerProgramsUptoRow, standIns := [], harness := (true, "1989977af8fa716c69e143fe6367492e06574091eb52548073075fc1e60ed6f4"), looks := false }, kinds := [], alts := [], laidByText := true, laidKinds := [.data, .data, .data], laidTests := true, laidLooks := .later }
def PrinterProgramsUptoCardSaid : Prop := Claim7.holds Tryz.pinned (.plain (OpenSpec.upto printerProgramsSpec)) printerProgramsUptoCard

/-- THE SECOND FORM's CARD OF 'geoproverlaw18.PrinterExprs'. -/
def printerExprsUptoCard : Claim7 := { stood := { row := printerExprsUptoRow, standIns := [], harness := (true, "1989977af8fa716c69e143fe6367492e06574091eb52548073075fc1e60ed6f4"), looks := false }, kinds := [], alts := [], laidByText := true, laidKinds := [.data, .data, .data], laidTests := true, laidLooks := .later }
def PrinterExprsUptoCardSaid : Prop := Claim7.holds Tryz.pinned (.plain (OpenSpec.upto printerExprsSpec)) printerExprsUptoCard

/-- THE SECOND FORM's CARD OF 'geoproverlaw18.PrinterLarge'. -/
def printerLargeUptoCard : Claim7 := { stood := { row := printerLargeUptoRow, standIns := [], harness := (true, "1989977af8fa716c69e143fe6367492e06574091eb52548073075fc1e60ed6f4"), looks := false }, kinds := [], alts := [], laidByText := true, laidKinds := [.data, .data, .data], laidTests := true, laidLooks := .later }
def PrinterLargeUptoCardSaid : Prop := Claim7.holds Tryz.pinned (.plain (OpenSpec.upto printerLargeSpec)) printerLargeUptoCard

/-- THE SECOND FORM's CARD OF 'geoproverlaw18.PrinterLines'. -/
def printerLinesUptoCard : Claim7 := { stood := { row := printerLinesUptoRow, standIns := [], harness := (true, "1989977af8fa716c69e143fe6367492e06574091eb52548073075fc1e60ed6f4"), looks := false }, kinds := [], alts := [], laidByText := true, laidKinds := [.data, .data, .data], laidTests := true, laidLooks := .later }
def PrinterLinesUptoCardSaid : Prop := Claim7.holds Tryz.pinned (.plain (OpenSpec.upto printerLinesSpec)) printerLinesUptoCard
end Rows
end Go.Proofs.YtiaonbofkgkdhaaGreatDoor
