/-
  DERIVED. GIVEN WITH THE SEED: THE CARDS: each row of YtkggoniecmlglaaDoorRows.lean that lists a variable, with what it lists TIED to the program's text (the seventh form; the later family's looks); each row that meets fmt, with fmt's text TOLD by the authors' own Lean function (tested against real Go, not proved from fmt's source: count such statements apart). THE CARD IS WHAT COUNTS. Prove the row's statement (the work); the ties are given (YtkggoniecmlglaaDoorTie.lean); close each card by the builder's one call (the guide's Derived/Test/ToyasCard.lean, 'card_holds'). Laid BY PROGRAM, IN A SANDBOX (cutbox-door.mjs). By AI agents, Wed Nov 11 2026. No macro, syntax, notation, axiom, sorry.
-/
import Derived.Test.YtkggoniecmlglaaDoorRows
import GoSem.ClaimSeven
namespace Go.Proofs.YtkggoniecmlglaaDoor
namespace Rows

/-- THE TIED CARD OF 'geoproverlaw01.NaturalReads'. -/
def naturalReadsCard : Claim7 := { stood := { row := naturalReadsRow, standIns := [], harness := (true, "001dabac87251010f8795acfe733d0dc55ecd0b081ded40b4cc632b4d3850ad8"), looks := true }, kinds := [], alts := [], laidByText := true, laidKinds := [.data, .data, .data, .sentinel, .sentinel], laidTests := true, laidLooks := .later }
def NaturalReadsCardSaid : Prop := Claim7.holds Tryd.pinned (.plain (OpenSpec.ofChange naturalReadsSpec)) naturalReadsCard

/-- THE TIED CARD OF 'geoproverlaw01.NaturalBack'. -/
def naturalBackCard : Claim7 := { stood := { row := naturalBackRow, standIns := [], harness := (true, "001dabac87251010f8795acfe733d0dc55ecd0b081ded40b4cc632b4d3850ad8"), looks := true }, kinds := [], alts := [], laidByText := true, laidKinds := [.data, .data, .data, .sentinel, .sentinel], laidTests := true, laidLooks := .later }
def NaturalBackCardSaid : Prop := Claim7.holds Tryd.pinned (.plain (OpenSpec.ofChange naturalBackSpec)) naturalBackCard

/-- THE TIED CARD OF 'geoproverlaw02.IntegerReads'. -/
def integerReadsCard : Claim7 := { stood := { row := integerReadsRow, standIns := [], harness := (true, "001dabac87251010f8795acfe733d0dc55ecd0b081ded40b4cc632b4d3850ad8"), looks := true }, kinds := [], alts := [], laidByText := true, laidKinds := [.data, .data, .data, .sentinel, .sentinel], laidTests := true, laidLooks := .later }
def IntegerReadsCardSaid : Prop := Claim7.holds Tryd.pinned (.plain (OpenSpec.ofChange integerReadsSpec)) integerReadsCard

/-- THE TIED CARD OF 'geoproverlaw02.IntegerBack'. -/
def integerBackCard : Claim7 := { stood := { row := integerBackRow, standIns := [], harness := (true, "001dabac87251010f8795acfe733d0dc55ecd0b081ded40b4cc632b4d3850ad8"), looks := true }, kinds := [], alts := [], laidByText := true, laidKinds := [.data, .data, .data, .sentinel, .sentinel], laidTests := true, laidLooks := .later }
def IntegerBackCardSaid : Prop := Claim7.holds Tryd.pinned (.plain (OpenSpec.ofChange integerBackSpec)) integerBackCard

/-- THE SECOND FORM's CARD OF 'geoproverlaw01.NaturalReads'. -/
def naturalReadsUptoCard : Claim7 := { stood := { row := naturalReadsUptoRow, standIns := [], harness := (true, "001dabac87251010f8795acfe733d0dc55ecd0b081ded40b4cc632b4d3850ad8"), looks := true }, kinds := [], alts := [], laidByText := true, laidKinds := [.data, .data, .data, .sentinel, .sentinel], laidTests := true, laidLooks := .later }
def NaturalReadsUptoCardSaid : Prop := Claim7.holds Tryd.pinned (.plain (OpenSpec.upto naturalReadsSpec)) naturalReadsUptoCard

/-- THE SECOND FORM's CARD OF 'geoproverlaw01.NaturalBack'. -/
def naturalBackUptoCard : Claim7 := { stood := { row := naturalBackUptoRow, standIns := [], harness := (true, "001dabac87251010f8795acfe733d0dc55ecd0b081ded40b4cc632b4d3850ad8"), looks := true }, kinds := [], alts := [], laidByText := true, laidKinds := [.data, .data, .data, .sentinel, .sentinel], laidTests := true, laidLooks := .later }
def NaturalBackUptoCardSaid : Prop := Claim7.holds Tryd.pinned (.plain (OpenSpec.upto naturalBackSpec)) naturalBackUptoCard

/-- THE SECOND FORM's CARD OF 'geoproverlaw02.IntegerReads'. -/
def integerReadsUptoCard : Claim7 := { stood := { row := integerReadsUptoRow, standIns := [], harness := (true, "001dabac87251010f8795acfe733d0dc55ecd0b081ded40b4cc632b4d3850ad8"), looks := true }, kinds := [], alts := [], laidByText := true, laidKinds := [.data, .data, .data, .sentinel, .sentinel], laidTests := true, laidLooks := .later }
def IntegerReadsUptoCardSaid : Prop := Claim7.holds Tryd.pinned (.plain (OpenSpec.upto integerReadsSpec)) integerReadsUptoCard

/-- THE SECOND FORM's CARD OF 'geoproverlaw02.IntegerBack'. -/
def integerBackUptoCard : Claim7 := { stood := { row := integerBackUptoRow, standIns := [], harness := (true, "001dabac87251010f8795acfe733d0dc55ecd0b081ded40b4cc632b4d3850ad8"), looks := true }, kinds := [], alts := [], laidByText := true, laidKinds := [.data, .data, .data, .sentinel, .sentinel], laidTests := true, laidLooks := .later }
def IntegerBackUptoCardSaid : Prop := Claim7.holds Tryd.pinned (.plain (OpenSpec.upto integerBackSpec)) integerBackUptoCard
end Rows
end Go.Proofs.YtkggoniecmlglaaDoor
