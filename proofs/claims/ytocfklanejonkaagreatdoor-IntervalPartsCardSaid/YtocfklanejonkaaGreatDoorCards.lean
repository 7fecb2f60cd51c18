/-
  DERIVED. GIVEN WITH THE SEED: THE CARDS: each row of YtocfklanejonkaaGreatDoorRows.lean that lists a variable, with what it lists TIED to the program's text (the seventh form; the later family's looks); each row that meets fmt, with fmt's text TOLD by the authors' own Lean function (tested against real Go, not proved from fmt's source: count such statements apart). THE CARD IS WHAT COUNTS. Prove the row's statement (the work); the ties are given (YtocfklanejonkaaGreatDoorTie.lean); close each card by the builder's one call (the guide's Derived/Test/ToyasCard.lean, 'card_holds'). Laid BY PROGRAM, IN A SANDBOX (cutbox-door.mjs). By AI agents, Wed Nov 11 2026. No macro, syntax, notation, axiom, sorry.
-/
import Derived.Test.YtocfklanejonkaaGreatDoorRows
import GoSem.ClaimSeven
namespace Go.Proofs.YtocfklanejonkaaGreatDoor
namespace Rows

/-- THE TIED CARD OF 'geoproverlaw04.IntervalMakes'. -/
def intervalMakesCard : Claim7 := { stood := { row := intervalMakesRow, standIns := [], harness := (true, "7f1ae866a7456529af83ad521eef7af043bdeeaf0910f71581b72dd240918616"), looks := false }, kinds := [], alts := [], laidByText := true, laidKinds := [.data], laidTests := true, laidLooks := .later }
def IntervalMakesCardSaid : Prop := Claim7.holds Tryz.pinned (.plain (OpenSpec.ofChange intervalMakesSpec)) intervalMakesCard

/-- THE TIED CARD OF 'geoproverlaw04.IntervalParts'. -/
def intervalPartsCard : Claim7 := { stood := { row := intervalPartsRow, standIns := [], harness := (true, "7f1ae866a7456529af83ad521eef7af043bdeeaf0910f71581b72dd240918616"), looks := false }, kinds := [], alts := [], laidByText := true, laidKinds := [.data], laidTests := true, laidLooks := .later }
def IntervalPartsCardSaid : Prop := Claim7.holds Tryz.pinned (.plain (OpenSpec.ofChange intervalPartsSpec)) intervalPartsCard

/-- THE TIED CARD OF 'geoproverlaw04.IntervalAdds'. -/
def intervalAddsCard : Claim7 := { stood := { row := intervalAddsRow, standIns := [], harness := (true, "7f1ae866a7456529af83ad521eef7af043bdeeaf0910f71581b72dd240918616"), looks := false }, kinds := [], alts := [], laidByText := true, laidKinds := [.data], laidTests := true, laidLooks := .later }
def IntervalAddsCardSaid : Prop := Claim7.holds Tryz.pinned (.plain (OpenSpec.ofChange intervalAddsSpec)) intervalAddsCard

/-- THE SECOND FORM's CARD OF 'geoproverlaw04.IntervalMakes'. -/
def intervalMakesUptoCard : Claim7 := { stood := { row := intervalMakesUptoRow, standIns := [], harness := (true, "7f1ae866a7456529af83ad521eef7af043bdeeaf0910f71581b72dd240918616"), looks := false }, kinds := [], alts := [], laidByText := true, laidKinds := [.data], laidTests := true, laidLooks := .later }
def IntervalMakesUptoCardSaid : Prop := Claim7.holds Tryz.pinned (.plain (OpenSpec.upto intervalMakesSpec)) intervalMakesUptoCard

/-- THE SECOND FORM's CARD OF 'geoproverlaw04.IntervalParts'. -/
def intervalPartsUptoCard : Claim7 := { stood := { row := intervalPartsUptoRow, standIns := [], harness := (true, "7f1ae866a7456529af83ad521eef7af043bdeeaf0910f71581b72dd240918616"), looks := false }, kinds := [], alts := [], laidByText := true, laidKinds := [.data], laidTests := true, laidLooks := .later }
def IntervalPartsUptoCardSaid : Prop := Claim7.holds Tryz.pinned (.plain (OpenSpec.upto intervalPartsSpec)) intervalPartsUptoCard

/-- THE SECOND FORM's CARD OF 'geoproverlaw04.IntervalAdds'. -/
def intervalAddsUptoCard : Claim7 := { stood := { row := intervalAddsUptoRow, standIns := [], harness := (true, "7f1ae866a7456529af83ad521eef7af043bdeeaf0910f71581b72dd240918616"), looks := false }, kinds := [], alts := [], laidByText := true, laidKinds := [.data], laidTests := true, laidLooks := .later }
def IntervalAddsUptoCardSaid : Prop := Claim7.holds Tryz.pinned (.plain (OpenSpec.upto intervalAddsSpec)) intervalAddsUptoCard
end Rows
end Go.Proofs.YtocfklanejonkaaGreatDoor
