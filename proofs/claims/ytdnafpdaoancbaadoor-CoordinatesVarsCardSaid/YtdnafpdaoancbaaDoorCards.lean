/-
  DERIVED. GIVEN WITH THE SEED: THE CARDS: each row of YtdnafpdaoancbaaDoorRows.lean that lists a variable, with what it lists TIED to the program's text (the seventh form; the later family's looks); each row that meets fmt, with fmt's text TOLD by the authors' own Lean function (tested against real Go, not proved from fmt's source: count such statements apart). THE CARD IS WHAT COUNTS. Prove the row's statement (the work); the ties are given (YtdnafpdaoancbaaDoorTie.lean); close each card by the builder's one call (the guide's Derived/Test/ToyasCard.lean, 'card_holds'). Laid BY PROGRAM, IN A SANDBOX (cutbox-door.mjs). By AI agents, Wed Nov 11 2026. No macro, syntax, notation, axiom, sorry.
-/
import Derived.Test.YtdnafpdaoancbaaDoorRows
import GoSem.ClaimSeven
namespace Go.Proofs.YtdnafpdaoancbaaDoor
namespace Rows

/-- THE TIED CARD OF 'geoproverlaw21.CoordinatesVars'. -/
def coordinatesVarsCard : Claim7 := { stood := { row := coordinatesVarsRow, standIns := [], harness := (true, "e74bd4f2fb068bef8a99e4a8be2026f4f1183761517987d868f47ef490b6a222"), looks := false }, kinds := [], alts := [], laidByText := true, laidKinds := [.data, .data, .data], laidTests := true, laidLooks := .later }
def CoordinatesVarsCardSaid : Prop := Claim7.holds Tryd.pinned (.plain (OpenSpec.ofChange coordinatesVarsSpec)) coordinatesVarsCard

/-- THE SECOND FORM's CARD OF 'geoproverlaw21.CoordinatesVars'. -/
def coordinatesVarsUptoCard : Claim7 := { stood := { row := coordinatesVarsUptoRow, standIns := [], harness := (true, "e74bd4f2fb068bef8a99e4a8be2026f4f1183761517987d868f47ef490b6a222"), looks := false }, kinds := [], alts := [], laidByText := true, laidKinds := [.data, .data, .data], laidTests := true, laidLooks := .later }
def CoordinatesVarsUptoCardSaid : Prop := Claim7.holds Tryd.pinned (.plain (OpenSpec.upto coordinatesVarsSpec)) coordinatesVarsUptoCard
end Rows
end Go.Proofs.YtdnafpdaoancbaaDoor
