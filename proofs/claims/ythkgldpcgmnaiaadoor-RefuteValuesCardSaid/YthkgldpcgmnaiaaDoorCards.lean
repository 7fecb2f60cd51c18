/-
  DERIVED. GIVEN WITH THE SEED: THE CARDS: each row of YthkgldpcgmnaiaaDoorRows.lean that lists a variable, with what it lists TIED to the program's text (the seventh form; the later family's looks); each row that meets fmt, with fmt's text TOLD by the authors' own Lean function (tested against real Go, not proved from fmt's source: count such statements apart). THE CARD IS WHAT COUNTS. Prove the row's statement (the work); the ties are given (YthkgldpcgmnaiaaDoorTie.lean); close each card by the builder's one call (the guide's Derived/Test/ToyasCard.lean, 'card_holds'). Laid BY PROGRAM, IN A SANDBOX (cutbox-door.mjs). By AI agents, Wed Nov 11 2026. No macro, syntax, notation, axiom, sorry.
-/
import Derived.Test.YthkgldpcgmnaiaaDoorRows
import GoSem.ClaimSeven
namespace Go.Proofs.YthkgldpcgmnaiaaDoor
namespace Rows

/-- THE TIED CARD OF 'geoproverlaw27.RefuteValues'. -/
def refuteValuesCard : Claim7 := { stood := { row := refuteValuesRow, standIns := [], harness := (true, "2cdd83df3094bbaacbd730fa7ea2530181ce17935a422df9493ff7d0824ba9c2"), looks := false }, kinds := [], alts := [], laidByText := true, laidKinds := [.data], laidTests := true, laidLooks := .later }
def RefuteValuesCardSaid : Prop := Claim7.holds Tryd.pinned (.plain (OpenSpec.ofChange refuteValuesSpec)) refuteValuesCard

/-- THE SECOND FORM's CARD OF 'geoproverlaw27.RefuteValues'. -/
def refuteValuesUptoCard : Claim7 := { stood := { row := refuteValuesUptoRow, standIns := [], harness := (true, "2cdd83df3094bbaacbd730fa7ea2530181ce17935a422df9493ff7d0824ba9c2"), looks := false }, kinds := [], alts := [], laidByText := true, laidKinds := [.data], laidTests := true, laidLooks := .later }
def RefuteValuesUptoCardSaid : Prop := Claim7.holds Tryd.pinned (.plain (OpenSpec.upto refuteValuesSpec)) refuteValuesUptoCard
end Rows
end Go.Proofs.YthkgldpcgmnaiaaDoor
