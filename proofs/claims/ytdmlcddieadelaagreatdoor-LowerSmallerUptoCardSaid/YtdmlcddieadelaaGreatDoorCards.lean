/-
  DERIVED. GIVEN WITH THE SEED: THE CARDS: each row of YtdmlcddieadelaaGreatDoorRows.lean that lists a variable, with what it lists TIED to the program's text (the seventh form; the later family's looks); each row that meets fmt, with fmt's text TOLD by the authors' own Lean function (tested against real Go, not proved from fmt's source: count such statements apart). THE CARD IS WHAT COUNTS. Prove the row's statement (the work); the ties are given (YtdmlcddieadelaaGreatDoorTie.lean); close each card by the builder's one call (the guide's Derived/Test/ToyasCard.lean, 'card_holds'). Laid BY PROGRAM, IN A SANDBOX (cutbox-door.mjs). By AI agents, Wed Nov 11 2026. No macro, syntax, notation, axiom, sorry.
-/
import Derived.Test.YtdmlcddieadelaaGreatDoorRows
import GoSem.ClaimSeven
namespace Go.Proofs.YtdmlcddieadelaaGreatDoor
namespace Rows

/-- THE TIED CARD OF 'geoproverlaw20.LowerSmaller'. -/
def lowerSmallerCard : Claim7 := { stood := { row := lowerSmallerRow, standIns := [], harness := (true, "59190b832906dff3936795a9dfb25fa14614b3ea29ca5a6609a82e4f69a73356"), looks := false }, kinds := [], alts := [], laidByText := true, laidKinds := [.data], laidTests := true, laidLooks := .later }
def LowerSmallerCardSaid : Prop := Claim7.holds Tryz.pinned (.plain (OpenSpec.ofChange lowerSmallerSpec)) lowerSmallerCard

/-- THE TIED CARD OF 'geoproverlaw19.ScopeBack'. -/
def scopeBackCard : Claim7 := { stood := { row := scopeBackRow, standIns := [], harness := (true, "59190b832906dff3936795a9dfb25fa14614b3ea29ca5a6609a82e4f69a73356"), looks := false }, kinds := [], alts := [], laidByText := true, laidKinds := [.data], laidTests := true, laidLooks := .later }
def ScopeBackCardSaid : Prop := Claim7.holds Tryz.pinned (.plain (OpenSpec.ofChange scopeBackSpec)) scopeBackCard

/-- THE SECOND FORM's CARD OF 'geoproverlaw20.LowerSmaller'. -/
def lowerSmallerUptoCard : Claim7 := { stood := { row := lowerSmallerUptoRow, standIns := [], harness := (true, "59190b832906dff3936795a9dfb25fa14614b3ea29ca5a6609a82e4f69a73356"), looks := false }, kinds := [], alts := [], laidByText := true, laidKinds := [.data], laidTests := true, laidLooks := .later }
def LowerSmallerUptoCardSaid : Prop := Claim7.holds Tryz.pinned (.plain (OpenSpec.upto lowerSmallerSpec)) lowerSmallerUptoCard

/-- THE SECOND FORM's CARD OF 'geoproverlaw19.ScopeBack'. -/
def scopeBackUptoCard : Claim7 := { stood := { row := scopeBackUptoRow, standIns := [], harness := (true, "59190b832906dff3936795a9dfb25fa14614b3ea29ca5a6609a82e4f69a73356"), looks := false }, kinds := [], alts := [], laidByText := true, laidKinds := [.data], laidTests := true, laidLooks := .later }
def ScopeBackUptoCardSaid : Prop := Claim7.holds Tryz.pinned (.plain (OpenSpec.upto scopeBackSpec)) scopeBackUptoCard
end Rows
end Go.Proofs.YtdmlcddieadelaaGreatDoor
