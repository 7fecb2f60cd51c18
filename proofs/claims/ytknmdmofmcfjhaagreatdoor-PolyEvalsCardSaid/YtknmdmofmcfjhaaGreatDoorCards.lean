/-
  DERIVED. GIVEN WITH THE SEED: THE CARDS: each row of YtknmdmofmcfjhaaGreatDoorRows.lean that lists a variable, with what it lists TIED to the program's text (the seventh form; the later family's looks); each row that meets fmt, with fmt's text TOLD by the authors' own Lean function (tested against real Go, not proved from fmt's source: count such statements apart). THE CARD IS WHAT COUNTS. Prove the row's statement (the work); the ties are given (YtknmdmofmcfjhaaGreatDoorTie.lean); close each card by the builder's one call (the guide's Derived/Test/ToyasCard.lean, 'card_holds'). Laid BY PROGRAM, IN A SANDBOX (cutbox-door.mjs). By AI agents, Wed Nov 11 2026. No macro, syntax, notation, axiom, sorry.
-/
import Derived.Test.YtknmdmofmcfjhaaGreatDoorRows
import GoSem.ClaimSeven
namespace Go.Proofs.YtknmdmofmcfjhaaGreatDoor
namespace Rows

/-- THE TIED CARD OF 'geoproverlaw06.PolyForms'. -/
def polyFormsCard : Claim7 := { stood := { row := polyFormsRow, standIns := [], harness := (true, "d1e0313dd4527d4e6333e959f349c2e8f98f803c2f97648adc2aab716446f20d"), looks := false }, kinds := [], alts := [], laidByText := true, laidKinds := [.data], laidTests := true, laidLooks := .later }
def PolyFormsCardSaid : Prop := Claim7.holds Tryz.pinned (.plain (OpenSpec.ofChange polyFormsSpec)) polyFormsCard

/-- THE TIED CARD OF 'geoproverlaw06.PolyAdds'. -/
def polyAddsCard : Claim7 := { stood := { row := polyAddsRow, standIns := [], harness := (true, "d1e0313dd4527d4e6333e959f349c2e8f98f803c2f97648adc2aab716446f20d"), looks := false }, kinds := [], alts := [], laidByText := true, laidKinds := [.data], laidTests := true, laidLooks := .later }
def PolyAddsCardSaid : Prop := Claim7.holds Tryz.pinned (.plain (OpenSpec.ofChange polyAddsSpec)) polyAddsCard

/-- THE TIED CARD OF 'geoproverlaw06.PolyPowers'. -/
def polyPowersCard : Claim7 := { stood := { row := polyPowersRow, standIns := [], harness := (true, "d1e0313dd4527d4e6333e959f349c2e8f98f803c2f97648adc2aab716446f20d"), looks := false }, kinds := [], alts := [], laidByText := true, laidKinds := [.data], laidTests := true, laidLooks := .later }
def PolyPowersCardSaid : Prop := Claim7.holds Tryz.pinned (.plain (OpenSpec.ofChange polyPowersSpec)) polyPowersCard

/-- THE TIED CARD OF 'geoproverlaw06.PolyParts'. -/
def polyPartsCard : Claim7 := { stood := { row := polyPartsRow, standIns := [], harness := (true, "d1e0313dd4527d4e6333e959f349c2e8f98f803c2f97648adc2aab716446f20d"), looks := false }, kinds := [], alts := [], laidByText := true, laidKinds := [.data], laidTests := true, laidLooks := .later }
def PolyPartsCardSaid : Prop := Claim7.holds Tryz.pinned (.plain (OpenSpec.ofChange polyPartsSpec)) polyPartsCard

/-- THE TIED CARD OF 'geoproverlaw06.PolyEvals'. -/
def polyEvalsCard : Claim7 := { stood := { row := polyEvalsRow, standIns := [], harness := (true, "d1e0313dd4527d4e6333e959f349c2e8f98f803c2f97648adc2aab716446f20d"), looks := false }, kinds := [], alts := [], laidByText := true, laidKinds := [.data], laidTests := true, laidLooks := .later }
def PolyEvalsCardSaid : Prop := Claim7.holds Tryz.pinned (.plain (OpenSpec.ofChange polyEvalsSpec)) polyEvalsCard

/-- THE TIED CARD OF 'geoproverlaw06.PolySubsts'. -/
def polySubstsCard : Claim7 := { stood := { row := polySubstsRow, standIns := [], harness := (true, "d1e0313dd4527d4e6333e959f349c2e8f98f803c2f97648adc2aab716446f20d"), looks := false }, kinds := [], alts := [], laidByText := true, laidKinds := [.data], laidTests := true, laidLooks := .later }
def PolySubstsCardSaid : Prop := Claim7.holds Tryz.pinned (.plain (OpenSpec.ofChange polySubstsSpec)) polySubstsCard

/-- THE TIED CARD OF 'geoproverlaw06.PolyRing'. -/
def polyRingCard : Claim7 := { stood := { row := polyRingRow, standIns := [], harness := (true, "d1e0313dd4527d4e6333e959f349c2e8f98f803c2f97648adc2aab716446f20d"), looks := false }, kinds := [], alts := [], laidByText := true, laidKinds := [.data], laidTests := true, laidLooks := .later }
def PolyRingCardSaid : Prop := Claim7.holds Tryz.pinned (.plain (OpenSpec.ofChange polyRingSpec)) polyRingCard

/-- THE TIED CARD OF 'geoproverlaw06.PolyValues'. -/
def polyValuesCard : Claim7 := { stood := { row := polyValuesRow, standIns := [], harness := (true, "d1e0313dd4527d4e6333e959f349c2e8f98f803c2f97648adc2aab716446f20d"), looks := false }, kinds := [], alts := [], laidByText := true, laidKinds := [.data], laidTests := true, laidLooks := .later }
def PolyValuesCardSaid : Prop := Claim7.holds Tryz.pinned (.plain (OpenSpec.ofChange polyValuesSpec)) polyValuesCard

/-- THE SECOND FORM's CARD OF 'geoproverlaw06.PolyForms'. -/
def polyFormsUptoCard : Claim7 := { stood := { row := polyFormsUptoRow, standIns := [], harness := (true, "d1e0313dd4527d4e6333e959f349c2e8f98f803c2f97648adc2aab716446f20d"), looks := false }, kinds := [], alts := [], laidByText := true, laidKinds := [.data], laidTests := true, laidLooks := .later }
def PolyFormsUptoCardSaid : Prop := Claim7.holds Tryz.pinned (.plain (OpenSpec.upto polyFormsSpec)) polyFormsUptoCard

/-- THE SECOND FORM's CARD OF 'geoproverlaw06.PolyAdds'. -/
def polyAddsUptoCard : Claim7 := { stood := { row := polyAddsUptoRow, standIns := [], harness := (true, "d1e0313dd4527d4e6333e959f349c2e8f98f803c2f97648adc2aab716446f20d"), looks := false }, kinds := [], alts := [], laidByText := true, laidKinds := [.data], laidTests := true, laidLooks := .later }
def PolyAddsUptoCardSaid : Prop := Claim7.holds Tryz.pinned (.plain (OpenSpec.upto polyAddsSpec)) polyAddsUptoCard

/-- THE SECOND FORM's CARD OF 'geoproverlaw06.PolyPowers'. -/
def polyPowersUptoCard : Claim7 := { stood := { row := polyPowersUptoRow, standIns := [], harness := (true, "d1e0313dd4527d4e6333e959f349c2e8f98f803c2f97648adc2aab716446f20d"), looks := false }, kinds := [], alts := [], laidByText := true, laidKinds := [.data], laidTests := true, laidLooks := .later }
def PolyPowersUptoCardSaid : Prop := Claim7.holds Tryz.pinned (.plain (OpenSpec.upto polyPowersSpec)) polyPowersUptoCard

/-- THE SECOND FORM's CARD OF 'geoproverlaw06.PolyParts'. -/
def polyPartsUptoCard : Claim7 := { stood := { row := polyPartsUptoRow, standIns := [], harness := (true, "d1e0313dd4527d4e6333e959f349c2e8f98f803c2f97648adc2aab716446f20d"), looks := false }, kinds := [], alts := [], laidByText := true, laidKinds := [.data], laidTests := true, laidLooks := .later }
def PolyPartsUptoCardSaid : Prop := Claim7.holds Tryz.pinned (.plain (OpenSpec.upto polyPartsSpec)) polyPartsUptoCard

/-- THE SECOND FORM's CARD OF 'geoproverlaw06.PolyEvals'. -/
def polyEvalsUptoCard : Claim7 := { stood := { row := polyEvalsUptoRow, standIns := [], harness := (true, "d1e0313dd4527d4e6333e959f349c2e8f98f803c2f97648adc2aab716446f20d"), looks := false }, kinds := [], alts := [], laidByText := true, laidKinds := [.data], laidTests := true, laidLooks := .later }
def PolyEvalsUptoCardSaid : Prop := Claim7.holds Tryz.pinned (.plain (OpenSpec.upto polyEvalsSpec)) polyEvalsUptoCard

/-- THE SECOND FORM's CARD OF 'geoproverlaw06.PolySubsts'. -/
def polySubstsUptoCard : Claim7 := { stood := { row := polySubstsUptoRow, standIns := [], harness := (true, "d1e0313dd4527d4e6333e959f349c2e8f98f803c2f97648adc2aab716446f20d"), looks := false }, kinds := [], alts := [], laidByText := true, laidKinds := [.data], laidTests := true, laidLooks := .later }
def PolySubstsUptoCardSaid : Prop := Claim7.holds Tryz.pinned (.plain (OpenSpec.upto polySubstsSpec)) polySubstsUptoCard

/-- THE SECOND FORM's CARD OF 'geoproverlaw06.PolyRing'. -/
def polyRingUptoCard : Claim7 := { stood := { row := polyRingUptoRow, standIns := [], harness := (true, "d1e0313dd4527d4e6333e959f349c2e8f98f803c2f97648adc2aab716446f20d"), looks := false }, kinds := [], alts := [], laidByText := true, laidKinds := [.data], laidTests := true, laidLooks := .later }
def PolyRingUptoCardSaid : Prop := Claim7.holds Tryz.pinned (.plain (OpenSpec.upto polyRingSpec)) polyRingUptoCard

/-- THE SECOND FORM's CARD OF 'geoproverlaw06.PolyValues'. -/
def polyValuesUptoCard : Claim7 := { stood := { row := polyValuesUptoRow, standIns := [], harness := (true, "d1e0313dd4527d4e6333e959f349c2e8f98f803c2f97648adc2aab716446f20d"), looks := false }, kinds := [], alts := [], laidByText := true, laidKinds := [.data], laidTests := true, laidLooks := .later }
def PolyValuesUptoCardSaid : Prop := Claim7.holds Tryz.pinned (.plain (OpenSpec.upto polyValuesSpec)) polyValuesUptoCard
end Rows
end Go.Proofs.YtknmdmofmcfjhaaGreatDoor
