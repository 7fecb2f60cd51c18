/-
  DERIVED. GIVEN WITH THE SEED: THE CARDS: each row of YtibjmibdboamcaaDoorRows.lean that lists a variable, with what it lists TIED to the program's text (the seventh form; the later family's looks); each row that meets fmt, with fmt's text TOLD by the authors' own Lean function (tested against real Go, not proved from fmt's source: count such statements apart). THE CARD IS WHAT COUNTS. Prove the row's statement (the work); the ties are given (YtibjmibdboamcaaDoorTie.lean); close each card by the builder's one call (the guide's Derived/Test/ToyasCard.lean, 'card_holds'). Laid BY PROGRAM, IN A SANDBOX (cutbox-door.mjs). By AI agents, Wed Nov 11 2026. No macro, syntax, notation, axiom, sorry.
-/
import Derived.Test.YtibjmibdboamcaaDoorRows
import GoSem.ClaimSeven
namespace Go.Proofs.YtibjmibdboamcaaDoor
namespace Rows

/-- THE TIED CARD OF 'geoproverlaw14.PredicateRights'. -/
def predicateRightsCard : Claim7 := { stood := { row := predicateRightsRow, standIns := [], harness := (true, "e6552f1b7b2d044d6f0eac4f27726b6e7bc516424597a2edbc23c9f777bda6f5"), looks := false }, kinds := [], alts := [], laidByText := true, laidKinds := [.data], laidTests := true, laidLooks := .later }
def PredicateRightsCardSaid : Prop := Claim7.holds Tryd.pinned (.plain (OpenSpec.ofChange predicateRightsSpec)) predicateRightsCard

/-- THE TIED CARD OF 'geoproverlaw20.LowerRights'. -/
def lowerRightsCard : Claim7 := { stood := { row := lowerRightsRow, standIns := [], harness := (true, "e6552f1b7b2d044d6f0eac4f27726b6e7bc516424597a2edbc23c9f777bda6f5"), looks := false }, kinds := [], alts := [], laidByText := true, laidKinds := [.data], laidTests := true, laidLooks := .later }
def LowerRightsCardSaid : Prop := Claim7.holds Tryd.pinned (.plain (OpenSpec.ofChange lowerRightsSpec)) lowerRightsCard

/-- THE TIED CARD OF 'geoproverlaw20.LowerNames'. -/
def lowerNamesCard : Claim7 := { stood := { row := lowerNamesRow, standIns := [], harness := (true, "e6552f1b7b2d044d6f0eac4f27726b6e7bc516424597a2edbc23c9f777bda6f5"), looks := false }, kinds := [], alts := [], laidByText := true, laidKinds := [.data, .data, .data], laidTests := true, laidLooks := .later }
def LowerNamesCardSaid : Prop := Claim7.holds Tryd.pinned (.plain (OpenSpec.ofChange lowerNamesSpec)) lowerNamesCard

/-- THE SECOND FORM's CARD OF 'geoproverlaw14.PredicateRights'. -/
def predicateRightsUptoCard : Claim7 := { stood := { row := predicateRightsUptoRow, standIns := [], harness := (true, "e6552f1b7b2d044d6f0eac4f27726b6e7bc516424597a2edbc23c9f777bda6f5"), looks := false }, kinds := [], alts := [], laidByText := true, laidKinds := [.data], laidTests := true, laidLooks := .later }
def PredicateRightsUptoCardSaid : Prop := Claim7.holds Tryd.pinned (.plain (OpenSpec.upto predicateRightsSpec)) predicateRightsUptoCard

/-- THE SECOND FORM's CARD OF 'geoproverlaw20.LowerRights'. -/
def lowerRightsUptoCard : Claim7 := { stood := { row := lowerRightsUptoRow, standIns := [], harness := (true, "e6552f1b7b2d044d6f0eac4f27726b6e7bc516424597a2edbc23c9f777bda6f5"), looks := false }, kinds := [], alts := [], laidByText := true, laidKinds := [.data], laidTests := true, laidLooks := .later }
def LowerRightsUptoCardSaid : Prop := Claim7.holds Tryd.pinned (.plain (OpenSpec.upto lowerRightsSpec)) lowerRightsUptoCard

/-- THE SECOND FORM's CARD OF 'geoproverlaw20.LowerNames'. -/
def lowerNamesUptoCard : Claim7 := { stood := { row := lowerNamesUptoRow, standIns := [], harness := (true, "e6552f1b7b2d044d6f0eac4f27726b6e7bc516424597a2edbc23c9f777bda6f5"), looks := false }, kinds := [], alts := [], laidByText := true, laidKinds := [.data, .data, .data], laidTests := true, laidLooks := .later }
def LowerNamesUptoCardSaid : Prop := Claim7.holds Tryd.pinned (.plain (OpenSpec.upto lowerNamesSpec)) lowerNamesUptoCard
end Rows
end Go.Proofs.YtibjmibdboamcaaDoor
