/-
  DERIVED. GIVEN WITH THE SEED: THE CARDS: each row of YtcjoecmkkpmjmaaGreatDoorRows.lean that lists a variable, with what it lists TIED to the program's text (the seventh form; the later family's looks); each row that meets fmt, with fmt's text TOLD by the authors' own Lean function (tested against real Go, not proved from fmt's source: count such statements apart). THE CARD IS WHAT COUNTS. Prove the row's statement (the work); the ties are given (YtcjoecmkkpmjmaaGreatDoorTie.lean); close each card by the builder's one call (the guide's Derived/Test/ToyasCard.lean, 'card_holds'). Laid BY PROGRAM, IN A SANDBOX (cutbox-door.mjs). By AI agents, Wed Nov 11 2026. No macro, syntax, notation, axiom, sorry.
-/
import Derived.Test.YtcjoecmkkpmjmaaGreatDoorRows
import GoSem.ClaimSeven
namespace Go.Proofs.YtcjoecmkkpmjmaaGreatDoor
namespace Rows

/-- THE TIED CARD OF 'geoproverlaw04.IntervalRounds'. -/
def intervalRoundsCard : Claim7 := { stood := { row := intervalRoundsRow, standIns := [], harness := (true, "76593f09a50d16fee9bc8782d384af25bc85c9baca3dad047cf60c7c151c8a12"), looks := false }, kinds := [], alts := [], laidByText := true, laidKinds := [.data], laidTests := true, laidLooks := .later }
def IntervalRoundsCardSaid : Prop := Claim7.holds Tryz.pinned (.plain (OpenSpec.ofChange intervalRoundsSpec)) intervalRoundsCard

/-- THE TIED CARD OF 'geoproverlaw04.IntervalContains'. -/
def intervalContainsCard : Claim7 := { stood := { row := intervalContainsRow, standIns := [], harness := (true, "76593f09a50d16fee9bc8782d384af25bc85c9baca3dad047cf60c7c151c8a12"), looks := false }, kinds := [], alts := [], laidByText := true, laidKinds := [.data], laidTests := true, laidLooks := .later }
def IntervalContainsCardSaid : Prop := Claim7.holds Tryz.pinned (.plain (OpenSpec.ofChange intervalContainsSpec)) intervalContainsCard

/-- THE TIED CARD OF 'geoproverlaw04.IntervalGrows'. -/
def intervalGrowsCard : Claim7 := { stood := { row := intervalGrowsRow, standIns := [], harness := (true, "76593f09a50d16fee9bc8782d384af25bc85c9baca3dad047cf60c7c151c8a12"), looks := false }, kinds := [], alts := [], laidByText := true, laidKinds := [.data], laidTests := true, laidLooks := .later }
def IntervalGrowsCardSaid : Prop := Claim7.holds Tryz.pinned (.plain (OpenSpec.ofChange intervalGrowsSpec)) intervalGrowsCard

/-- THE SECOND FORM's CARD OF 'geoproverlaw04.IntervalRounds'. -/
def intervalRoundsUptoCard : Claim7 := { stood := { row := intervalRoundsUptoRow, standIns := [], harness := (true, "76593f09a50d16fee9bc8782d384af25bc85c9baca3dad047cf60c7c151c8a12"), looks := false }, kinds := [], alts := [], laidByText := true, laidKinds := [.data], laidTests := true, laidLooks := .later }
def IntervalRoundsUptoCardSaid : Prop := Claim7.holds Tryz.pinned (.plain (OpenSpec.upto intervalRoundsSpec)) intervalRoundsUptoCard

/-- THE SECOND FORM's CARD OF 'geoproverlaw04.IntervalContains'. -/
def intervalContainsUptoCard : Claim7 := { stood := { row := intervalContainsUptoRow, standIns := [], harness := (true, "76593f09a50d16fee9bc8782d384af25bc85c9baca3dad047cf60c7c151c8a12"), looks := false }, kinds := [], alts := [], laidByText := true, laidKinds := [.data], laidTests := true, laidLooks := .later }
def IntervalContainsUptoCardSaid : Prop := Claim7.holds Tryz.pinned (.plain (OpenSpec.upto intervalContainsSpec)) intervalContainsUptoCard

/-- THE SECOND FORM's CARD OF 'geoproverlaw04.IntervalGrows'. -/
def intervalGrowsUptoCard : Claim7 := { stood := { row := intervalGrowsUptoRow, standIns := [], harness := (true, "76593f09a50d16fee9bc8782d384af25bc85c9baca3dad047cf60c7c151c8a12"), looks := false }, kinds := [], alts := [], laidByText := true, laidKinds := [.data], laidTests := true, laidLooks := .later }
def IntervalGrowsUptoCardSaid : Prop := Claim7.holds Tryz.pinned (.plain (OpenSpec.upto intervalGrowsSpec)) intervalGrowsUptoCard
end Rows
end Go.Proofs.YtcjoecmkkpmjmaaGreatDoor
