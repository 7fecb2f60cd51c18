/-
  DERIVED. GIVEN WITH THE SEED: THE CARDS: each row of YtgbfjneoieadmaaGreatDoorRows.lean that lists a variable, with what it lists TIED to the program's text (the seventh form; the later family's looks); each row that meets fmt, with fmt's text TOLD by the authors' own Lean function (tested against real Go, not proved from fmt's source: count such statements apart). THE CARD IS WHAT COUNTS. Prove the row's statement (the work); the ties are given (YtgbfjneoieadmaaGreatDoorTie.lean); close each card by the builder's one call (the guide's Derived/Test/ToyasCard.lean, 'card_holds'). Laid BY PROGRAM, IN A SANDBOX (cutbox-door.mjs). By AI agents, Wed Nov 11 2026. No macro, syntax, notation, axiom, sorry.
-/
import Derived.Test.YtgbfjneoieadmaaGreatDoorRows
import GoSem.ClaimSeven
namespace Go.Proofs.YtgbfjneoieadmaaGreatDoor
namespace Rows

/-- THE TIED CARD OF 'geoproverlaw13.PlaneVectors'. -/
def planeVectorsCard : Claim7 := { stood := { row := planeVectorsRow, standIns := [], harness := (true, "8ba5fb55e3702ac72704c356c5dc1fccaaf53f7ebbf85952fb32dae42b57d2c3"), looks := false }, kinds := [], alts := [], laidByText := true, laidKinds := [.data], laidTests := true, laidLooks := .later }
def PlaneVectorsCardSaid : Prop := Claim7.holds Tryz.pinned (.plain (OpenSpec.ofChange planeVectorsSpec)) planeVectorsCard

/-- THE TIED CARD OF 'geoproverlaw13.PlanePoints'. -/
def planePointsCard : Claim7 := { stood := { row := planePointsRow, standIns := [], harness := (true, "8ba5fb55e3702ac72704c356c5dc1fccaaf53f7ebbf85952fb32dae42b57d2c3"), looks := false }, kinds := [], alts := [], laidByText := true, laidKinds := [.data], laidTests := true, laidLooks := .later }
def PlanePointsCardSaid : Prop := Claim7.holds Tryz.pinned (.plain (OpenSpec.ofChange planePointsSpec)) planePointsCard

/-- THE TIED CARD OF 'geoproverlaw13.PlaneLines'. -/
def planeLinesCard : Claim7 := { stood := { row := planeLinesRow, standIns := [], harness := (true, "8ba5fb55e3702ac72704c356c5dc1fccaaf53f7ebbf85952fb32dae42b57d2c3"), looks := false }, kinds := [], alts := [], laidByText := true, laidKinds := [.data], laidTests := true, laidLooks := .later }
def PlaneLinesCardSaid : Prop := Claim7.holds Tryz.pinned (.plain (OpenSpec.ofChange planeLinesSpec)) planeLinesCard

/-- THE TIED CARD OF 'geoproverlaw13.PlaneCircles'. -/
def planeCirclesCard : Claim7 := { stood := { row := planeCirclesRow, standIns := [], harness := (true, "8ba5fb55e3702ac72704c356c5dc1fccaaf53f7ebbf85952fb32dae42b57d2c3"), looks := false }, kinds := [], alts := [], laidByText := true, laidKinds := [.data], laidTests := true, laidLooks := .later }
def PlaneCirclesCardSaid : Prop := Claim7.holds Tryz.pinned (.plain (OpenSpec.ofChange planeCirclesSpec)) planeCirclesCard

/-- THE TIED CARD OF 'geoproverlaw13.PlaneRoots'. -/
def planeRootsCard : Claim7 := { stood := { row := planeRootsRow, standIns := [], harness := (true, "8ba5fb55e3702ac72704c356c5dc1fccaaf53f7ebbf85952fb32dae42b57d2c3"), looks := false }, kinds := [], alts := [], laidByText := true, laidKinds := [.data], laidTests := true, laidLooks := .later }
def PlaneRootsCardSaid : Prop := Claim7.holds Tryz.pinned (.plain (OpenSpec.ofChange planeRootsSpec)) planeRootsCard

/-- THE TIED CARD OF 'geoproverlaw13.PlaneHypotheses'. -/
def planeHypothesesCard : Claim7 := { stood := { row := planeHypothesesRow, standIns := [], harness := (true, "8ba5fb55e3702ac72704c356c5dc1fccaaf53f7ebbf85952fb32dae42b57d2c3"), looks := false }, kinds := [], alts := [], laidByText := true, laidKinds := [.data], laidTests := true, laidLooks := .later }
def PlaneHypothesesCardSaid : Prop := Claim7.holds Tryz.pinned (.plain (OpenSpec.ofChange planeHypothesesSpec)) planeHypothesesCard

/-- THE TIED CARD OF 'geoproverlaw13.PlaneBranches'. -/
def planeBranchesCard : Claim7 := { stood := { row := planeBranchesRow, standIns := [], harness := (true, "8ba5fb55e3702ac72704c356c5dc1fccaaf53f7ebbf85952fb32dae42b57d2c3"), looks := false }, kinds := [], alts := [], laidByText := true, laidKinds := [.data], laidTests := true, laidLooks := .later }
def PlaneBranchesCardSaid : Prop := Claim7.holds Tryz.pinned (.plain (OpenSpec.ofChange planeBranchesSpec)) planeBranchesCard

/-- THE TIED CARD OF 'geoproverlaw13.PlaneSimilar'. -/
def planeSimilarCard : Claim7 := { stood := { row := planeSimilarRow, standIns := [], harness := (true, "8ba5fb55e3702ac72704c356c5dc1fccaaf53f7ebbf85952fb32dae42b57d2c3"), looks := false }, kinds := [], alts := [], laidByText := true, laidKinds := [.data], laidTests := true, laidLooks := .later }
def PlaneSimilarCardSaid : Prop := Claim7.holds Tryz.pinned (.plain (OpenSpec.ofChange planeSimilarSpec)) planeSimilarCard

/-- THE TIED CARD OF 'geoproverlaw14.PredicateValues'. -/
def predicateValuesCard : Claim7 := { stood := { row := predicateValuesRow, standIns := [], harness := (true, "8ba5fb55e3702ac72704c356c5dc1fccaaf53f7ebbf85952fb32dae42b57d2c3"), looks := false }, kinds := [], alts := [], laidByText := true, laidKinds := [.data], laidTests := true, laidLooks := .later }
def PredicateValuesCardSaid : Prop := Claim7.holds Tryz.pinned (.plain (OpenSpec.ofChange predicateValuesSpec)) predicateValuesCard

/-- THE TIED CARD OF 'geoproverlaw14.PredicateSimilar'. -/
def predicateSimilarCard : Claim7 := { stood := { row := predicateSimilarRow, standIns := [], harness := (true, "8ba5fb55e3702ac72704c356c5dc1fccaaf53f7ebbf85952fb32dae42b57d2c3"), looks := false }, kinds := [], alts := [], laidByText := true, laidKinds := [.data], laidTests := true, laidLooks := .later }
def PredicateSimilarCardSaid : Prop := Claim7.holds Tryz.pinned (.plain (OpenSpec.ofChange predicateSimilarSpec)) predicateSimilarCard

/-- THE TIED CARD OF 'geoproverlaw14.PredicateSymmetric'. -/
def predicateSymmetricCard : Claim7 := { stood := { row := predicateSymmetricRow, standIns := [], harness := (true, "8ba5fb55e3702ac72704c356c5dc1fccaaf53f7ebbf85952fb32dae42b57d2c3"), looks := false }, kinds := [], alts := [], laidByText := true, laidKinds := [.data], laidTests := true, laidLooks := .later }
def PredicateSymmetricCardSaid : Prop := Claim7.holds Tryz.pinned (.plain (OpenSpec.ofChange predicateSymmetricSpec)) predicateSymmetricCard

/-- THE TIED CARD OF 'geoproverlaw14.PredicateMakes'. -/
def predicateMakesCard : Claim7 := { stood := { row := predicateMakesRow, standIns := [], harness := (true, "8ba5fb55e3702ac72704c356c5dc1fccaaf53f7ebbf85952fb32dae42b57d2c3"), looks := false }, kinds := [], alts := [], laidByText := true, laidKinds := [.data], laidTests := true, laidLooks := .later }
def PredicateMakesCardSaid : Prop := Claim7.holds Tryz.pinned (.plain (OpenSpec.ofChange predicateMakesSpec)) predicateMakesCard

/-- THE SECOND FORM's CARD OF 'geoproverlaw13.PlaneVectors'. -/
def planeVectorsUptoCard : Claim7 := { stood := { row := planeVectorsUptoRow, standIns := [], harness := (true, "8ba5fb55e3702ac72704c356c5dc1fccaaf53f7ebbf85952fb32dae42b57d2c3"), looks := false }, kinds := [], alts := [], laidByText := true, laidKinds := [.data], laidTests := true, laidLooks := .later }
def PlaneVectorsUptoCardSaid : Prop := Claim7.holds Tryz.pinned (.plain (OpenSpec.upto planeVectorsSpec)) planeVectorsUptoCard

/-- THE SECOND FORM's CARD OF 'geoproverlaw13.PlanePoints'. -/
def planePointsUptoCard : Claim7 := { stood := { row := planePointsUptoRow, standIns := [], harness := (true, "8ba5fb55e3702ac72704c356c5dc1fccaaf53f7ebbf85952fb32dae42b57d2c3"), looks := false }, kinds := [], alts := [], laidByText := true, laidKinds := [.data], laidTests := true, laidLooks := .later }
def PlanePointsUptoCardSaid : Prop := Claim7.holds Tryz.pinned (.plain (OpenSpec.upto planePointsSpec)) planePointsUptoCard

/-- THE SECOND FORM's CARD OF 'geoproverlaw13.PlaneLines'. -/
def planeLinesUptoCard : Claim7 := { stood := { row := planeLinesUptoRow, standIns := [], harness := (true, "8ba5fb55e3702ac72704c356c5dc1fccaaf53f7ebbf85952fb32dae42b57d2c3"), looks := false }, kinds := [], alts := [], laidByText := true, laidKinds := [.data], laidTests := true, laidLooks := .later }
def PlaneLinesUptoCardSaid : Prop := Claim7.holds Tryz.pinned (.plain (OpenSpec.upto planeLinesSpec)) planeLinesUptoCard

/-- THE SECOND FORM's CARD OF 'geoproverlaw13.PlaneCircles'. -/
def planeCirclesUptoCard : Claim7 := { stood := { row := planeCirclesUptoRow, standIns := [], harness := (true, "8ba5fb55e3702ac72704c356c5dc1fccaaf53f7ebbf85952fb32dae42b57d2c3"), looks := false }, kinds := [], alts := [], laidByText := true, laidKinds := [.data], laidTests := true, laidLooks := .later }
def PlaneCirclesUptoCardSaid : Prop := Claim7.holds Tryz.pinned (.plain (OpenSpec.upto planeCirclesSpec)) planeCirclesUptoCard

/-- THE SECOND FORM's CARD OF 'geoproverlaw13.PlaneRoots'. -/
def planeRootsUptoCard : Claim7 := { stood := { row := planeRootsUptoRow, standIns := [], harness := (true, "8ba5fb55e3702ac72704c356c5dc1fccaaf53f7ebbf85952fb32dae42b57d2c3"), looks := false }, kinds := [], alts := [], laidByText := true, laidKinds := [.data], laidTests := true, laidLooks := .later }
def PlaneRootsUptoCardSaid : Prop := Claim7.holds Tryz.pinned (.plain (OpenSpec.upto planeRootsSpec)) planeRootsUptoCard

/-- THE SECOND FORM's CARD OF 'geoproverlaw13.PlaneHypotheses'. -/
def planeHypothesesUptoCard : Claim7 := { stood := { row := planeHypothesesUptoRow, standIns := [], harness := (true, "8ba5fb55e3702ac72704c356c5dc1fccaaf53f7ebbf85952fb32dae42b57d2c3"), looks := false }, kinds := [], alts := [], laidByText := true, laidKinds := [.data], laidTests := true, laidLooks := .later }
def PlaneHypothesesUptoCardSaid : Prop := Claim7.holds Tryz.pinned (.plain (OpenSpec.upto planeHypothesesSpec)) planeHypothesesUptoCard

/-- THE SECOND FORM's CARD OF 'geoproverlaw13.PlaneBranches'. -/
def planeBranchesUptoCard : Claim7 := { stood := { row := planeBranchesUptoRow, standIns := [], harness := (true, "8ba5fb55e3702ac72704c356c5dc1fccaaf53f7ebbf85952fb32dae42b57d2c3"), looks := false }, kinds := [], alts := [], laidByText := true, laidKinds := [.data], laidTests := true, laidLooks := .later }
def PlaneBranchesUptoCardSaid : Prop := Claim7.holds Tryz.pinned (.plain (OpenSpec.upto planeBranchesSpec)) planeBranchesUptoCard

/-- THE SECOND FORM's CARD OF 'geoproverlaw13.PlaneSimilar'. -/
def planeSimilarUptoCard : Claim7 := { stood := { row := planeSimilarUptoRow, standIns := [], harness := (true, "8ba5fb55e3702ac72704c356c5dc1fccaaf53f7ebbf85952fb32dae42b57d2c3"), looks := false }, kinds := [], alts := [], laidByText := true, laidKinds := [.data], laidTests := true, laidLooks := .later }
def PlaneSimilarUptoCardSaid : Prop := Claim7.holds Tryz.pinned (.plain (OpenSpec.upto planeSimilarSpec)) planeSimilarUptoCard

/-- THE SECOND FORM's CARD OF 'geoproverlaw14.PredicateValues'. -/
def predicateValuesUptoCard : Claim7 := { stood := { row := predicateValuesUptoRow, standIns := [], harness := (true, "8ba5fb55e3702ac72704c356c5dc1fccaaf53f7ebbf85952fb32dae42b57d2c3"), looks := false }, kinds := [], alts := [], laidByText := true, laidKinds := [.data], laidTests := true, laidLooks := .later }
def PredicateValuesUptoCardSaid : Prop := Claim7.holds Tryz.pinned (.plain (OpenSpec.upto predicateValuesSpec)) predicateValuesUptoCard

/-- THE SECOND FORM's CARD OF 'geoproverlaw14.PredicateSimilar'. -/
def predicateSimilarUptoCard : Claim7 := { stood := { row := predicateSimilarUptoRow, standIns := [], harness := (true, "8ba5fb55e3702ac72704c356c5dc1fccaaf53f7ebbf85952fb32dae42b57d2c3"), looks := false }, kinds := [], alts := [], laidByText := true, laidKinds := [.data], laidTests := true, laidLooks := .later }
def PredicateSimilarUptoCardSaid : Prop := Claim7.holds Tryz.pinned (.plain (OpenSpec.upto predicateSimilarSpec)) predicateSimilarUptoCard

/-- THE SECOND FORM's CARD OF 'geoproverlaw14.PredicateSymmetric'. -/
def predicateSymmetricUptoCard : Claim7 := { stood := { row := predicateSymmetricUptoRow, standIns := [], harness := (true, "8ba5fb55e3702ac72704c356c5dc1fccaaf53f7ebbf85952fb32dae42b57d2c3"), looks := false }, kinds := [], alts := [], laidByText := true, laidKinds := [.data], laidTests := true, laidLooks := .later }
def PredicateSymmetricUptoCardSaid : Prop := Claim7.holds Tryz.pinned (.plain (OpenSpec.upto predicateSymmetricSpec)) predicateSymmetricUptoCard

/-- THE SECOND FORM's CARD OF 'geoproverlaw14.PredicateMakes'. -/
def predicateMakesUptoCard : Claim7 := { stood := { row := predicateMakesUptoRow, standIns := [], harness := (true, "8ba5fb55e3702ac72704c356c5dc1fccaaf53f7ebbf85952fb32dae42b57d2c3"), looks := false }, kinds := [], alts := [], laidByText := true, laidKinds := [.data], laidTests := true, laidLooks := .later }
def PredicateMakesUptoCardSaid : Prop := Claim7.holds Tryz.pinned (.plain (OpenSpec.upto predicateMakesSpec)) predicateMakesUptoCard
end Rows
end Go.Proofs.YtgbfjneoieadmaaGreatDoor
