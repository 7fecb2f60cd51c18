/-
  NARROWER THAN 'FOR EVERY INPUT', by the rows' own cells (each row's printed sentence says how): PlaneVectors: laid · PlanePoints: laid · PlaneLines: laid · PlaneCircles: laid · PlaneRoots: laid · PlaneHypotheses: laid · PlaneBranches: laid · PlaneSimilar: laid · PredicateValues: laid · PredicateSimilar: laid · PredicateSymmetric: laid · PredicateMakes: laid.
  DERIVED. THE GIVEN ROWS OF THIS SEAT. 12 by the template 'for every input the law returns true; each argument reads behind the call as it read before'; 0 by the template 'total and deterministic' (their statements: YtgbfjneoieadmaaGreatDoorTotals.lean).
  GIVEN WITH THE SEED: the statements are not yours to turn. If you find one false, say at which input.
  Laid BY PROGRAM, IN A SANDBOX (cutbox-rows.mjs): the forced cells as the released guide's own fill.sh prints them over the translation f5b18986eda4dec1… (all of the seat's roots in one cut). By AI agents, Wed Nov 11 2026. No macro, syntax, notation, axiom, sorry.
-/
import Derived.Test.YtgbfjneoieadmaaGreatDoorChecked
import GoSem.Claim
import GoSem.ClaimJoined
import GoSem.ClaimMapViews
import Derived.JoinedTies
import Derived.KernelRfl
namespace Go.Proofs.YtgbfjneoieadmaaGreatDoor
/- THE CELL 'sum', in the pinned program and in every row, IS THE sha256 OF THE DUMP (.gsa) THAT YtgbfjneoieadmaaGreatDoorProg.lean LOADS. Nothing in Lean hashes anything: it is a label: what it is worth is what the hold of that sum in a sandbox is worth. -/
noncomputable def Tryz.pinned : Pinned := { name := "ytgbfjneoieadmaagreatdoor", sum := "f5b18986eda4dec1c95455048c1beef7ece6181b69f1a27ec3d0709af8208d9d", checked := Tryz.checked }
namespace Rows
def none {H : Type} : Left H := { results := [], args := [] }

/- WHAT THE LISTED PACKAGE-LEVEL VARIABLES READ AS WHEN THE CALL BEGINS. Each datum BY PROGRAM (the guide's laid-datum.mjs) off the statement by which the dump's own 'gosem.cut.vars' lays the variable. In a bare row this is a premise. The card (YtgbfjneoieadmaaGreatDoorCards.lean) ties it to the program's text. -/
def laid_math_bits_deBruijn64tab {H : Type} : DataW H := .agg [.lit (.int .u8 0), .lit (.int .u8 1), .lit (.int .u8 56), .lit (.int .u8 2), .lit (.int .u8 57), .lit (.int .u8 49), .lit (.int .u8 28), .lit (.int .u8 3), .lit (.int .u8 61), .lit (.int .u8 58), .lit (.int .u8 42), .lit (.int .u8 50), .lit (.int .u8 38), .lit (.int .u8 29), .lit (.int .u8 17), .lit (.int .u8 4), .lit (.int .u8 62), .lit (.int .u8 47), .lit (.int .u8 59), .lit (.int .u8 36), .lit (.int .u8 45), .lit (.int .u8 43), .lit (.int .u8 51), .lit (.int .u8 22), .lit (.int .u8 53), .lit (.int .u8 39), .lit (.int .u8 33), .lit (.int .u8 30), .lit (.int .u8 24), .lit (.int .u8 18), .lit (.int .u8 12), .lit (.int .u8 5), .lit (.int .u8 63), .lit (.int .u8 55), .lit (.int .u8 48), .lit (.int .u8 27), .lit (.int .u8 60), .lit (.int .u8 41), .lit (.int .u8 37), .lit (.int .u8 16), .lit (.int .u8 46), .lit (.int .u8 35), .lit (.int .u8 44), .lit (.int .u8 21), .lit (.int .u8 52), .lit (.int .u8 32), .lit (.int .u8 23), .lit (.int .u8 11), .lit (.int .u8 54), .lit (.int .u8 26), .lit (.int .u8 40), .lit (.int .u8 15), .lit (.int .u8 34), .lit (.int .u8 20), .lit (.int .u8 31), .lit (.int .u8 10), .lit (.int .u8 25), .lit (.int .u8 14), .lit (.int .u8 19), .lit (.int .u8 9), .lit (.int .u8 13), .lit (.int .u8 8), .lit (.int .u8 7), .lit (.int .u8 6)]

/-- 'geoproverlaw13.PlaneVectors': WHATEVER THE INPUT: true; the input reads as it did. -/
def planeVectorsSpec : ChangeSpec := { name := "planeVectors", fn := fun _ => fun
  | [d] => { results := [.lit (.bool true)], args := [d] }
  | _ => none }
def planeVectorsRow : OpenClaim := { program := "ytgbfjneoieadmaagreatdoor", sum := "f5b18986eda4dec1c95455048c1beef7ece6181b69f1a27ec3d0709af8208d9d", func := "geoprover/geoproverlaw13.PlaneVectors", spec := "planeVectors", inPlace := ["math/bits.Add64", "math/bits.Sub64"], unfollowed := true, recurses := true, named := ["math/bits.deBruijn64tab", "math/bits.divideError", "math/bits.overflowError"], apart := false, laid := [("math/bits.deBruijn64tab", laid_math_bits_deBruijn64tab)] }
def PlaneVectorsSaid : Prop := planeVectorsRow.holds Tryz.pinned (OpenSpec.ofChange planeVectorsSpec)

/-- ITS FALSE NEIGHBOUR: 'it returns false'. Refute it at one input. -/
def planeVectorsWrong : ChangeSpec := { name := "planeVectors", fn := fun _ => fun
  | [d] => { results := [.lit (.bool false)], args := [d] }
  | _ => none }
def PlaneVectorsWrongFalsely : Prop := planeVectorsRow.holds Tryz.pinned (OpenSpec.ofChange planeVectorsWrong)

/-- 'geoproverlaw13.PlanePoints': WHATEVER THE INPUT: true; the input reads as it did. -/
def planePointsSpec : ChangeSpec := { name := "planePoints", fn := fun _ => fun
  | [d] => { results := [.lit (.bool true)], args := [d] }
  | _ => none }
def planePointsRow : OpenClaim := { program := "ytgbfjneoieadmaagreatdoor", sum := "f5b18986eda4dec1c95455048c1beef7ece6181b69f1a27ec3d0709af8208d9d", func := "geoprover/geoproverlaw13.PlanePoints", spec := "planePoints", inPlace := ["math/bits.Add64", "math/bits.Sub64"], unfollowed := true, recurses := true, named := ["math/bits.deBruijn64tab", "math/bits.divideError", "math/bits.overflowError"], apart := false, laid := [("math/bits.deBruijn64tab", laid_math_bits_deBruijn64tab)] }
def PlanePointsSaid : Prop := planePointsRow.holds Tryz.pinned (OpenSpec.ofChange planePointsSpec)

/-- ITS FALSE NEIGHBOUR: 'it returns false'. Refute it at one input. -/
def planePointsWrong : ChangeSpec := { name := "planePoints", fn := fun _ => fun
  | [d] => { results := [.lit (.bool false)], args := [d] }
  | _ => none }
def PlanePointsWrongFalsely : Prop := planePointsRow.holds Tryz.pinned (OpenSpec.ofChange planePointsWrong)

/-- 'geoproverlaw13.PlaneLines': WHATEVER THE INPUT: true; the input reads as it did. -/
def planeLinesSpec : ChangeSpec := { name := "planeLines", fn := fun _ => fun
  | [d] => { results := [.lit (.bool true)], args := [d] }
  | _ => none }
def planeLinesRow : OpenClaim := { program := "ytgbfjneoieadmaagreatdoor", sum := "f5b18986eda4dec1c95455048c1beef7ece6181b69f1a27ec3d0709af8208d9d", func := "geoprover/geoproverlaw13.PlaneLines", spec := "planeLines", inPlace := ["math/bits.Add64", "math/bits.Sub64"], unfollowed := true, recurses := true, named := ["math/bits.deBruijn64tab", "math/bits.divideError", "math/bits.overflowError"], apart := false, laid := [("math/bits.deBruijn64tab", laid_math_bits_deBruijn64tab)] }
def PlaneLinesSaid : Prop := planeLinesRow.holds Tryz.pinned (OpenSpec.ofChange planeLinesSpec)

/-- ITS FALSE NEIGHBOUR: 'it returns false'. Refute it at one input. -/
def planeLinesWrong : ChangeSpec := { name := "planeLines", fn := fun _ => fun
  | [d] => { results := [.lit (.bool false)], args := [d] }
  | _ => none }
def PlaneLinesWrongFalsely : Prop := planeLinesRow.holds Tryz.pinned (OpenSpec.ofChange planeLinesWrong)

/-- 'geoproverlaw13.PlaneCircles': WHATEVER THE INPUT: true; the input reads as it did. -/
def planeCirclesSpec : ChangeSpec := { name := "planeCircles", fn := fun _ => fun
  | [d] => { results := [.lit (.bool true)], args := [d] }
  | _ => none }
def planeCirclesRow : OpenClaim := { program := "ytgbfjneoieadmaagreatdoor", sum := "f5b18986eda4dec1c95455048c1beef7ece6181b69f1a27ec3d0709af8208d9d", func := "geoprover/geoproverlaw13.PlaneCircles", spec := "planeCircles", inPlace := ["math/bits.Add64", "math/bits.Sub64"], unfollowed := true, recurses := true, named := ["math/bits.deBruijn64tab", "math/bits.divideError", "math/bits.overflowError"], apart := false, laid := [("math/bits.deBruijn64tab", laid_math_bits_deBruijn64tab)] }
def PlaneCirclesSaid : Prop := planeCirclesRow.holds Tryz.pinned (OpenSpec.ofChange planeCirclesSpec)

/-- ITS FALSE NEIGHBOUR: 'it returns false'. Refute it at one input. -/
def planeCirclesWrong : ChangeSpec := { name := "planeCircles", fn := fun _ => fun
  | [d] => { results := [.lit (.bool false)], args := [d] }
  | _ => none }
def PlaneCirclesWrongFalsely : Prop := planeCirclesRow.holds Tryz.pinned (OpenSpec.ofChange planeCirclesWrong)

/-- 'geoproverlaw13.PlaneRoots': WHATEVER THE INPUT: true; the input reads as it did. -/
def planeRootsSpec : ChangeSpec := { name := "planeRoots", fn := fun _ => fun
  | [d] => { results := [.lit (.bool true)], args := [d] }
  | _ => none }
def planeRootsRow : OpenClaim := { program := "ytgbfjneoieadmaagreatdoor", sum := "f5b18986eda4dec1c95455048c1beef7ece6181b69f1a27ec3d0709af8208d9d", func := "geoprover/geoproverlaw13.PlaneRoots", spec := "planeRoots", inPlace := ["math/bits.Add64", "math/bits.Sub64"], unfollowed := true, recurses := true, named := ["math/bits.deBruijn64tab", "math/bits.divideError", "math/bits.overflowError"], apart := false, laid := [("math/bits.deBruijn64tab", laid_math_bits_deBruijn64tab)] }
def PlaneRootsSaid : Prop := planeRootsRow.holds Tryz.pinned (OpenSpec.ofChange planeRootsSpec)

/-- ITS FALSE NEIGHBOUR: 'it returns false'. Refute it at one input. -/
def planeRootsWrong : ChangeSpec := { name := "planeRoots", fn := fun _ => fun
  | [d] => { results := [.lit (.bool false)], args := [d] }
  | _ => none }
def PlaneRootsWrongFalsely : Prop := planeRootsRow.holds Tryz.pinned (OpenSpec.ofChange planeRootsWrong)

/-- 'geoproverlaw13.PlaneHypotheses': WHATEVER THE INPUT: true; the input reads as it did. -/
def planeHypothesesSpec : ChangeSpec := { name := "planeHypotheses", fn := fun _ => fun
  | [d] => { results := [.lit (.bool true)], args := [d] }
  | _ => none }
def planeHypothesesRow : OpenClaim := { program := "ytgbfjneoieadmaagreatdoor", sum := "f5b18986eda4dec1c95455048c1beef7ece6181b69f1a27ec3d0709af8208d9d", func := "geoprover/geoproverlaw13.PlaneHypotheses", spec := "planeHypotheses", inPlace := ["math/bits.Add64", "math/bits.Sub64"], unfollowed := true, recurses := true, named := ["math/bits.deBruijn64tab", "math/bits.divideError", "math/bits.overflowError"], apart := false, laid := [("math/bits.deBruijn64tab", laid_math_bits_deBruijn64tab)] }
def PlaneHypothesesSaid : Prop := planeHypothesesRow.holds Tryz.pinned (OpenSpec.ofChange planeHypothesesSpec)

/-- ITS FALSE NEIGHBOUR: 'it returns false'. Refute it at one input. -/
def planeHypothesesWrong : ChangeSpec := { name := "planeHypotheses", fn := fun _ => fun
  | [d] => { results := [.lit (.bool false)], args := [d] }
  | _ => none }
def PlaneHypothesesWrongFalsely : Prop := planeHypothesesRow.holds Tryz.pinned (OpenSpec.ofChange planeHypothesesWrong)

/-- 'geoproverlaw13.PlaneBranches': WHATEVER THE INPUT: true; the input reads as it did. -/
def planeBranchesSpec : ChangeSpec := { name := "planeBranches", fn := fun _ => fun
  | [d] => { results := [.lit (.bool true)], args := [d] }
  | _ => none }
def planeBranchesRow : OpenClaim := { program := "ytgbfjneoieadmaagreatdoor", sum := "f5b18986eda4dec1c95455048c1beef7ece6181b69f1a27ec3d0709af8208d9d", func := "geoprover/geoproverlaw13.PlaneBranches", spec := "planeBranches", inPlace := ["math/bits.Add64", "math/bits.Sub64"], unfollowed := true, recurses := true, named := ["math/bits.deBruijn64tab", "math/bits.divideError", "math/bits.overflowError"], apart := false, laid := [("math/bits.deBruijn64tab", laid_math_bits_deBruijn64tab)] }
def PlaneBranchesSaid : Prop := planeBranchesRow.holds Tryz.pinned (OpenSpec.ofChange planeBranchesSpec)

/-- ITS FALSE NEIGHBOUR: 'it returns false'. Refute it at one input. -/
def planeBranchesWrong : ChangeSpec := { name := "planeBranches", fn := fun _ => fun
  | [d] => { results := [.lit (.bool false)], args := [d] }
  | _ => none }
def PlaneBranchesWrongFalsely : Prop := planeBranchesRow.holds Tryz.pinned (OpenSpec.ofChange planeBranchesWrong)

/-- 'geoproverlaw13.PlaneSimilar': WHATEVER THE INPUT: true; the input reads as it did. -/
def planeSimilarSpec : ChangeSpec := { name := "planeSimilar", fn := fun _ => fun
  | [d] => { results := [.lit (.bool true)], args := [d] }
  | _ => none }
def planeSimilarRow : OpenClaim := { program := "ytgbfjneoieadmaagreatdoor", sum := "f5b18986eda4dec1c95455048c1beef7ece6181b69f1a27ec3d0709af8208d9d", func := "geoprover/geoproverlaw13.PlaneSimilar", spec := "planeSimilar", inPlace := ["math/bits.Add64", "math/bits.Sub64"], unfollowed := true, recurses := true, named := ["math/bits.deBruijn64tab", "math/bits.divideError", "math/bits.overflowError"], apart := false, laid := [("math/bits.deBruijn64tab", laid_math_bits_deBruijn64tab)] }
def PlaneSimilarSaid : Prop := planeSimilarRow.holds Tryz.pinned (OpenSpec.ofChange planeSimilarSpec)

/-- ITS FALSE NEIGHBOUR: 'it returns false'. Refute it at one input. -/
def planeSimilarWrong : ChangeSpec := { name := "planeSimilar", fn := fun _ => fun
  | [d] => { results := [.lit (.bool false)], args := [d] }
  | _ => none }
def PlaneSimilarWrongFalsely : Prop := planeSimilarRow.holds Tryz.pinned (OpenSpec.ofChange planeSimilarWrong)

/-- 'geoproverlaw14.PredicateValues': WHATEVER THE INPUT: true; the input reads as it did. -/
def predicateValuesSpec : ChangeSpec := { name := "predicateValues", fn := fun _ => fun
  | [d1, d2] => { results := [.lit (.bool true)], args := [d1, d2] }
  | _ => none }
def predicateValuesRow : OpenClaim := { program := "ytgbfjneoieadmaagreatdoor", sum := "f5b18986eda4dec1c95455048c1beef7ece6181b69f1a27ec3d0709af8208d9d", func := "geoprover/geoproverlaw14.PredicateValues", spec := "predicateValues", inPlace := ["math/bits.Add64", "math/bits.Sub64"], unfollowed := true, recurses := true, named := ["math/bits.deBruijn64tab", "math/bits.divideError", "math/bits.overflowError"], apart := false, laid := [("math/bits.deBruijn64tab", laid_math_bits_deBruijn64tab)] }
def PredicateValuesSaid : Prop := predicateValuesRow.holds Tryz.pinned (OpenSpec.ofChange predicateValuesSpec)

/-- ITS FALSE NEIGHBOUR: 'it returns false'. Refute it at one input. -/
def predicateValuesWrong : ChangeSpec := { name := "predicateValues", fn := fun _ => fun
  | [d1, d2] => { results := [.lit (.bool false)], args := [d1, d2] }
  | _ => none }
def PredicateValuesWrongFalsely : Prop := predicateValuesRow.holds Tryz.pinned (OpenSpec.ofChange predicateValuesWrong)

/-- 'geoproverlaw14.PredicateSimilar': WHATEVER THE INPUT: true; the input reads as it did. -/
def predicateSimilarSpec : ChangeSpec := { name := "predicateSimilar", fn := fun _ => fun
  | [d1, d2, d3] => { results := [.lit (.bool true)], args := [d1, d2, d3] }
  | _ => none }
def predicateSimilarRow : OpenClaim := { program := "ytgbfjneoieadmaagreatdoor", sum := "f5b18986eda4dec1c95455048c1beef7ece6181b69f1a27ec3d0709af8208d9d", func := "geoprover/geoproverlaw14.PredicateSimilar", spec := "predicateSimilar", inPlace := ["math/bits.Add64", "math/bits.Sub64"], unfollowed := true, recurses := true, named := ["math/bits.deBruijn64tab", "math/bits.divideError", "math/bits.overflowError"], apart := false, laid := [("math/bits.deBruijn64tab", laid_math_bits_deBruijn64tab)] }
def PredicateSimilarSaid : Prop := predicateSimilarRow.holds Tryz.pinned (OpenSpec.ofChange predicateSimilarSpec)

/-- ITS FALSE NEIGHBOUR: 'it returns false'. Refute it at one input. -/
def predicateSimilarWrong : ChangeSpec := { name := "predicateSimilar", fn := fun _ => fun
  | [d1, d2, d3] => { results := [.lit (.bool false)], args := [d1, d2, d3] }
  | _ => none }
def PredicateSimilarWrongFalsely : Prop := predicateSimilarRow.holds Tryz.pinned (OpenSpec.ofChange predicateSimilarWrong)

/-- 'geoproverlaw14.PredicateSymmetric': WHATEVER THE INPUT: true; the input reads as it did. -/
def predicateSymmetricSpec : ChangeSpec := { name := "predicateSymmetric", fn := fun _ => fun
  | [d] => { results := [.lit (.bool true)], args := [d] }
  | _ => none }
def predicateSymmetricRow : OpenClaim := { program := "ytgbfjneoieadmaagreatdoor", sum := "f5b18986eda4dec1c95455048c1beef7ece6181b69f1a27ec3d0709af8208d9d", func := "geoprover/geoproverlaw14.PredicateSymmetric", spec := "predicateSymmetric", inPlace := ["math/bits.Add64", "math/bits.Sub64"], unfollowed := true, recurses := true, named := ["math/bits.deBruijn64tab", "math/bits.divideError", "math/bits.overflowError"], apart := false, laid := [("math/bits.deBruijn64tab", laid_math_bits_deBruijn64tab)] }
def PredicateSymmetricSaid : Prop := predicateSymmetricRow.holds Tryz.pinned (OpenSpec.ofChange predicateSymmetricSpec)

/-- ITS FALSE NEIGHBOUR: 'it returns false'. Refute it at one input. -/
def predicateSymmetricWrong : ChangeSpec := { name := "predicateSymmetric", fn := fun _ => fun
  | [d] => { results := [.lit (.bool false)], args := [d] }
  | _ => none }
def PredicateSymmetricWrongFalsely : Prop := predicateSymmetricRow.holds Tryz.pinned (OpenSpec.ofChange predicateSymmetricWrong)

/-- 'geoproverlaw14.PredicateMakes': WHATEVER THE INPUT: true; the input reads as it did. -/
def predicateMakesSpec : ChangeSpec := { name := "predicateMakes", fn := fun _ => fun
  | [d1, d2] => { results := [.lit (.bool true)], args := [d1, d2] }
  | _ => none }
def predicateMakesRow : OpenClaim := { program := "ytgbfjneoieadmaagreatdoor", sum := "f5b18986eda4dec1c95455048c1beef7ece6181b69f1a27ec3d0709af8208d9d", func := "geoprover/geoproverlaw14.PredicateMakes", spec := "predicateMakes", inPlace := ["math/bits.Add64", "math/bits.Sub64"], unfollowed := true, recurses := true, named := ["math/bits.deBruijn64tab", "math/bits.divideError", "math/bits.overflowError"], apart := false, laid := [("math/bits.deBruijn64tab", laid_math_bits_deBruijn64tab)] }
def PredicateMakesSaid : Prop := predicateMakesRow.holds Tryz.pinned (OpenSpec.ofChange predicateMakesSpec)

/-- ITS FALSE NEIGHBOUR: 'it returns false'. Refute it at one input. -/
def predicateMakesWrong : ChangeSpec := { name := "predicateMakes", fn := fun _ => fun
  | [d1, d2] => { results := [.lit (.bool false)], args := [d1, d2] }
  | _ => none }
def PredicateMakesWrongFalsely : Prop := predicateMakesRow.holds Tryz.pinned (OpenSpec.ofChange predicateMakesWrong)

/- THE SECOND FORM. 'bulk': how many values and letters a reading holds, each counted each time it is reached (what is shared counts as often as it is met; a slice's spare places count too). A statement '..UptoSaid' is the law's where the arguments, and the package variables that the reading takes, are together of bulk at most 1048576: NARROWER than '..Said'. Prove '..Said' where nothing that the law and all that it calls make is longer than what came in: it says more and counts as full. Else prove '..UptoSaid'. A law counts once. -/
mutual
def uptoBulk {H : Type} : DataW H → Nat
  | .lit (.string bytes) => bytes.length + 1
  | .lit _ => 1
  | .nil => 1
  | .ptr d => uptoBulk d + 1
  | .slice elems spare => uptoBulkAll elems + uptoBulkAll spare + 1
  | .agg parts => uptoBulkAll parts + 1
  | .iface _ d => uptoBulk d + 1
  | .map entries => uptoBulkEntries entries + 1
  | .held _ => 1
def uptoBulkAll {H : Type} : List (DataW H) → Nat
  | [] => 0
  | d :: r => uptoBulk d + uptoBulkAll r
def uptoBulkEntries {H : Type} : List (Lit × DataW H) → Nat
  | [] => 0
  | x :: r => uptoBulkEntry x + uptoBulkEntries r
def uptoBulkEntry {H : Type} : Lit × DataW H → Nat
  | (.string bytes, d) => bytes.length + uptoBulk d + 1
  | (_, d) => uptoBulk d + 1
 end
def uptoSmall : (H : Type) → List (DataW H) → Bool := fun _ ds => decide (uptoBulkAll ds ≤ 1048576)
def OpenSpec.upto (s : _root_.Go.ChangeSpec) : _root_.Go.OpenSpec := { _root_.Go.OpenSpec.ofChange s with cond := some uptoSmall }

/-- 'geoproverlaw13.PlaneVectors', WHERE WHAT IT READS IS OF BULK AT MOST 1048576: true; the input reads as it did. -/
def planeVectorsUptoRow : OpenClaim := { program := "ytgbfjneoieadmaagreatdoor", sum := "f5b18986eda4dec1c95455048c1beef7ece6181b69f1a27ec3d0709af8208d9d", func := "geoprover/geoproverlaw13.PlaneVectors", spec := "planeVectors", inPlace := ["math/bits.Add64", "math/bits.Sub64"], unfollowed := true, recurses := true, named := ["math/bits.deBruijn64tab", "math/bits.divideError", "math/bits.overflowError"], apart := false, laid := [("math/bits.deBruijn64tab", laid_math_bits_deBruijn64tab)], narrowed := true }
def PlaneVectorsUptoSaid : Prop := planeVectorsUptoRow.holds Tryz.pinned (OpenSpec.upto planeVectorsSpec)

/-- 'geoproverlaw13.PlanePoints', WHERE WHAT IT READS IS OF BULK AT MOST 1048576: true; the input reads as it did. -/
def planePointsUptoRow : OpenClaim := { program := "ytgbfjneoieadmaagreatdoor", sum := "f5b18986eda4dec1c95455048c1beef7ece6181b69f1a27ec3d0709af8208d9d", func := "geoprover/geoproverlaw13.PlanePoints", spec := "planePoints", inPlace := ["math/bits.Add64", "math/bits.Sub64"], unfollowed := true, recurses := true, named := ["math/bits.deBruijn64tab", "math/bits.divideError", "math/bits.overflowError"], apart := false, laid := [("math/bits.deBruijn64tab", laid_math_bits_deBruijn64tab)], narrowed := true }
def PlanePointsUptoSaid : Prop := planePointsUptoRow.holds Tryz.pinned (OpenSpec.upto planePointsSpec)

/-- 'geoproverlaw13.PlaneLines', WHERE WHAT IT READS IS OF BULK AT MOST 1048576: true; the input reads as it did. -/
def planeLinesUptoRow : OpenClaim := { program := "ytgbfjneoieadmaagreatdoor", sum := "f5b18986eda4dec1c95455048c1beef7ece6181b69f1a27ec3d0709af8208d9d", func := "geoprover/geoproverlaw13.PlaneLines", spec := "planeLines", inPlace := ["math/bits.Add64", "math/bits.Sub64"], unfollowed := true, recurses := true, named := ["math/bits.deBruijn64tab", "math/bits.divideError", "math/bits.overflowError"], apart := false, laid := [("math/bits.deBruijn64tab", laid_math_bits_deBruijn64tab)], narrowed := true }
def PlaneLinesUptoSaid : Prop := planeLinesUptoRow.holds Tryz.pinned (OpenSpec.upto planeLinesSpec)

/-- 'geoproverlaw13.PlaneCircles', WHERE WHAT IT READS IS OF BULK AT MOST 1048576: true; the input reads as it did. -/
def planeCirclesUptoRow : OpenClaim := { program := "ytgbfjneoieadmaagreatdoor", sum := "f5b18986eda4dec1c95455048c1beef7ece6181b69f1a27ec3d0709af8208d9d", func := "geoprover/geoproverlaw13.PlaneCircles", spec := "planeCircles", inPlace := ["math/bits.Add64", "math/bits.Sub64"], unfollowed := true, recurses := true, named := ["math/bits.deBruijn64tab", "math/bits.divideError", "math/bits.overflowError"], apart := false, laid := [("math/bits.deBruijn64tab", laid_math_bits_deBruijn64tab)], narrowed := true }
def PlaneCirclesUptoSaid : Prop := planeCirclesUptoRow.holds Tryz.pinned (OpenSpec.upto planeCirclesSpec)

/-- 'geoproverlaw13.PlaneRoots', WHERE WHAT IT READS IS OF BULK AT MOST 1048576: true; the input reads as it did. -/
def planeRootsUptoRow : OpenClaim := { program := "ytgbfjneoieadmaagreatdoor", sum := "f5b18986eda4dec1c95455048c1beef7ece6181b69f1a27ec3d0709af8208d9d", func := "geoprover/geoproverlaw13.PlaneRoots", spec := "planeRoots", inPlace := ["math/bits.Add64", "math/bits.Sub64"], unfollowed := true, recurses := true, named := ["math/bits.deBruijn64tab", "math/bits.divideError", "math/bits.overflowError"], apart := false, laid := [("math/bits.deBruijn64tab", laid_math_bits_deBruijn64tab)], narrowed := true }
def PlaneRootsUptoSaid : Prop := planeRootsUptoRow.holds Tryz.pinned (OpenSpec.upto planeRootsSpec)

/-- 'geoproverlaw13.PlaneHypotheses', WHERE WHAT IT READS IS OF BULK AT MOST 1048576: true; the input reads as it did. -/
def planeHypothesesUptoRow : OpenClaim := { program := "ytgbfjneoieadmaagreatdoor", sum := "f5b18986eda4dec1c95455048c1beef7ece6181b69f1a27ec3d0709af8208d9d", func := "geoprover/geoproverlaw13.PlaneHypotheses", spec := "planeHypotheses", inPlace := ["math/bits.Add64", "math/bits.Sub64"], unfollowed := true, recurses := true, named := ["math/bits.deBruijn64tab", "math/bits.divideError", "math/bits.overflowError"], apart := false, laid := [("math/bits.deBruijn64tab", laid_math_bits_deBruijn64tab)], narrowed := true }
def PlaneHypothesesUptoSaid : Prop := planeHypothesesUptoRow.holds Tryz.pinned (OpenSpec.upto planeHypothesesSpec)

/-- 'geoproverlaw13.PlaneBranches', WHERE WHAT IT READS IS OF BULK AT MOST 1048576: true; the input reads as it did. -/
def planeBranchesUptoRow : OpenClaim := { program := "ytgbfjneoieadmaagreatdoor", sum := "f5b18986eda4dec1c95455048c1beef7ece6181b69f1a27ec3d0709af8208d9d", func := "geoprover/geoproverlaw13.PlaneBranches", spec := "planeBranches", inPlace := ["math/bits.Add64", "math/bits.Sub64"], unfollowed := true, recurses := true, named := ["math/bits.deBruijn64tab", "math/bits.divideError", "math/bits.overflowError"], apart := false, laid := [("math/bits.deBruijn64tab", laid_math_bits_deBruijn64tab)], narrowed := true }
def PlaneBranchesUptoSaid : Prop := planeBranchesUptoRow.holds Tryz.pinned (OpenSpec.upto planeBranchesSpec)

/-- 'geoproverlaw13.PlaneSimilar', WHERE WHAT IT READS IS OF BULK AT MOST 1048576: true; the input reads as it did. -/
def planeSimilarUptoRow : OpenClaim := { program := "ytgbfjneoieadmaagreatdoor", sum := "f5b18986eda4dec1c95455048c1beef7ece6181b69f1a27ec3d0709af8208d9d", func := "geoprover/geoproverlaw13.PlaneSimilar", spec := "planeSimilar", inPlace := ["math/bits.Add64", "math/bits.Sub64"], unfollowed := true, recurses := true, named := ["math/bits.deBruijn64tab", "math/bits.divideError", "math/bits.overflowError"], apart := false, laid := [("math/bits.deBruijn64tab", laid_math_bits_deBruijn64tab)], narrowed := true }
def PlaneSimilarUptoSaid : Prop := planeSimilarUptoRow.holds Tryz.pinned (OpenSpec.upto planeSimilarSpec)

/-- 'geoproverlaw14.PredicateValues', WHERE WHAT IT READS IS OF BULK AT MOST 1048576: true; the input reads as it did. -/
def predicateValuesUptoRow : OpenClaim := { program := "ytgbfjneoieadmaagreatdoor", sum := "f5b18986eda4dec1c95455048c1beef7ece6181b69f1a27ec3d0709af8208d9d", func := "geoprover/geoproverlaw14.PredicateValues", spec := "predicateValues", inPlace := ["math/bits.Add64", "math/bits.Sub64"], unfollowed := true, recurses := true, named := ["math/bits.deBruijn64tab", "math/bits.divideError", "math/bits.overflowError"], apart := false, laid := [("math/bits.deBruijn64tab", laid_math_bits_deBruijn64tab)], narrowed := true }
def PredicateValuesUptoSaid : Prop := predicateValuesUptoRow.holds Tryz.pinned (OpenSpec.upto predicateValuesSpec)

/-- 'geoproverlaw14.PredicateSimilar', WHERE WHAT IT READS IS OF BULK AT MOST 1048576: true; the input reads as it did. -/
def predicateSimilarUptoRow : OpenClaim := { program := "ytgbfjneoieadmaagreatdoor", sum := "f5b18986eda4dec1c95455048c1beef7ece6181b69f1a27ec3d0709af8208d9d", func := "geoprover/geoproverlaw14.PredicateSimilar", spec := "predicateSimilar", inPlace := ["math/bits.Add64", "math/bits.Sub64"], unfollowed := true, recurses := true, named := ["math/bits.deBruijn64tab", "math/bits.divideError", "math/bits.overflowError"], apart := false, laid := [("math/bits.deBruijn64tab", laid_math_bits_deBruijn64tab)], narrowed := true }
def PredicateSimilarUptoSaid : Prop := predicateSimilarUptoRow.holds Tryz.pinned (OpenSpec.upto predicateSimilarSpec)

/-- 'geoproverlaw14.PredicateSymmetric', WHERE WHAT IT READS IS OF BULK AT MOST 1048576: true; the input reads as it did. -/
def predicateSymmetricUptoRow : OpenClaim := { program := "ytgbfjneoieadmaagreatdoor", sum := "f5b18986eda4dec1c95455048c1beef7ece6181b69f1a27ec3d0709af8208d9d", func := "geoprover/geoproverlaw14.PredicateSymmetric", spec := "predicateSymmetric", inPlace := ["math/bits.Add64", "math/bits.Sub64"], unfollowed := true, recurses := true, named := ["math/bits.deBruijn64tab", "math/bits.divideError", "math/bits.overflowError"], apart := false, laid := [("math/bits.deBruijn64tab", laid_math_bits_deBruijn64tab)], narrowed := true }
def PredicateSymmetricUptoSaid : Prop := predicateSymmetricUptoRow.holds Tryz.pinned (OpenSpec.upto predicateSymmetricSpec)

/-- 'geoproverlaw14.PredicateMakes', WHERE WHAT IT READS IS OF BULK AT MOST 1048576: true; the input reads as it did. -/
def predicateMakesUptoRow : OpenClaim := { program := "ytgbfjneoieadmaagreatdoor", sum := "f5b18986eda4dec1c95455048c1beef7ece6181b69f1a27ec3d0709af8208d9d", func := "geoprover/geoproverlaw14.PredicateMakes", spec := "predicateMakes", inPlace := ["math/bits.Add64", "math/bits.Sub64"], unfollowed := true, recurses := true, named := ["math/bits.deBruijn64tab", "math/bits.divideError", "math/bits.overflowError"], apart := false, laid := [("math/bits.deBruijn64tab", laid_math_bits_deBruijn64tab)], narrowed := true }
def PredicateMakesUptoSaid : Prop := predicateMakesUptoRow.holds Tryz.pinned (OpenSpec.upto predicateMakesSpec)

end Rows
end Go.Proofs.YtgbfjneoieadmaaGreatDoor
