/-
  Contracts of integer.Cmp, Right (of valid numbers) and of Same over integers.
-/
import Derived.Test.YthkgldpcgmnaiaaDoorIntA
import Derived.Deep.RegionHeld3
set_option linter.unusedVariables false
set_option linter.unusedSimpArgs false
namespace Go.Proofs.YthkgldpcgmnaiaaDoor
open Go.RowKit Nm



theorem cmpI_bound (x y : Int) : -1 ≤ cmpI x y ∧ cmpI x y ≤ 1 := by unfold cmpI; split <;> (try split) <;> omega




end Go.Proofs.YthkgldpcgmnaiaaDoor
