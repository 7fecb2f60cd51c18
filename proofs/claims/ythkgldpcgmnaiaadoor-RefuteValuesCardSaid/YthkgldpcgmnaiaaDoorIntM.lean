/-
  Contract of integer.Mul.
-/
import Derived.Test.YthkgldpcgmnaiaaDoorIntA
import Derived.Deep.RegionWith
import Derived.Deep.RegionHeld3
set_option linter.unusedVariables false
set_option linter.unusedSimpArgs false
namespace Go.Proofs.YthkgldpcgmnaiaaDoor
open Go.RowKit Nm



end Go.Proofs.YthkgldpcgmnaiaaDoor
