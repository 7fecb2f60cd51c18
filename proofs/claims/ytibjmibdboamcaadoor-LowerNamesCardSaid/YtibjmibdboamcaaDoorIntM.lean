/-
  Contract of integer.Mul.
-/
import Derived.Test.YtibjmibdboamcaaDoorIntA
import Derived.Deep.RegionWith
import Derived.Deep.RegionHeld3
set_option linter.unusedVariables false
set_option linter.unusedSimpArgs false
namespace Go.Proofs.YtibjmibdboamcaaDoor
open Go.RowKit Nm



end Go.Proofs.YtibjmibdboamcaaDoor
