/-
  Contract of integer.Mul.
-/
import Derived.Test.YtdnafpdaoancbaaDoorIntA
import Derived.Deep.RegionWith
import Derived.Deep.RegionHeld3
set_option linter.unusedVariables false
set_option linter.unusedSimpArgs false
namespace Go.Proofs.YtdnafpdaoancbaaDoor
open Go.RowKit Nm



end Go.Proofs.YtdnafpdaoancbaaDoor
