/-
  Contracts of integer.Norm and Neg.
-/
import Derived.Test.YtdnafpdaoancbaaDoorIntA
import Derived.Deep.RegionWith
set_option linter.unusedVariables false
set_option linter.unusedSimpArgs false
namespace Go.Proofs.YtdnafpdaoancbaaDoor
open Go.RowKit Nm



end Go.Proofs.YtdnafpdaoancbaaDoor
