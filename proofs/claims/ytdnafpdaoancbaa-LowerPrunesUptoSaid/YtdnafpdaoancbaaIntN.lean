/-
  Contracts of integer.Norm and Neg.
-/
import Derived.Test.YtdnafpdaoancbaaIntA
import Derived.Deep.RegionWith
set_option linter.unusedVariables false
set_option linter.unusedSimpArgs false
namespace Go.Proofs.Ytdnafpdaoancbaa
open Go.RowKit Nm



end Go.Proofs.Ytdnafpdaoancbaa
