/-
  Contracts of integer.Norm and Neg.
-/
import Derived.Test.YtdmlcddieadelaaIntA
import Derived.Deep.RegionWith
set_option linter.unusedVariables false
set_option linter.unusedSimpArgs false
namespace Go.Proofs.Ytdmlcddieadelaa
open Go.RowKit Nm



end Go.Proofs.Ytdmlcddieadelaa
