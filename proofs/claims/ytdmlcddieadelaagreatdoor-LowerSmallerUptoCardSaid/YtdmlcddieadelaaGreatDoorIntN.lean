/-
  Contracts of integer.Norm and Neg.
-/
import Derived.Test.YtdmlcddieadelaaGreatDoorIntA
import Derived.Deep.RegionWith
set_option linter.unusedVariables false
set_option linter.unusedSimpArgs false
namespace Go.Proofs.YtdmlcddieadelaaGreatDoor
open Go.RowKit Nm



end Go.Proofs.YtdmlcddieadelaaGreatDoor
