/-
  Contracts of integer.Norm and Neg.
-/
import Derived.Test.YtbioamglnndofaaGreatDoorIntA
import Derived.Deep.RegionWith
set_option linter.unusedVariables false
set_option linter.unusedSimpArgs false
namespace Go.Proofs.YtbioamglnndofaaGreatDoor
open Go.RowKit Nm



end Go.Proofs.YtbioamglnndofaaGreatDoor
