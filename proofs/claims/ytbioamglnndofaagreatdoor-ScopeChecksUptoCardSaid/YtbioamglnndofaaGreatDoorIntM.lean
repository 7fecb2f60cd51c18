/-
  Contract of integer.Mul.
-/
import Derived.Test.YtbioamglnndofaaGreatDoorIntA
import Derived.Deep.RegionWith
import Derived.Deep.RegionHeld3
set_option linter.unusedVariables false
set_option linter.unusedSimpArgs false
namespace Go.Proofs.YtbioamglnndofaaGreatDoor
open Go.RowKit Nm



end Go.Proofs.YtbioamglnndofaaGreatDoor
