/-
  PmN PmO, in one text.
-/
import Derived.Test.YtknmdmofmcfjhaaGreatDoorMrX
import Derived.Test.YtknmdmofmcfjhaaGreatDoorMrV

set_option linter.unusedVariables false
set_option linter.unusedSimpArgs false
namespace Go.Proofs.YtknmdmofmcfjhaaGreatDoor
open Go Go.RowKit _root_.Nm
end Go.Proofs.YtknmdmofmcfjhaaGreatDoor

set_option linter.unusedVariables false
set_option linter.unusedSimpArgs false
namespace Go.Proofs.YtknmdmofmcfjhaaGreatDoor
open Go Go.RowKit _root_.Nm
end Go.Proofs.YtknmdmofmcfjhaaGreatDoor
