/-
  Whatever the polynomial and the values are, the Go function PolyEvals returns true and leaves both as they are. Condition: the table of package math/bits holds what the program's text lays (the card ties it).
-/
import Derived.Test.YtknmdmofmcfjhaaGreatDoorMrZ
import Derived.Test.YtknmdmofmcfjhaaGreatDoorMrX
import Derived.Test.YtknmdmofmcfjhaaGreatDoorMrS
import Derived.Test.YtknmdmofmcfjhaaGreatDoorMrR
import Derived.OpenShut
import Derived.ChangeMaps5
import Derived.Lib.LaidTab
import Derived.Deep.RegionHeld3
import Derived.Deep.DeepCutAuto

set_option linter.unusedVariables false
set_option linter.unusedSimpArgs false
namespace Go.Proofs.YtknmdmofmcfjhaaGreatDoor
open Go.ChangeShapes Go.WideShapes Go.ChangeAt Go.RowKit _root_.Nm
open Go Go.ChangeMaps
end Go.Proofs.YtknmdmofmcfjhaaGreatDoor
