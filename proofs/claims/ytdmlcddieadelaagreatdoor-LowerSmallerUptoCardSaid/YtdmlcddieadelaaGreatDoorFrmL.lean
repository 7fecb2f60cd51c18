/-
  The frame of the rows of this seat.
-/
import Derived.Test.YtdmlcddieadelaaGreatDoorRows
import Derived.WalkKit
import Derived.ProofKit
import Derived.OpenShut
set_option linter.unusedVariables false
namespace Go.Proofs.YtdmlcddieadelaaGreatDoor
theorem ownL : ownKnob Tryz.prog.godebug = none := by kernel_rfl
theorem laidOutL : laidOutB Tryz.prog = true := by kernel_rfl
end Go.Proofs.YtdmlcddieadelaaGreatDoor
