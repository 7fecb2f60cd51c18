/-
  The frame of the rows of this seat.
-/
import Derived.Test.YtdmlcddieadelaaRows
import Derived.WalkKit
import Derived.ProofKit
import Derived.OpenShut
set_option linter.unusedVariables false
namespace Go.Proofs.Ytdmlcddieadelaa
theorem ownL : ownKnob Try.prog.godebug = none := by kernel_rfl
theorem laidOutL : laidOutB Try.prog = true := by kernel_rfl
end Go.Proofs.Ytdmlcddieadelaa
