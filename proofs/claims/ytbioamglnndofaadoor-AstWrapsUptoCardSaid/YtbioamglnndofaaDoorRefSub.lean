/-
  Contracts of the reference Sub.
-/
import Derived.Test.YtbioamglnndofaaDoorRefAdd
set_option linter.unusedVariables false
set_option linter.unusedSimpArgs false
namespace Go.Proofs.YtbioamglnndofaaDoor
open Go.RowKit Nm



end Go.Proofs.YtbioamglnndofaaDoor
