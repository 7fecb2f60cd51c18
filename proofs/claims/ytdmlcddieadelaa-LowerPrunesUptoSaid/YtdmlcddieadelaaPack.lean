/-
  Contracts of natural.Of and natural.pack.
-/
import Derived.Test.YtdmlcddieadelaaUnpack
set_option linter.unusedVariables false
set_option linter.unusedSimpArgs false
namespace Go.Proofs.Ytdmlcddieadelaa
open Go.RowKit Nm

theorem dg1 (x : Nat) (hx : x < W64) : Dg W64 [x] := fun y hy => by rw [List.mem_singleton.1 hy]; exact hx

end Go.Proofs.Ytdmlcddieadelaa
