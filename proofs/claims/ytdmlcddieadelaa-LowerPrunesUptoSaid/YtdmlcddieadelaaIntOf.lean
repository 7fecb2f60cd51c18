/-
  Contract of integer.Of.
-/
import Derived.Test.YtdmlcddieadelaaIntC
set_option linter.unusedVariables false
set_option linter.unusedSimpArgs false
namespace Go.Proofs.Ytdmlcddieadelaa
open Go.RowKit Nm

theorem dg_len4 {N : Nat} (h : N < W64) : (dg 65536 N).length ≤ 4 := dg_length_le (by omega) (by rw [← W64_eq]; exact h)




end Go.Proofs.Ytdmlcddieadelaa
