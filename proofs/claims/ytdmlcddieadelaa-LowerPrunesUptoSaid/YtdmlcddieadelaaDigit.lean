/-
  Contract of the closure of natural.divide that returns a digit of a quotient, or one more.
-/
import Derived.Test.YtdmlcddieadelaaShW
set_option linter.unusedVariables false
set_option linter.unusedSimpArgs false
namespace Go.Proofs.Ytdmlcddieadelaa
open Go.RowKit Nm

theorem drewN_add (w : World) (a b : Nat) : (w.drewN a).drewN b = w.drewN (a + b) := by unfold World.drewN; simp [Nat.add_assoc]

/-- the digit for three words of what is left and the two highest words of the divisor -/
def dgt (first second high mid low : Nat) : Nat := if first ≤ high then W64 - 1 else (high * W64 * W64 + mid * W64 + low) / (first * W64 + second)

end Go.Proofs.Ytdmlcddieadelaa
