/-
  Contract of the method of the struct rests: the rests of two numbers after the steps that their leading bits determine.
-/
import Derived.Test.YtdmlcddieadelaaLead
import Derived.Test.YtdmlcddieadelaaDiff
set_option linter.unusedVariables false
set_option linter.unusedSimpArgs false
namespace Go.Proofs.Ytdmlcddieadelaa
open Go.RowKit Nm

/-- what Lehmer's steps make of a and c: H and O -/
def Leh (a c H O : Nat) : Prop := O < H ∧ Nat.gcd H O = Nat.gcd a c ∧ H + O < a + c ∧ H ≤ a

end Go.Proofs.Ytdmlcddieadelaa
