/-
  Contract of natural.divideByWord: the words are replaced by their quotient by a word, and the rest is returned.
-/
import Derived.Test.YtdmlcddieadelaaSubP
import Derived.Test.YtdmlcddieadelaaDiv64
set_option linter.unusedVariables false
set_option linter.unusedSimpArgs false
namespace Go.Proofs.Ytdmlcddieadelaa
open Go.RowKit Nm

theorem div_down {W x y v Q : Nat} (hx : 0 < x) (hQ : Q = v / x) : (v % x * W + y) / x + W * Q = (y + W * v) / x ∧ (v % x * W + y) % x = (y + W * v) % x := by
  have h := Nat.div_add_mod v x
  have e : y + W * v = x * (W * Q) + (v % x * W + y) := by
    rw [hQ]
    have h2 := congrArg (W * ·) h
    simp only [Nat.mul_add] at h2
    rw [← h2, Nat.mul_left_comm, Nat.mul_comm (v % x) W]; omega
  rw [e]
  exact ⟨by rw [Nat.mul_add_div hx]; omega, by rw [Nat.mul_add_mod]⟩

end Go.Proofs.Ytdmlcddieadelaa
