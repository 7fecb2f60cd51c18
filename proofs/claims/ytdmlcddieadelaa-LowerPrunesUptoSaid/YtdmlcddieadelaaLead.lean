/-
  Contract of natural.leading: the highest bits of two numbers, at the same places.
-/
import Derived.Test.YtdmlcddieadelaaEuclid
import Derived.Test.YtdmlcddieadelaaShW
set_option linter.unusedVariables false
set_option linter.unusedSimpArgs false
namespace Go.Proofs.Ytdmlcddieadelaa
open Go.RowKit Nm

/-- A and C are the numbers a and c without the same number of low bits -/
def IsLead (a c A C : Nat) : Prop := ∃ K a' c', 0 < K ∧ a' < K ∧ c' < K ∧ a = A * K + a' ∧ c = C * K + c'

theorem top_two {W : Nat} (hW : 1 < W) (xs : List Nat) (hd : Dg W xs) (m : Nat) (hl : xs.length = m + 2) (T : Nat) (hT : 0 < T) :
    V W xs / (W ^ m * T) = (xs[m + 1] * W + xs[m]) / T := by
  obtain ⟨lo, h1, h2⟩ := two_top hW xs hd m hl
  rw [← Nat.div_div_eq_div_mul, h2, Nat.mul_comm, Nat.mul_add_div (Nat.pow_pos (by omega)), Nat.div_eq_of_lt h1, Nat.add_zero]

theorem lead_word {S T W x1 x0 : Nat} (hST : S * T = W) (hT : 0 < T) : (x1 * W + x0) / T = x1 * S + x0 / T := by
  rw [← hST, ← Nat.mul_assoc, Nat.add_comm, Nat.mul_comm, Nat.add_mul_div_left _ _ hT, Nat.add_comm]

end Go.Proofs.Ytdmlcddieadelaa
