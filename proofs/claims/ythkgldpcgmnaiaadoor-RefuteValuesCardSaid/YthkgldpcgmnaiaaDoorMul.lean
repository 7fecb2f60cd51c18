/-
  Contracts of natural.addProduct and natural.Mul.
-/
import Derived.Test.YthkgldpcgmnaiaaDoorSub
set_option linter.unusedVariables false
set_option linter.unusedSimpArgs false
namespace Go.Proofs.YthkgldpcgmnaiaaDoor
open Go.RowKit Nm

theorem W64_val : W64 = 18446744073709551616 := rfl

theorem mul_step (x y lo hi p s1 c1 cy s2 c2 : Nat) (hx : x < W64) (hy : y < W64) (hp : p < W64) (hcy : cy < W64) (h1 : x * y = lo + W64 * hi) (h2 : lo + p + 0 = s1 + W64 * c1) (h3 : s1 + cy + 0 = s2 + W64 * c2) :
    p + (x * y + cy) = s2 + W64 * (hi + c1 + c2) ∧ hi + c1 + c2 < W64 := by
  have e : p + (x * y + cy) = s2 + W64 * (hi + c1 + c2) := by rw [Nat.mul_add, Nat.mul_add]; omega
  refine ⟨e, Nat.lt_of_not_le fun h => ?_⟩
  have k1 : W64 * W64 ≤ W64 * (hi + c1 + c2) := Nat.mul_le_mul_left _ h
  have k2 : x * y ≤ (W64 - 1) * (W64 - 1) := Nat.mul_le_mul (by omega) (by omega)
  have k3 : (W64 - 1) * (W64 - 1) + 2 * (W64 - 1) + 1 = W64 * W64 := by decide
  omega


/-- a longer number times a word fits, so the place of the carry -/
theorem two_words (hi lo : Nat) (h1 : hi < W64) (h2 : lo < W64) : Dg W64 [lo, hi] := fun y hy => by
  simp only [List.mem_cons, List.not_mem_nil, or_false] at hy
  rcases hy with rfl | rfl
  · exact h2
  · exact h1

end Go.Proofs.YthkgldpcgmnaiaaDoor
