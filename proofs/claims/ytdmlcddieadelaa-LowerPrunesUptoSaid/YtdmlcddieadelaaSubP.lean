/-
  Contracts of natural.subProduct and natural.addWords.
-/
import Derived.Test.YtdmlcddieadelaaMul
set_option linter.unusedVariables false
set_option linter.unusedSimpArgs false
namespace Go.Proofs.Ytdmlcddieadelaa
open Go.RowKit Nm

theorem sub_step (x y lo hi p s1 c1 cy s2 c2 : Nat) (hx : x < W64) (hy : y < W64) (hp : p < W64) (hcy : cy < W64) (hs2 : s2 < W64) (h1 : x * y = lo + W64 * hi) (h2 : lo + cy + 0 = s1 + W64 * c1) (h3 : s2 + (s1 + 0) = p + W64 * c2) :
    s2 + (x * y + cy) = p + W64 * (hi + c1 + c2) ∧ hi + c1 + c2 < W64 := by
  have e : s2 + (x * y + cy) = p + W64 * (hi + c1 + c2) := by rw [Nat.mul_add, Nat.mul_add]; omega
  refine ⟨e, Nat.lt_of_not_le fun h => ?_⟩
  have k1 : W64 * W64 ≤ W64 * (hi + c1 + c2) := Nat.mul_le_mul_left _ h
  have k2 : x * y ≤ (W64 - 1) * (W64 - 1) := Nat.mul_le_mul (by omega) (by omega)
  have k3 : (W64 - 1) * (W64 - 1) + 2 * (W64 - 1) + 1 = W64 * W64 := by decide
  omega

end Go.Proofs.Ytdmlcddieadelaa
