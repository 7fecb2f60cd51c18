/-
  Contract of natural.difference: p x less q y, word by word.
-/
import Derived.Test.YtdmlcddieadelaaSubP
set_option linter.unusedVariables false
set_option linter.unusedSimpArgs false
namespace Go.Proofs.Ytdmlcddieadelaa
open Go.RowKit Nm

/-- a word times a word and a carry: two words -/
theorem word_step (p x lo hi pl c cy : Nat) (hp : p < W64) (hx : x < W64) (hcy : cy < W64) (h1 : p * x = lo + W64 * hi) (h2 : lo + cy + 0 = pl + W64 * c) : p * x + cy = pl + W64 * (hi + c) ∧ hi + c < W64 := by
  have e : p * x + cy = pl + W64 * (hi + c) := by rw [Nat.mul_add]; omega
  refine ⟨e, Nat.lt_of_not_le fun h => ?_⟩
  have k1 : W64 * W64 ≤ W64 * (hi + c) := Nat.mul_le_mul_left _ h
  have k2 : p * x ≤ (W64 - 1) * (W64 - 1) := Nat.mul_le_mul (by omega) (by omega)
  have k3 : (W64 - 1) * (W64 - 1) + 2 * (W64 - 1) + 1 = W64 * W64 := by decide
  omega

theorem diff_round {W i pl ml bo d bo' a b plus plus' minus minus' Vd Vd' A B vx vy p q x y : Nat} (h1 : a + plus = pl + W * plus') (h2 : b + minus = ml + W * minus') (h3 : d + (ml + bo) = pl + W * bo') (ha : a = p * x) (hb : b = q * y)
    (e : Vd + q * vy + W ^ i * plus = p * vx + W ^ i * (minus + bo)) (hd : Vd' = Vd + W ^ i * d) (hx : A = vx + W ^ i * x) (hy : B = vy + W ^ i * y) :
    Vd' + q * B + W ^ (i + 1) * plus' = p * A + W ^ (i + 1) * (minus' + bo') := by
  have k1 := congrArg (W ^ i * ·) h1
  have k2 := congrArg (W ^ i * ·) h2
  have k3 := congrArg (W ^ i * ·) h3
  simp only [Nat.mul_add] at k1 k2 k3
  rw [hd, hx, hy, Nat.pow_succ, Nat.mul_add, Nat.mul_add, Nat.mul_assoc, Nat.mul_assoc, Nat.mul_add, Nat.mul_add]
  rw [Nat.mul_add] at e
  have m1 : q * (W ^ i * y) = W ^ i * b := by rw [hb, Nat.mul_left_comm]
  have m2 : p * (W ^ i * x) = W ^ i * a := by rw [ha, Nat.mul_left_comm]
  omega

theorem diff_end {N Vd A B plus mb : Nat} (e : Vd + B + N * plus = A + N * mb) (hle : B ≤ A) (hd : Vd < N) (hA : A - B < N) : Vd + B = A := by
  rcases Nat.lt_trichotomy plus mb with h | h | h
  · obtain ⟨t, rfl⟩ : ∃ t, mb = plus + 1 + t := ⟨mb - plus - 1, by omega⟩
    rw [Nat.mul_add, Nat.mul_add, Nat.mul_one] at e
    omega
  · subst h; omega
  · obtain ⟨t, rfl⟩ : ∃ t, plus = mb + 1 + t := ⟨plus - mb - 1, by omega⟩
    rw [Nat.mul_add, Nat.mul_add, Nat.mul_one] at e
    omega

end Go.Proofs.Ytdmlcddieadelaa
