/-
  Plain arithmetic of the whole square root by the iteration of Newton. No program is mentioned here.
-/
import Derived.Test.YtkggoniecmlglaaDoorArith
set_option linter.unusedVariables false
namespace Nm
/-- what is known of the root when it has k + 1 bits -/
structure RInv (N half k A : Nat) : Prop where
  lo : (A - 1) * (A - 1) < N / 2 ^ (2 * half - 2 * k)
  hi : N / 2 ^ (2 * half - 2 * k) < (A + 1) * (A + 1)
  one : 1 ≤ A

theorem RInv.start {N half : Nat} (h1 : 2 ^ (2 * half) ≤ N) (h2 : N < 2 ^ (2 * half + 2)) : RInv N half 0 1 := by
  have hp : 0 < 2 ^ (2 * half) := Nat.pow_pos (by omega)
  have a : 1 ≤ N / 2 ^ (2 * half) := (Nat.le_div_iff_mul_le hp).2 (by omega)
  have b : N / 2 ^ (2 * half) < 4 := Nat.div_lt_of_lt_mul (by rw [Nat.pow_add] at h2; omega)
  refine ⟨?_, ?_, Nat.le_refl _⟩
  · simp; omega
  · simp; omega

theorem RInv.pow_le {N half k A : Nat} (h : RInv N half k A) (hN : 2 ^ (2 * half) ≤ N) (hk : k ≤ half) : 2 ^ k ≤ A := by
  refine Nat.le_of_not_lt fun hlt => ?_
  have h1 : (A + 1) * (A + 1) ≤ 2 ^ k * 2 ^ k := Nat.mul_le_mul hlt hlt
  have h2 : 2 ^ k * 2 ^ k ≤ N / 2 ^ (2 * half - 2 * k) := by
    refine (Nat.le_div_iff_mul_le (Nat.pow_pos (by omega))).2 ?_
    rw [← Nat.pow_add, ← Nat.pow_add, show k + k + (2 * half - 2 * k) = 2 * half by omega]; exact hN
  have := h.hi
  omega

theorem RInv.next {N half k j A B : Nat} (h : RInv N half k A) (hN : 2 ^ (2 * half) ≤ N) (hkj : k < j) (hj : j ≤ half) (hj2 : j ≤ 2 * k + 1) (hB : B = A * 2 ^ (j - k - 1) + N / 2 ^ (2 * half - k - j + 1) / A) : RInv N half j B := by
  have hp := h.pow_le hN (by omega)
  have e1 : N / 2 ^ (2 * half - 2 * k) = N / 2 ^ (2 * half - 2 * j) / (2 ^ (j - k) * 2 ^ (j - k)) := by
    rw [Nat.div_div_eq_div_mul, ← Nat.pow_add, ← Nat.pow_add]; congr 2; omega
  have e2 : N / 2 ^ (2 * half - k - j + 1) = N / 2 ^ (2 * half - 2 * j) / (2 * 2 ^ (j - k)) := by
    rw [Nat.div_div_eq_div_mul, ← Nat.pow_succ', ← Nat.pow_add]; congr 2; omega
  have h1 := h.lo
  have h2 := h.hi
  rw [e2] at hB
  have hap : 2 ^ (j - k) ≤ 2 * A := by
    have : 2 ^ (j - k) ≤ 2 ^ (k + 1) := Nat.pow_le_pow_right (by omega) (by omega)
    rw [Nat.pow_succ] at this; omega
  obtain ⟨r1, r2, r3⟩ := newton A (j - k) (N / 2 ^ (2 * half - 2 * j)) (N / 2 ^ (2 * half - 2 * k)) (2 ^ (j - k)) rfl (by omega) h1 h2 h.one e1 hap B hB
  exact ⟨r1, r2, r3⟩

theorem RInv.done {N half A : Nat} (h : RInv N half half A) : (A - 1) * (A - 1) < N ∧ N < (A + 1) * (A + 1) := by
  have h1 := h.lo
  have h2 := h.hi
  rw [Nat.sub_self, Nat.pow_zero, Nat.div_one] at h1 h2
  exact ⟨h1, h2⟩

theorem RInv.le {N half k A : Nat} (h : RInv N half k A) (hN : 1 ≤ N) : A ≤ N := by
  have h1 := h.lo
  have h2 : N / 2 ^ (2 * half - 2 * k) ≤ N := Nat.div_le_self _ _
  rcases Nat.lt_or_ge A 2 with h3 | h3
  · omega
  · have := Nat.mul_le_mul_left (A - 1) (show 1 ≤ A - 1 by omega)
    omega

/-- the whole root of a number is unique -/
theorem root_unique {N a b : Nat} (h1 : a * a ≤ N) (h2 : N < (a + 1) * (a + 1)) (k1 : b * b ≤ N) (k2 : N < (b + 1) * (b + 1)) : a = b := by
  rcases Nat.lt_trichotomy a b with h | h | h
  · have := Nat.mul_le_mul (show a + 1 ≤ b from h) (show a + 1 ≤ b from h); omega
  · exact h
  · have := Nat.mul_le_mul (show b + 1 ≤ a from h) (show b + 1 ≤ a from h); omega
end Nm
