/-
  Plain arithmetic of the greatest common divisor by halving and subtraction. No program is mentioned here.
-/
set_option linter.unusedVariables false
namespace Nm
theorem gcd_pow_right {x y k : Nat} (hx : x % 2 = 1) : Nat.gcd x (2 ^ k * y) = Nat.gcd x y := by
  have hc : Nat.Coprime x (2 ^ k) := by
    apply Nat.Coprime.pow_right
    have h1 : Nat.gcd x 2 ∣ 2 := Nat.gcd_dvd_right _ _
    have h2 : Nat.gcd x 2 ∣ x := Nat.gcd_dvd_left _ _
    have h3 : Nat.gcd x 2 ≤ 2 := Nat.le_of_dvd (by omega) h1
    have h4 : 0 < Nat.gcd x 2 := Nat.gcd_pos_of_pos_right _ (by omega)
    have : Nat.gcd x 2 ≠ 2 := fun e => by rw [e] at h2; omega
    show Nat.gcd x 2 = 1
    omega
  rw [Nat.gcd_comm, Nat.gcd_comm x y]
  exact Nat.Coprime.gcd_mul_left_cancel y hc.symm

/-- the common divisor, once its powers of 2 are set apart -/
theorem gcd_split {X Y t a p : Nat} (hX : X = 2 ^ a * p) (hp : p % 2 = 1) (h1 : X % 2 ^ t = 0) (h2 : Y % 2 ^ t = 0) (h3 : X / 2 ^ t % 2 = 1 ∨ Y / 2 ^ t % 2 = 1) : Nat.gcd X Y = 2 ^ t * Nat.gcd p Y := by
  have e1 : X = 2 ^ t * (X / 2 ^ t) := (Nat.mul_div_cancel' (Nat.dvd_of_mod_eq_zero h1)).symm
  have e2 : Y = 2 ^ t * (Y / 2 ^ t) := (Nat.mul_div_cancel' (Nat.dvd_of_mod_eq_zero h2)).symm
  have hpt : 0 < 2 ^ t := Nat.pow_pos (by omega)
  generalize X / 2 ^ t = x at *
  generalize Y / 2 ^ t = y at *
  have gY : Nat.gcd p Y = Nat.gcd p y := by rw [e2, gcd_pow_right hp]
  rw [gY, e1, e2, Nat.gcd_mul_left]
  congr 1
  -- a is at least t
  have hta : t ≤ a := by
    refine Nat.le_of_not_lt fun hlt => ?_
    obtain ⟨d, rfl⟩ : ∃ d, t = a + (d + 1) := ⟨t - a - 1, by omega⟩
    rw [hX, Nat.pow_add, Nat.mul_assoc] at e1
    have := Nat.eq_of_mul_eq_mul_left (Nat.pow_pos (by omega)) e1
    rw [Nat.pow_succ, Nat.mul_assoc, Nat.mul_left_comm, Nat.mul_comm] at this
    omega
  obtain ⟨d, rfl⟩ : ∃ d, a = t + d := ⟨a - t, by omega⟩
  rw [hX, Nat.pow_add, Nat.mul_assoc] at e1
  have ex : 2 ^ d * p = x := Nat.eq_of_mul_eq_mul_left hpt e1
  rcases h3 with h3 | h3
  · rcases Nat.eq_zero_or_pos d with h0 | h0
    · subst h0; rw [← ex]; simp
    · obtain ⟨f, rfl⟩ : ∃ f, d = f + 1 := ⟨d - 1, by omega⟩
      rw [← ex, Nat.pow_succ, Nat.mul_comm (2 ^ f), Nat.mul_assoc] at h3
      omega
  · rw [← ex, Nat.gcd_comm, gcd_pow_right h3, Nat.gcd_comm]

/-- the trailing zeros of a join are common to both -/
theorem or_zeros {X Y t m : Nat} (h : X ||| Y = 2 ^ t * (2 * m + 1)) : X % 2 ^ t = 0 ∧ Y % 2 ^ t = 0 ∧ (X / 2 ^ t % 2 = 1 ∨ Y / 2 ^ t % 2 = 1) := by
  have h1 : (X ||| Y) % 2 ^ t = 0 := by rw [h]; exact Nat.mul_mod_right _ _
  have h2 : (X ||| Y) / 2 ^ t = 2 * m + 1 := by rw [h]; exact Nat.mul_div_cancel_left _ (Nat.pow_pos (by omega))
  rw [Nat.or_mod_two_pow] at h1
  have hz : ∀ a b : Nat, a ||| b = 0 → a = 0 ∧ b = 0 := fun a b e => by
    have hl : a ≤ a ||| b := Nat.left_le_or
    have hr : b ≤ a ||| b := Nat.right_le_or
    omega
  obtain ⟨k1, k2⟩ := hz _ _ h1
  refine ⟨k1, k2, ?_⟩
  have h3 : ((X ||| Y) / 2 ^ t) % 2 = 1 := by omega
  have h4 : (X ||| Y).testBit t = true := by rw [Nat.testBit_eq_decide_div_mod_eq]; simpa using h3
  rw [Nat.testBit_or] at h4
  rcases Bool.or_eq_true_iff.1 h4 with h5 | h5
  · left; rw [Nat.testBit_eq_decide_div_mod_eq] at h5; simpa using h5
  · right; rw [Nat.testBit_eq_decide_div_mod_eq] at h5; simpa using h5

/-- one round: the greater odd number less the smaller one -/
theorem gcd_round {x y G k z : Nat} (hx : x % 2 = 1) (hG : Nat.gcd x y = G) (hy : y = 2 ^ k * z) (hz : z % 2 = 1) :
    (x ≤ z → Nat.gcd x (z - x) = G) ∧ (z < x → Nat.gcd z (x - z) = G) := by
  have h1 : Nat.gcd x z = G := by rw [← hG, hy, gcd_pow_right hx]
  constructor
  · intro h; rw [Nat.gcd_sub_self_right h]; exact h1
  · intro h; rw [Nat.gcd_sub_self_right (by omega), Nat.gcd_comm]; exact h1
end Nm
