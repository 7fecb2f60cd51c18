/-
  Plain arithmetic: the estimate of a quotient digit, Newton's step for the square root, Euclid's algorithm with cofactors. No program is mentioned here.
-/
namespace Nm
/-- three words by two: the estimate of a digit is exact or one too great -/
theorem est (W first second high mid low n r v d Vlow Rlow : Nat) (hf : W ≤ 2 * first) (hd : d < W)
    (hv : v = (first * W + second) * n + Vlow) (hV : Vlow < n) (hr : r = (high * W * W + mid * W + low) * n + Rlow) (hR : Rlow < n)
    (h1 : d * (first * W + second) ≤ high * W * W + mid * W + low) (h2 : high * W * W + mid * W + low < (d + 1) * (first * W + second)) :
    r < (d + 1) * v ∧ d * v < r + v := by
  have hW : 0 < W := by omega
  have hfp : 0 < first := by omega
  generalize hN : high * W * W + mid * W + low = N at *
  generalize hD : first * W + second = D at *
  subst hv; subst hr
  constructor
  · have a : N + 1 ≤ (d + 1) * D := h2
    have b : (N + 1) * n ≤ (d + 1) * D * n := Nat.mul_le_mul_right n a
    have c : (d + 1) * (D * n + Vlow) = (d + 1) * D * n + (d + 1) * Vlow := by rw [Nat.mul_add, Nat.mul_assoc]
    rw [Nat.add_mul, Nat.one_mul] at b
    omega
  · have a : d * D * n ≤ N * n := Nat.mul_le_mul_right n h1
    have b : d * Vlow ≤ d * n := Nat.mul_le_mul_left d (by omega)
    have c : d * (D * n + Vlow) = d * D * n + d * Vlow := by rw [Nat.mul_add, Nat.mul_assoc]
    have e : W ≤ D := by
      have : 1 * W ≤ first * W := Nat.mul_le_mul_right W hfp
      omega
    have f : d * n ≤ D * n := Nat.mul_le_mul_right n (by omega)
    have g : 0 < n := by omega
    have i : (d + 1) * n ≤ D * n := Nat.mul_le_mul_right n (by omega)
    rw [Nat.add_mul, Nat.one_mul] at i
    omega

/-- the highest word is not less than the divisor's: the greatest digit will do -/
theorem est_top (W first n r v high mid Vlow Rlow : Nat) (hf : W ≤ 2 * first) (hW : 2 ≤ W)
    (hv : v = first * n + Vlow) (hV : Vlow < n) (hr : r = high * (n * W) + mid * n + Rlow) (hh : first ≤ high) (hlt : r < W * v) :
    r < (W - 1 + 1) * v ∧ (W - 1) * v < r + v := by
  constructor
  · rw [Nat.sub_add_cancel (by omega)]; exact hlt
  · have a : first * (n * W) ≤ high * (n * W) := Nat.mul_le_mul_right _ hh
    obtain ⟨k, rfl⟩ : ∃ k, W = k + 2 := ⟨W - 2, by omega⟩
    have e : (k + 2 - 1) * v = k * v + v := by rw [show k + 2 - 1 = k + 1 by omega, Nat.add_mul, Nat.one_mul]
    rw [e]
    have b : k * v < r := by
      subst hv
      have c : k * Vlow ≤ k * n := Nat.mul_le_mul_left k (by omega)
      have d : k * (first * n + Vlow) = k * first * n + k * Vlow := by rw [Nat.mul_add, Nat.mul_assoc]
      have f : first * (n * (k + 2)) = k * first * n + 2 * first * n := by
        rw [Nat.mul_add, Nat.mul_add, Nat.mul_comm n k, ← Nat.mul_assoc, Nat.mul_comm first k, Nat.mul_comm n 2, ← Nat.mul_assoc, Nat.mul_comm first 2]
      have g : (k + 2) * n ≤ 2 * first * n := Nat.mul_le_mul_right n hf
      rw [Nat.add_mul] at g
      omega
    omega
end Nm
namespace Nm
/-- one step of Newton's iteration for the square root: from the root of the highest bits to that of twice as many -/
theorem newton (a t m m1 p : Nat) (hp : p = 2 ^ t) (ht : 1 ≤ t) (h1 : (a - 1) * (a - 1) < m1) (h2 : m1 < (a + 1) * (a + 1)) (ha : 1 ≤ a) (hm : m1 = m / (p * p)) (hap : p ≤ 2 * a)
    (b : Nat) (hb : b = a * 2 ^ (t - 1) + m / (2 * p) / a) :
    (b - 1) * (b - 1) < m ∧ m < (b + 1) * (b + 1) ∧ 1 ≤ b := by
  obtain ⟨h, hh⟩ : ∃ h, h = 2 ^ (t - 1) := ⟨_, rfl⟩
  have hp2 : p = 2 * h := by rw [hp, hh, ← Nat.pow_succ']; congr 1; omega
  have hhp : 0 < h := by rw [hh]; exact Nat.pow_pos (by omega)
  have hpp : 0 < p := by omega
  rw [← hh, Nat.div_div_eq_div_mul] at hb
  -- x = p a
  obtain ⟨x, hx⟩ : ∃ x, x = p * a := ⟨_, rfl⟩
  have hxp : 0 < x := by rw [hx]; exact Nat.mul_pos hpp (by omega)
  have hx2 : x = 2 * (a * h) := by rw [hx, hp2, Nat.mul_assoc, Nat.mul_comm h a]
  have hq : 2 * p * a = 2 * x := by rw [hx, Nat.mul_assoc]
  rw [hq] at hb
  have hdm := Nat.div_add_mod m (2 * x)
  have hml := Nat.mod_lt m (show 0 < 2 * x by omega)
  generalize m / (2 * x) = q at *
  generalize m % (2 * x) = r at *
  -- 2 x b = x^2 + 2 x q
  have e1 : 2 * x * b = x * x + 2 * x * q := by
    rw [hb, Nat.mul_add]; congr 1
    have : 2 * x * (a * h) = x * (2 * (a * h)) := by rw [Nat.mul_comm 2 x, Nat.mul_assoc]
    rw [this, ← hx2]
  have lo : 2 * x * b ≤ x * x + m := by omega
  have hi : x * x + m < 2 * x * b + 2 * x := by omega
  have hbx : 1 ≤ b := by
    rw [hb]
    have : 0 < a * h := Nat.mul_pos (by omega) hhp
    omega
  -- bounds of m
  have hdm2 := Nat.div_add_mod m (p * p)
  have hml2 := Nat.mod_lt m (Nat.mul_pos hpp hpp)
  rw [← hm] at hdm2
  generalize m % (p * p) = s at *
  refine ⟨?_, ?_, hbx⟩
  · -- (b-1)^2 < m
    refine Nat.lt_of_not_le fun hge => ?_
    obtain ⟨c, rfl⟩ : ∃ c, b = c + 1 := ⟨b - 1, by omega⟩
    have hc' : m ≤ c * c := by simpa using hge
    obtain ⟨d, rfl⟩ : ∃ d, a = d + 1 := ⟨a - 1, by omega⟩
    have h1' : d * d + 1 ≤ m1 := h1
    have h2' : m1 + 1 ≤ (d + 1 + 1) * (d + 1 + 1) := h2
    have k1 : p * p * (d * d + 1) ≤ p * p * m1 := Nat.mul_le_mul_left _ h1'
    have k2 : p * p * (m1 + 1) ≤ p * p * ((d + 1 + 1) * (d + 1 + 1)) := Nat.mul_le_mul_left _ h2'
    have k3 : p * p * ((d + 1 + 1) * (d + 1 + 1)) = (x + p) * (x + p) := by
      have : x + p = p * (d + 1 + 1) := by rw [hx, Nat.mul_add p (d + 1) 1, Nat.mul_one]
      rw [this, Nat.mul_assoc, Nat.mul_assoc, ← Nat.mul_assoc p (d + 1 + 1), ← Nat.mul_assoc (d+1+1) p, Nat.mul_comm p (d + 1 + 1)]
    have hpx : p * p ≤ 2 * x := by
      rw [hx]
      have : p * p ≤ p * (2 * (d + 1)) := Nat.mul_le_mul_left p hap
      have e : p * (2 * (d + 1)) = 2 * (p * (d + 1)) := by rw [← Nat.mul_assoc, Nat.mul_comm p 2, Nat.mul_assoc]
      omega
    rw [Nat.mul_add, Nat.mul_one] at k2
    have e2 : (x + p) * (x + p) = x * x + 2 * (x * p) + p * p := by
      rw [Nat.add_mul, Nat.mul_add, Nat.mul_add, Nat.mul_comm p x]; omega
    have e3 : 2 * x * (c + 1) = 2 * (x * c) + 2 * x := by rw [Nat.mul_add, Nat.mul_one, Nat.mul_assoc]
    rcases Nat.lt_or_ge c (x + p) with hlt | hge2
    · -- x - p < c < x + p is impossible; c ≤ x - p too
      rcases Nat.lt_or_ge x (c + p) with hlt2 | hge3
      · -- |x - c| < p
        have : 2 * (x * c) + 2 * x ≤ x * x + c * c := by omega
        rcases Nat.le_total c x with hcx | hcx
        · obtain ⟨y, rfl⟩ : ∃ y, x = c + y := ⟨x - c, by omega⟩
          have hy : y * y < p * p := by
            have : y < p := by omega
            exact Nat.mul_lt_mul'' this this
          have : (c + y) * (c + y) = c * c + 2 * (c * y) + y * y := by
            rw [Nat.add_mul, Nat.mul_add, Nat.mul_add, Nat.mul_comm y c]; omega
          have : (c + y) * c = c * c + c * y := by rw [Nat.add_mul, Nat.mul_comm y c]
          omega
        · obtain ⟨y, rfl⟩ : ∃ y, c = x + y := ⟨c - x, by omega⟩
          have hy : y * y < p * p := by
            have : y < p := by omega
            exact Nat.mul_lt_mul'' this this
          have : (x + y) * (x + y) = x * x + 2 * (x * y) + y * y := by
            rw [Nat.add_mul, Nat.mul_add, Nat.mul_add, Nat.mul_comm y x]; omega
          have : x * (x + y) = x * x + x * y := by rw [Nat.mul_add]
          omega
      · -- c ≤ x - p, so m ≤ c^2 ≤ (p d)^2
        have hxd : x = p * d + p := by rw [hx, Nat.mul_add, Nat.mul_one]
        have hcd : c ≤ p * d := by omega
        have := Nat.mul_le_mul hcd hcd
        have e4 : p * d * (p * d) = p * p * (d * d) := by
          rw [Nat.mul_assoc, Nat.mul_assoc, ← Nat.mul_assoc d p, Nat.mul_comm d p, Nat.mul_assoc]
        have : 0 < p * p := Nat.mul_pos hpp hpp
        rw [Nat.mul_add, Nat.mul_one] at k1
        omega
    · -- x + p ≤ c
      have : x * (x + p) ≤ x * c := Nat.mul_le_mul_left x hge2
      rw [Nat.mul_add] at this
      omega
  · -- m < (b+1)^2
    have e3 : 2 * x * b + 2 * x = 2 * (x * (b + 1)) := by rw [Nat.mul_add, Nat.mul_one, Nat.mul_add, Nat.mul_assoc]
    rcases Nat.le_total x (b + 1) with hle | hle
    · obtain ⟨y, hy⟩ : ∃ y, b + 1 = x + y := ⟨b + 1 - x, by omega⟩
      rw [hy]
      rw [hy] at e3
      have : (x + y) * (x + y) = x * x + 2 * (x * y) + y * y := by
        rw [Nat.add_mul, Nat.mul_add, Nat.mul_add, Nat.mul_comm y x]; omega
      rw [Nat.mul_add] at e3
      omega
    · obtain ⟨y, hy⟩ : ∃ y, x = (b + 1) + y := ⟨x - (b + 1), by omega⟩
      generalize b + 1 = z at *
      subst hy
      have : (z + y) * (z + y) = z * z + 2 * (z * y) + y * y := by
        rw [Nat.add_mul, Nat.mul_add, Nat.mul_add, Nat.mul_comm y z]; omega
      have : (z + y) * z = z * z + z * y := by rw [Nat.add_mul, Nat.mul_comm y z]
      omega
end Nm
namespace Nm
/-- the relation between two numbers and the rests that some steps of Euclid's algorithm make of them -/
structure Eu (A C p r s t h o : Nat) : Prop where
  e1 : h + r * C = p * A
  e2 : o + s * A = t * C
  e3 : p * t = 1 + r * s

theorem Eu.start (A C : Nat) : Eu A C 1 0 0 1 A C := ⟨by simp, by simp, by simp⟩

theorem Eu.step {A C p r s t h o : Nat} (e : Eu A C p r s t h o) (q rest : Nat) (hq : h = q * o + rest) : Eu C A t s (r + q * t) (p + q * s) o rest := by
  obtain ⟨e1, e2, e3⟩ := e
  refine ⟨e2, ?_, ?_⟩
  · have k := congrArg (q * ·) e2
    simp only [Nat.mul_add] at k
    rw [Nat.add_mul, Nat.add_mul, Nat.mul_assoc, Nat.mul_assoc]
    omega
  · rw [Nat.mul_add, Nat.mul_add, Nat.mul_comm t p, Nat.mul_comm s r, e3, Nat.mul_left_comm t q s, Nat.mul_left_comm s q t, Nat.mul_comm t s]
    omega

/-- and back -/
theorem Eu.back {A C p r s t h o : Nat} (e : Eu A C p r s t h o) : A = t * h + r * o ∧ C = s * h + p * o := by
  obtain ⟨e1, e2, e3⟩ := e
  have a1 : t * h + t * (r * C) = t * (p * A) := by rw [← Nat.mul_add, e1]
  have a2 : r * o + r * (s * A) = r * (t * C) := by rw [← Nat.mul_add, e2]
  have a3 : s * h + s * (r * C) = s * (p * A) := by rw [← Nat.mul_add, e1]
  have a4 : p * o + p * (s * A) = p * (t * C) := by rw [← Nat.mul_add, e2]
  have b1 : t * (p * A) = A + r * (s * A) := by rw [← Nat.mul_assoc, Nat.mul_comm t p, e3, Nat.add_mul, Nat.one_mul, Nat.mul_assoc]
  have b2 : p * (t * C) = C + s * (r * C) := by rw [← Nat.mul_assoc, e3, Nat.add_mul, Nat.one_mul, Nat.mul_comm r s, Nat.mul_assoc]
  have b3 : t * (r * C) = r * (t * C) := Nat.mul_left_comm _ _ _
  have b4 : p * (s * A) = s * (p * A) := Nat.mul_left_comm _ _ _
  omega

/-- the same steps, carried out on numbers that begin with these -/
theorem Eu.lift {A C p r s t h o : Nat} (e : Eu A C p r s t h o) {K a' c' a c M0 M1 : Nat} (ha : a' < K) (hc : c' < K) (ea : a = A * K + a') (ec : c = C * K + c')
    (hr : r ≤ M0) (hs : s ≤ M1) (ht : t ≤ M1) (hM : 1 ≤ M1) (h1 : M1 ≤ o) (h2 : o + M0 + M1 ≤ h) :
    r * c ≤ p * a ∧ s * a ≤ t * c ∧ t * c - s * a < p * a - r * c ∧ Eu a c p r s t (p * a - r * c) (t * c - s * a) := by
  obtain ⟨e1, e2, e3⟩ := e
  have f1 : h * K + r * (C * K) = p * (A * K) := by rw [← Nat.mul_assoc, ← Nat.mul_assoc, ← Nat.add_mul, e1]
  have f2 : o * K + s * (A * K) = t * (C * K) := by rw [← Nat.mul_assoc, ← Nat.mul_assoc, ← Nat.add_mul, e2]
  have g1 : p * a = p * (A * K) + p * a' := by rw [ea, Nat.mul_add]
  have g2 : r * c = r * (C * K) + r * c' := by rw [ec, Nat.mul_add]
  have g3 : s * a = s * (A * K) + s * a' := by rw [ea, Nat.mul_add]
  have g4 : t * c = t * (C * K) + t * c' := by rw [ec, Nat.mul_add]
  have k1 : r * c' ≤ M0 * c' := Nat.mul_le_mul_right _ hr
  have k2 : s * a' ≤ M1 * a' := Nat.mul_le_mul_right _ hs
  have k3 : t * c' ≤ M1 * c' := Nat.mul_le_mul_right _ ht
  have k4 : M1 * a' ≤ M1 * K := Nat.mul_le_mul_left _ (by omega)
  have k5 : M1 * K ≤ o * K := Nat.mul_le_mul_right _ h1
  have k6 : (o + M0 + M1) * K ≤ h * K := Nat.mul_le_mul_right _ h2
  rw [Nat.add_mul, Nat.add_mul] at k6
  have k7 : M0 * c' ≤ M0 * K := Nat.mul_le_mul_left _ (by omega)
  have k8 : M1 * (c' + 1) ≤ M1 * K := Nat.mul_le_mul_left _ (by omega)
  rw [Nat.mul_add, Nat.mul_one] at k8
  have c1 : r * c ≤ p * a := by omega
  have c2 : s * a ≤ t * c := by omega
  exact ⟨c1, c2, by omega, ⟨by omega, by omega, e3⟩⟩

theorem Eu.gcd {A C p r s t h o : Nat} (e : Eu A C p r s t h o) : Nat.gcd h o = Nat.gcd A C := by
  obtain ⟨b1, b2⟩ := e.back
  obtain ⟨e1, e2, e3⟩ := e
  apply Nat.dvd_antisymm
  · apply Nat.dvd_gcd
    · rw [b1]; exact Nat.dvd_add (Nat.dvd_mul_left_of_dvd (Nat.gcd_dvd_left h o) _) (Nat.dvd_mul_left_of_dvd (Nat.gcd_dvd_right h o) _)
    · rw [b2]; exact Nat.dvd_add (Nat.dvd_mul_left_of_dvd (Nat.gcd_dvd_left h o) _) (Nat.dvd_mul_left_of_dvd (Nat.gcd_dvd_right h o) _)
  · apply Nat.dvd_gcd
    · have : Nat.gcd A C ∣ h + r * C := by rw [e1]; exact Nat.dvd_mul_left_of_dvd (Nat.gcd_dvd_left A C) _
      exact (Nat.dvd_add_left (Nat.dvd_mul_left_of_dvd (Nat.gcd_dvd_right A C) _)).1 this
    · have : Nat.gcd A C ∣ o + s * A := by rw [e2]; exact Nat.dvd_mul_left_of_dvd (Nat.gcd_dvd_right A C) _
      exact (Nat.dvd_add_left (Nat.dvd_mul_left_of_dvd (Nat.gcd_dvd_left A C) _)).1 this
end Nm
