/-
  Plain arithmetic of Lehmer's steps: what the leading bits determine. No program is mentioned here.
-/
import Derived.Test.YtdmlcddieadelaaArith
set_option linter.unusedVariables false
namespace Nm
/-- what some steps of Euclid's algorithm on the leading bits A and C have made of them: the rests h and o, and their cofactors -/
structure Es (A C x0 y0 x1 y1 n h o : Nat) : Prop where
  eu : (n % 2 = 0 ∧ Eu A C x0 y0 x1 y1 h o) ∨ (n % 2 = 1 ∧ Eu C A y0 x0 y1 x1 h o)
  le : o ≤ h
  some : (n = 0 ∧ x0 = 1 ∧ y0 = 0 ∧ x1 = 0 ∧ y1 = 1) ∨ (1 ≤ n ∧ x0 ≤ y0 ∧ x1 ≤ y1 ∧ 1 ≤ y0 ∧ 1 ≤ x1 ∧ y1 ≤ o ∧ o + y0 + y1 ≤ h ∧ n ≤ y1)

theorem Es.start {A C : Nat} (h : C ≤ A) : Es A C 1 0 0 1 0 A C := ⟨.inl ⟨rfl, Eu.start A C⟩, h, .inl ⟨rfl, rfl, rfl, rfl, rfl⟩⟩

theorem Es.back {A C x0 y0 x1 y1 n h o : Nat} (e : Es A C x0 y0 x1 y1 n h o) : A = y1 * h + y0 * o ∧ C = x1 * h + x0 * o := by
  rcases e.eu with ⟨_, k⟩ | ⟨_, k⟩
  · exact k.back
  · exact ⟨k.back.2, k.back.1⟩

/-- the next cofactors fit -/
theorem Es.fits {A C x0 y0 x1 y1 n h o : Nat} (e : Es A C x0 y0 x1 y1 n h o) (ho : 0 < o) :
    (y0 + h / o * y1) * o ≤ A ∧ (x0 + h / o * x1) * o ≤ C ∧ y0 + h / o * y1 ≤ A ∧ x0 + h / o * x1 ≤ C ∧ 1 ≤ h / o := by
  obtain ⟨b1, b2⟩ := e.back
  have hq : h / o * o ≤ h := Nat.div_mul_le_self h o
  have f1 : (y0 + h / o * y1) * o ≤ A := by
    rw [b1, Nat.add_mul, Nat.mul_right_comm]
    have := Nat.mul_le_mul_right y1 hq
    rw [Nat.mul_comm h y1] at this; omega
  have f2 : (x0 + h / o * x1) * o ≤ C := by
    rw [b2, Nat.add_mul, Nat.mul_right_comm]
    have := Nat.mul_le_mul_right x1 hq
    rw [Nat.mul_comm h x1] at this; omega
  refine ⟨f1, f2, Nat.le_trans (Nat.le_mul_of_pos_right _ ho) f1, Nat.le_trans (Nat.le_mul_of_pos_right _ ho) f2, (Nat.le_div_iff_mul_le ho).2 (by have := e.le; omega)⟩

theorem Es.next {A C x0 y0 x1 y1 n h o : Nat} (e : Es A C x0 y0 x1 y1 n h o) (ho : 0 < o) (h1 : y0 + h / o * y1 ≤ h % o) (h2 : y1 + (y0 + h / o * y1) ≤ o - h % o) :
    Es A C x1 y1 (x0 + h / o * x1) (y0 + h / o * y1) (n + 1) o (h % o) := by
  have hq := (e.fits ho).2.2.2.2
  have hrest := Nat.mod_lt h ho
  have hdm : h = h / o * o + h % o := by rw [Nat.mul_comm]; exact (Nat.div_add_mod h o).symm
  generalize h / o = q at *
  generalize h % o = r at *
  refine ⟨?_, by omega, .inr ⟨by omega, ?_, ?_, ?_, ?_, h1, by omega, ?_⟩⟩
  · rcases e.eu with ⟨k1, k⟩ | ⟨k1, k⟩
    · exact .inr ⟨by omega, k.step q r hdm⟩
    · exact .inl ⟨by omega, k.step q r hdm⟩
  · rcases e.some with ⟨_, _, _, rfl, rfl⟩ | ⟨_, _, h3, _⟩
    · omega
    · exact h3
  · rcases e.some with ⟨_, rfl, rfl, rfl, rfl⟩ | ⟨_, k0, k1, _⟩
    · omega
    · have := Nat.mul_le_mul_left q k1; omega
  · rcases e.some with ⟨_, _, _, _, rfl⟩ | ⟨k0, _, _, _, _, _, _, k7⟩
    · omega
    · omega
  · rcases e.some with ⟨_, rfl, _, _, _⟩ | ⟨_, _, _, _, k4, _⟩
    · omega
    · have := Nat.mul_le_mul hq k4; omega
  · rcases e.some with ⟨rfl, _, rfl, _, rfl⟩ | ⟨_, _, _, k3, _, _, _, k7⟩
    · omega
    · have := Nat.mul_le_mul_right y1 hq; omega

theorem half_lt {y A : Nat} (h : y * y ≤ A) (hA : A < 18446744073709551616) : y < 4294967296 := by
  refine Nat.lt_of_not_le fun hge => ?_
  have := Nat.mul_le_mul hge hge
  omega

/-- the same steps on numbers that begin with these bits -/
theorem Es.lift {A C x0 y0 x1 y1 n h o : Nat} (e : Es A C x0 y0 x1 y1 n h o) (hn : 1 ≤ n) {K a' c' a c : Nat} (ha : a' < K) (hc : c' < K) (ea : a = A * K + a') (ec : c = C * K + c') :
    ∃ H O, O < H ∧ Nat.gcd H O = Nat.gcd a c ∧ H + O < a + c ∧ H ≤ a ∧
      (n % 2 = 0 → y0 * c ≤ x0 * a ∧ H = x0 * a - y0 * c ∧ x1 * a ≤ y1 * c ∧ O = y1 * c - x1 * a) ∧ (n % 2 = 1 → x0 * a ≤ y0 * c ∧ H = y0 * c - x0 * a ∧ y1 * c ≤ x1 * a ∧ O = x1 * a - y1 * c) := by
  rcases e.some with ⟨k0, _⟩ | ⟨_, k1, k2, k3, k4, k5, k6, k7⟩
  · omega
  rcases e.eu with ⟨m, k⟩ | ⟨m, k⟩
  · obtain ⟨l1, l2, l3, l4⟩ := k.lift (M0 := y0) (M1 := y1) ha hc ea ec (Nat.le_refl _) k2 (Nat.le_refl _) (by omega) k5 (by omega)
    obtain ⟨b1, b2⟩ := l4.back
    generalize hH : x0 * a - y0 * c = H at *
    generalize hO : y1 * c - x1 * a = O at *
    have p1 : 1 * H ≤ y1 * H := Nat.mul_le_mul_right _ (by omega)
    have p2 : 1 * O ≤ y0 * O := Nat.mul_le_mul_right _ k3
    have p3 : 1 * H ≤ x1 * H := Nat.mul_le_mul_right _ k4
    exact ⟨H, O, l3, l4.gcd, by omega, by omega, fun _ => ⟨l1, hH.symm ▸ rfl, l2, hO.symm ▸ rfl⟩, fun h => by omega⟩
  · obtain ⟨l1, l2, l3, l4⟩ := k.lift (M0 := x0) (M1 := y1) hc ha ec ea (Nat.le_refl _) (Nat.le_refl _) k2 (by omega) k5 (by omega)
    obtain ⟨b1, b2⟩ := l4.back
    generalize hH : y0 * c - x0 * a = H at *
    generalize hO : x1 * a - y1 * c = O at *
    have p1 : 1 * H ≤ y1 * H := Nat.mul_le_mul_right _ (by omega)
    have p2 : 1 * O ≤ y0 * O := Nat.mul_le_mul_right _ k3
    have p3 : 1 * H ≤ x1 * H := Nat.mul_le_mul_right _ k4
    exact ⟨H, O, l3, by rw [l4.gcd, Nat.gcd_comm], by omega, by omega, fun h => by omega, fun _ => ⟨l1, hH.symm ▸ rfl, l2, hO.symm ▸ rfl⟩⟩
end Nm
