/-
  Plain laws of monomials as lists of exponents: products, quotients, least common multiples, orders. No program is mentioned here.
-/
import Derived.Test.YtcmbdnkfihanmaaMonoA
namespace Nm
/-- the product -/
abbrev mulZ (xs ys : List Int) : List Int := trimZ (combZ (· + ·) xs ys)
/-- the least common multiple -/
abbrev lcmZ (xs ys : List Int) : List Int := trimZ (combZ max xs ys)
theorem ex_mulZ (xs ys : List Int) (i : Nat) : ex (mulZ xs ys) i = ex xs i + ex ys i := by rw [ex_trimZ, ex_combZ (by rfl)]
theorem ex_lcmZ (xs ys : List Int) (i : Nat) : ex (lcmZ xs ys) i = max (ex xs i) (ex ys i) := by rw [ex_trimZ, ex_combZ (by rfl)]
theorem ex_quoZ (xs ys : List Int) (i : Nat) : ex (trimZ (combZ (· - ·) xs ys)) i = ex xs i - ex ys i := by rw [ex_trimZ, ex_combZ (by rfl)]

theorem mulZ_right {B C D : Int} {xs ys : List Int} (hx : RightZ B xs) (hy : RightZ C ys) (hB : 0 ≤ B) (hC : 0 ≤ C) (hD : B + C ≤ D) : RightZ D (mulZ xs ys) :=
  (hx.mono (show B ≤ B + C by omega)).comb (hy.mono (show C ≤ B + C by omega)) (by rfl) fun i => by have := hx.ex hB i; have := hy.ex hC i; omega
theorem lcmZ_right {B D : Int} {xs ys : List Int} (hx : RightZ B xs) (hy : RightZ B ys) (hB : 0 ≤ B) (hD : B ≤ D) : RightZ D (lcmZ xs ys) :=
  hx.comb hy (by rfl) fun i => by have := hx.ex hB i; have := hy.ex hB i; omega
/-- without zeros at the end, where none can stand -/
theorem combZ_id {B C : Int} {f : Int → Int → Int} {xs ys : List Int} (hx : RightZ B xs) (hy : RightZ C ys) (hB : 0 ≤ B) (hC : 0 ≤ C)
    (hf : ∀ x y, 0 ≤ x → 0 ≤ y → f x y = 0 → x = 0 ∧ y = 0) : trimZ (combZ f xs ys) = combZ f xs ys := by
  refine trimZ_id fun e => ?_
  rw [List.getLast?_eq_getElem?, combZ_length] at e
  obtain ⟨hl, e⟩ := List.getElem?_eq_some_iff.1 e
  rw [combZ_length] at hl
  have e2 : f (ex xs (max xs.length ys.length - 1)) (ex ys (max xs.length ys.length - 1)) = 0 := by rw [← e]; simp [combZ]
  obtain ⟨z1, z2⟩ := hf _ _ (hx.ex hB _).1 (hy.ex hC _).1 e2
  rcases Nat.le_total xs.length ys.length with h | h
  · have e3 : max xs.length ys.length = ys.length := by omega
    rw [e3] at z2 hl
    exact last_ex hy.last (by omega) z2
  · have e3 : max xs.length ys.length = xs.length := by omega
    rw [e3] at z1 hl
    exact last_ex hx.last (by omega) z1
theorem mulZ_id {B C : Int} {xs ys : List Int} (hx : RightZ B xs) (hy : RightZ C ys) (hB : 0 ≤ B) (hC : 0 ≤ C) : mulZ xs ys = combZ (· + ·) xs ys :=
  combZ_id hx hy hB hC fun x y _ _ e => by have e : x + y = 0 := e; omega
theorem lcmZ_id {B C : Int} {xs ys : List Int} (hx : RightZ B xs) (hy : RightZ C ys) (hB : 0 ≤ B) (hC : 0 ≤ C) : lcmZ xs ys = combZ max xs ys :=
  combZ_id hx hy hB hC fun x y _ _ e => by omega
theorem mulZ_comm (xs ys : List Int) : mulZ xs ys = mulZ ys xs :=
  ext_ex (trimZ_last _) (trimZ_last _) fun i => by rw [ex_mulZ, ex_mulZ]; omega
theorem mulZ_assoc (xs ys zs : List Int) : mulZ zs (mulZ xs ys) = mulZ (mulZ zs xs) ys :=
  ext_ex (trimZ_last _) (trimZ_last _) fun i => by rw [ex_mulZ, ex_mulZ, ex_mulZ, ex_mulZ]; omega
theorem quo_mul {xs ys : List Int} (hx : xs.getLast? ≠ some 0) : trimZ (combZ (· - ·) (mulZ xs ys) ys) = xs :=
  ext_ex (trimZ_last _) hx fun i => by rw [ex_quoZ, ex_mulZ]; omega

/-! ### the orders -/
theorem ordZ_bound (o : Int) (xs ys : List Int) : -1 ≤ ordZ o xs ys ∧ ordZ o xs ys ≤ 1 := by
  unfold ordZ
  split
  · exact cmpZ_bound _ _
  · exact lexZ_bound _ _ _
theorem ordZ_neg (o : Int) (xs ys : List Int) : ordZ o ys xs = -(ordZ o xs ys) := by
  unfold ordZ
  by_cases h : o = 1 ∧ degZ xs ≠ degZ ys
  · rw [if_pos h, if_pos ⟨h.1, fun e => h.2 e.symm⟩, cmpZ_neg]
  · rw [if_neg h, if_neg (fun k => h ⟨k.1, fun e => k.2 e.symm⟩)]
    unfold lexL
    rw [Nat.max_comm, lexZ_neg]
theorem lexL_zero {xs ys : List Int} (hx : xs.getLast? ≠ some 0) (hy : ys.getLast? ≠ some 0) : lexL xs ys = 0 ↔ xs = ys := by
  unfold lexL
  rw [lexZ_zero]
  refine ⟨fun h => ext_ex hx hy fun i => ?_, fun e i _ => by rw [e]⟩
  rcases Nat.lt_or_ge i (max xs.length ys.length) with hi | hi
  · exact h i hi
  · rw [ex_ge (by omega), ex_ge (by omega)]
theorem ordZ_zero (o : Int) {xs ys : List Int} (hx : xs.getLast? ≠ some 0) (hy : ys.getLast? ≠ some 0) : ordZ o xs ys = 0 ↔ xs = ys := by
  unfold ordZ
  by_cases h : o = 1 ∧ degZ xs ≠ degZ ys
  · rw [if_pos h, cmpZ_zero]
    exact ⟨fun e => absurd e h.2, fun e => by rw [e]⟩
  · rw [if_neg h]; exact lexL_zero hx hy
theorem lexL_mul (xs ys zs : List Int) : lexL (mulZ xs zs) (mulZ ys zs) = lexL xs ys := by
  have h1 := trimZ_length_le (combZ (· + ·) xs zs)
  have h2 := trimZ_length_le (combZ (· + ·) ys zs)
  rw [combZ_length] at h1 h2
  rw [lexL_of (n := xs.length + ys.length + zs.length) _ _ (Nat.le_trans h1 (by omega)) (Nat.le_trans h2 (by omega)), lexL_of (n := xs.length + ys.length + zs.length) xs ys (by omega) (by omega),
    lexZ_congr (ex_mulZ xs zs) (ex_mulZ ys zs), lexZ_add]
theorem ordZ_mul (o : Int) (xs ys zs : List Int) : ordZ o (mulZ xs zs) (mulZ ys zs) = ordZ o xs ys := by
  unfold ordZ
  rw [degZ_mul, degZ_mul, cmpZ_add, lexL_mul]
  by_cases h : o = 1 ∧ degZ xs ≠ degZ ys
  · rw [if_pos h, if_pos ⟨h.1, by have := h.2; omega⟩]
  · rw [if_neg h, if_neg (fun k => h ⟨k.1, by have := k.2; omega⟩)]
theorem lexL_trans {xs ys zs : List Int} (h1 : lexL xs ys ≤ 0) (h2 : lexL ys zs ≤ 0) : lexL xs zs ≤ 0 := by
  rw [lexL_of (n := xs.length + ys.length + zs.length) _ _ (by omega) (by omega)] at h1 h2 ⊢
  exact lexZ_trans h1 h2
theorem ordZ_trans (o : Int) {xs ys zs : List Int} (h1 : ordZ o xs ys ≤ 0) (h2 : ordZ o ys zs ≤ 0) : ordZ o xs zs ≤ 0 := by
  unfold ordZ at h1 h2 ⊢
  by_cases ho : o = 1
  · by_cases a : degZ xs = degZ ys
    · rw [if_neg (fun h => h.2 a)] at h1
      by_cases b : degZ ys = degZ zs
      · rw [if_neg (fun h => h.2 b)] at h2
        rw [if_neg (fun h => h.2 (a.trans b))]
        exact lexL_trans h1 h2
      · rw [if_pos ⟨ho, b⟩] at h2
        rw [if_pos ⟨ho, by rw [a]; exact b⟩, a]; exact h2
    · rw [if_pos ⟨ho, a⟩, cmpZ_le] at h1
      by_cases b : degZ ys = degZ zs
      · rw [if_pos ⟨ho, by rw [← b]; exact a⟩, cmpZ_le, ← b]; exact h1
      · rw [if_pos ⟨ho, b⟩, cmpZ_le] at h2
        rw [if_pos ⟨ho, by omega⟩, cmpZ_le]; omega
  · rw [if_neg (fun h => ho h.1)] at h1 h2 ⊢
    exact lexL_trans h1 h2
theorem lexZ_low {u v : Nat → Int} (n : Nat) (h : ∀ i, u i ≤ v i) : lexZ u v n ≤ 0 := by
  induction n with
  | zero => simp [lexZ]
  | succ n ih =>
    simp only [lexZ]
    split
    · exact ih
    · rw [cmpZ_le]; exact h n
theorem ordZ_nil (o : Int) {B : Int} {xs : List Int} (hx : RightZ B xs) (hB : 0 ≤ B) : ordZ o [] xs ≤ 0 := by
  have h : ∀ i, ex [] i ≤ ex xs i := fun i => by rw [ex_nil]; exact (hx.ex hB i).1
  unfold ordZ
  by_cases k : o = 1 ∧ degZ [] ≠ degZ xs
  · rw [if_pos k, cmpZ_le]
    exact sumN_nonneg (fun i => (hx.ex hB i).1) _
  · rw [if_neg k]; exact lexZ_low _ h
end Nm
