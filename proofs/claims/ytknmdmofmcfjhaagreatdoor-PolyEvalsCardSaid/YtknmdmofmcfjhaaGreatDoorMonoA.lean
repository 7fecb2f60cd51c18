/-
  Plain facts on lists of exponents: zeros at the end, products, the order. No program is mentioned here.
-/
namespace Nm
/-- without zeros at the end -/
def trimZ : List Int → List Int
  | [] => []
  | x :: xs => if trimZ xs = [] ∧ x = 0 then [] else x :: trimZ xs

theorem trimZ_eq_take (xs : List Int) : trimZ xs = xs.take (trimZ xs).length := by
  induction xs with
  | nil => rfl
  | cons x xs ih =>
    simp only [trimZ]
    split
    · simp
    · simp [← ih]
theorem trimZ_length_le (xs : List Int) : (trimZ xs).length ≤ xs.length := by
  rw [trimZ_eq_take]; simp; omega
theorem trimZ_snoc_zero (xs : List Int) : trimZ (xs ++ [0]) = trimZ xs := by
  induction xs with
  | nil => simp [trimZ]
  | cons x xs ih => simp [trimZ, ih]
theorem trimZ_snoc {xs : List Int} {x : Int} (hx : x ≠ 0) : trimZ (xs ++ [x]) = xs ++ [x] := by
  induction xs with
  | nil => simp [trimZ, hx]
  | cons y xs ih => simp [trimZ, ih]
theorem trimZ_last (xs : List Int) : (trimZ xs).getLast? ≠ some 0 := by
  induction xs with
  | nil => simp [trimZ]
  | cons x xs ih =>
    simp only [trimZ]
    split
    · simp
    · rename_i hn
      by_cases he : trimZ xs = []
      · rw [he]; simp; intro hx; exact hn ⟨he, hx⟩
      · obtain ⟨y, ys, e⟩ := List.exists_cons_of_ne_nil he
        rw [e, List.getLast?_cons_cons, ← e]; exact ih
theorem trimZ_id {xs : List Int} (h : xs.getLast? ≠ some 0) : trimZ xs = xs := by
  rcases List.eq_nil_or_concat xs with rfl | ⟨ys, x, rfl⟩
  · rfl
  · rw [List.concat_eq_append] at h ⊢
    exact trimZ_snoc (by simpa using h)

/-- the exponent of variable i -/
def ex (xs : List Int) (i : Nat) : Int := xs[i]?.getD 0

theorem ex_nil (i : Nat) : ex [] i = 0 := by simp [ex]
theorem ex_zero (x : Int) (xs : List Int) : ex (x :: xs) 0 = x := by simp [ex]
theorem ex_succ (x : Int) (xs : List Int) (i : Nat) : ex (x :: xs) (i + 1) = ex xs i := by simp [ex]
theorem ex_lt {xs : List Int} {i : Nat} (h : i < xs.length) : ex xs i = xs[i] := by simp [ex, h]
theorem ex_ge {xs : List Int} {i : Nat} (h : xs.length ≤ i) : ex xs i = 0 := by simp [ex, h]
theorem ex_trimZ (xs : List Int) (i : Nat) : ex (trimZ xs) i = ex xs i := by
  induction xs generalizing i with
  | nil => rfl
  | cons x xs ih =>
    simp only [trimZ]
    split
    · rename_i h
      cases i with
      | zero => rw [ex_nil, ex_zero, h.2]
      | succ i => rw [ex_nil, ex_succ, ← ih, h.1, ex_nil]
    · cases i with
      | zero => rw [ex_zero, ex_zero]
      | succ i => rw [ex_succ, ex_succ, ih]
theorem last_ex {xs : List Int} (h : xs.getLast? ≠ some 0) (hp : 0 < xs.length) : ex xs (xs.length - 1) ≠ 0 := by
  intro e
  apply h
  rw [List.getLast?_eq_getElem?]
  rw [ex_lt (by omega)] at e
  rw [List.getElem?_eq_getElem (by omega), e]
theorem length_of_ex {xs ys : List Int} (hy : ys.getLast? ≠ some 0) (h : ∀ i, ex xs i = 0 → ex ys i = 0) : ys.length ≤ xs.length := by
  rcases Nat.lt_or_ge xs.length ys.length with hl | hl
  · exact absurd (h (ys.length - 1) (ex_ge (by omega))) (last_ex hy (by omega))
  · exact hl
theorem ext_ex {xs ys : List Int} (hx : xs.getLast? ≠ some 0) (hy : ys.getLast? ≠ some 0) (h : ∀ i, ex xs i = ex ys i) : xs = ys := by
  have h1 := length_of_ex hy fun i e => (h i).symm.trans e
  have h2 := length_of_ex hx fun i e => (h i).trans e
  refine List.ext_getElem (by omega) fun i hi hj => ?_
  have := h i
  rwa [ex_lt hi, ex_lt hj] at this

/-- what f makes of the exponents -/
def combZ (f : Int → Int → Int) (xs ys : List Int) : List Int := (List.range (max xs.length ys.length)).map fun i => f (ex xs i) (ex ys i)
theorem combZ_length (f : Int → Int → Int) (xs ys : List Int) : (combZ f xs ys).length = max xs.length ys.length := by simp [combZ]
theorem ex_combZ {f : Int → Int → Int} (h0 : f 0 0 = 0) (xs ys : List Int) (i : Nat) : ex (combZ f xs ys) i = f (ex xs i) (ex ys i) := by
  rcases Nat.lt_or_ge i (max xs.length ys.length) with h | h
  · rw [ex_lt (by rw [combZ_length]; exact h)]; simp [combZ]
  · rw [ex_ge (by rw [combZ_length]; exact h), ex_ge (Nat.le_trans (Nat.le_max_left _ _) h), ex_ge (Nat.le_trans (Nat.le_max_right _ _) h), h0]

/-- valid lists of exponents -/
structure RightZ (B : Int) (xs : List Int) : Prop where
  len : xs.length ≤ 64
  last : xs.getLast? ≠ some 0
  bound : ∀ x ∈ xs, 0 ≤ x ∧ x ≤ B
instance (B : Int) (xs : List Int) : Decidable (RightZ B xs) :=
  decidable_of_iff (xs.length ≤ 64 ∧ xs.getLast? ≠ some 0 ∧ ∀ x ∈ xs, 0 ≤ x ∧ x ≤ B) ⟨fun h => ⟨h.1, h.2.1, h.2.2⟩, fun h => ⟨h.1, h.2, h.3⟩⟩
theorem RightZ.nil {B : Int} : RightZ B [] := ⟨by simp, by simp, by simp⟩
theorem RightZ.ex {B : Int} {xs : List Int} (h : RightZ B xs) (hB : 0 ≤ B) (i : Nat) : 0 ≤ ex xs i ∧ Nm.ex xs i ≤ B := by
  rcases Nat.lt_or_ge i xs.length with hi | hi
  · rw [ex_lt hi]; exact h.bound _ (List.getElem_mem hi)
  · rw [ex_ge hi]; omega
theorem RightZ.mono {B C : Int} {xs : List Int} (h : RightZ B xs) (hB : B ≤ C) : RightZ C xs := ⟨h.len, h.last, fun x hx => ⟨(h.bound x hx).1, Int.le_trans (h.bound x hx).2 hB⟩⟩
theorem mem_ex {xs : List Int} {x : Int} (h : x ∈ xs) : ∃ i, i < xs.length ∧ ex xs i = x := by
  obtain ⟨i, hi, rfl⟩ := List.getElem_of_mem h
  exact ⟨i, hi, ex_lt hi⟩
/-- a combination of valid lists is valid -/
theorem RightZ.comb {B C : Int} {f : Int → Int → Int} {xs ys : List Int} (hx : RightZ B xs) (hy : RightZ B ys) (h0 : f 0 0 = 0) (hf : ∀ i, 0 ≤ f (Nm.ex xs i) (Nm.ex ys i) ∧ f (Nm.ex xs i) (Nm.ex ys i) ≤ C) : RightZ C (trimZ (combZ f xs ys)) := by
  have h1 := hx.len
  have h2 := hy.len
  refine ⟨?_, trimZ_last _, fun x h => ?_⟩
  · have := trimZ_length_le (combZ f xs ys)
    rw [combZ_length] at this
    omega
  · obtain ⟨i, _, rfl⟩ := mem_ex h
    rw [ex_trimZ, ex_combZ h0]; exact hf i

/-! ### the order -/
/-- the order of two numbers as -1, 0, 1 -/
def cmpZ (x y : Int) : Int := if x < y then -1 else if y < x then 1 else 0
theorem cmpZ_neg (x y : Int) : cmpZ y x = -(cmpZ x y) := by unfold cmpZ; (repeat' split) <;> omega
theorem cmpZ_zero (x y : Int) : cmpZ x y = 0 ↔ x = y := by unfold cmpZ; (repeat' split) <;> omega
theorem cmpZ_add (x y z : Int) : cmpZ (x + z) (y + z) = cmpZ x y := by unfold cmpZ; (repeat' split) <;> omega
theorem cmpZ_bound (x y : Int) : -1 ≤ cmpZ x y ∧ cmpZ x y ≤ 1 := by unfold cmpZ; (repeat' split) <;> omega
theorem cmpZ_le (x y : Int) : cmpZ x y ≤ 0 ↔ x ≤ y := by unfold cmpZ; (repeat' split) <;> omega
theorem cmpZ_self (x : Int) : cmpZ x x = 0 := (cmpZ_zero x x).2 rfl

/-- the order of n exponents, the last one first -/
def lexZ (u v : Nat → Int) : Nat → Int
  | 0 => 0
  | n + 1 => if u n = v n then lexZ u v n else cmpZ (u n) (v n)
theorem lexZ_neg (u v : Nat → Int) (n : Nat) : lexZ v u n = -(lexZ u v n) := by
  induction n with
  | zero => rfl
  | succ n ih =>
    simp only [lexZ]
    by_cases h : u n = v n
    · rw [if_pos h, if_pos h.symm, ih]
    · rw [if_neg h, if_neg (fun e => h e.symm), cmpZ_neg]
theorem lexZ_zero (u v : Nat → Int) (n : Nat) : lexZ u v n = 0 ↔ ∀ i, i < n → u i = v i := by
  induction n with
  | zero => simp [lexZ]
  | succ n ih =>
    simp only [lexZ]
    by_cases h : u n = v n
    · rw [if_pos h, ih]
      refine ⟨fun k i hi => ?_, fun k i hi => k i (by omega)⟩
      by_cases e : i = n
      · rw [e, h]
      · exact k i (by omega)
    · rw [if_neg h, cmpZ_zero]
      exact ⟨fun e => absurd e h, fun k => k n (by omega)⟩
theorem lexZ_add (u v z : Nat → Int) (n : Nat) : lexZ (fun i => u i + z i) (fun i => v i + z i) n = lexZ u v n := by
  induction n with
  | zero => rfl
  | succ n ih =>
    simp only [lexZ]
    rw [ih, cmpZ_add]
    by_cases h : u n = v n
    · rw [if_pos h, if_pos (by rw [h])]
    · rw [if_neg h, if_neg (by omega)]
theorem lexZ_congr {u v u' v' : Nat → Int} (hu : ∀ i, u i = u' i) (hv : ∀ i, v i = v' i) (n : Nat) : lexZ u v n = lexZ u' v' n := by
  rw [show u = u' from funext hu, show v = v' from funext hv]
theorem lexZ_more {u v : Nat → Int} {n m : Nat} (hm : n ≤ m) (h : ∀ i, n ≤ i → u i = v i) : lexZ u v m = lexZ u v n := by
  induction m with
  | zero => rw [Nat.le_zero.1 hm]
  | succ m ih =>
    rcases Nat.eq_or_lt_of_le hm with e | hlt
    · rw [← e]
    · simp only [lexZ]
      rw [if_pos (h m (by omega)), ih (by omega)]
theorem lexZ_trans {u v z : Nat → Int} {n : Nat} (h1 : lexZ u v n ≤ 0) (h2 : lexZ v z n ≤ 0) : lexZ u z n ≤ 0 := by
  induction n with
  | zero => simp [lexZ]
  | succ n ih =>
    simp only [lexZ] at h1 h2 ⊢
    by_cases a : u n = v n
    · rw [if_pos a] at h1
      by_cases b : v n = z n
      · rw [if_pos b] at h2
        rw [if_pos (a.trans b)]; exact ih h1 h2
      · rw [if_neg b] at h2
        rw [if_neg (by rw [a]; exact b), a]; exact h2
    · rw [if_neg a, cmpZ_le] at h1
      by_cases b : v n = z n
      · rw [if_neg (by rw [← b]; exact a), ← b, cmpZ_le]; exact h1
      · rw [if_neg b, cmpZ_le] at h2
        rw [if_neg (by omega), cmpZ_le]; omega
theorem lexZ_bound (u v : Nat → Int) (n : Nat) : -1 ≤ lexZ u v n ∧ lexZ u v n ≤ 1 := by
  induction n with
  | zero => simp [lexZ]
  | succ n ih =>
    simp only [lexZ]
    split
    · exact ih
    · exact cmpZ_bound _ _

/-- the order of two lists -/
def lexL (xs ys : List Int) : Int := lexZ (ex xs) (ex ys) (max xs.length ys.length)
theorem lexL_of (xs ys : List Int) {n : Nat} (h1 : xs.length ≤ n) (h2 : ys.length ≤ n) : lexL xs ys = lexZ (ex xs) (ex ys) n := by
  unfold lexL
  refine (lexZ_more (by omega) fun i hi => ?_).symm
  rw [ex_ge (by omega), ex_ge (by omega)]

/-- the sum of the first n exponents -/
def sumN (u : Nat → Int) : Nat → Int
  | 0 => 0
  | n + 1 => sumN u n + u n
theorem sumN_more {u : Nat → Int} {n m : Nat} (hm : n ≤ m) (h : ∀ i, n ≤ i → u i = 0) : sumN u m = sumN u n := by
  induction m with
  | zero => rw [Nat.le_zero.1 hm]
  | succ m ih =>
    rcases Nat.eq_or_lt_of_le hm with e | hlt
    · rw [← e]
    · simp only [sumN]
      rw [h m (by omega), ih (by omega)]; omega
theorem sumN_add (u v : Nat → Int) (n : Nat) : sumN (fun i => u i + v i) n = sumN u n + sumN v n := by
  induction n with
  | zero => rfl
  | succ n ih => simp only [sumN, ih]; omega
theorem sumN_nonneg {u : Nat → Int} (h : ∀ i, 0 ≤ u i) (n : Nat) : 0 ≤ sumN u n := by
  induction n with
  | zero => simp [sumN]
  | succ n ih => simp only [sumN]; have := h n; omega
theorem sumN_le {u : Nat → Int} {B : Int} (h : ∀ i, u i ≤ B) (n : Nat) : sumN u n ≤ n * B := by
  induction n with
  | zero => simp [sumN]
  | succ n ih =>
    simp only [sumN]; have := h n
    rw [show ((n + 1 : Nat) : Int) = n + 1 by omega, Int.add_mul]; omega
def degZ (xs : List Int) : Int := sumN (ex xs) xs.length
theorem degZ_of (xs : List Int) {n : Nat} (h : xs.length ≤ n) : degZ xs = sumN (ex xs) n :=
  (sumN_more h fun _ hi => ex_ge hi).symm
theorem degZ_mul (xs ys : List Int) : degZ (trimZ (combZ (· + ·) xs ys)) = degZ xs + degZ ys := by
  have hl := trimZ_length_le (combZ (· + ·) xs ys)
  rw [combZ_length] at hl
  rw [degZ_of _ hl, degZ_of xs (Nat.le_max_left xs.length ys.length), degZ_of ys (Nat.le_max_right xs.length ys.length), ← sumN_add]
  congr 1
  funext i
  rw [ex_trimZ, ex_combZ (by rfl)]

/-- the order: by the degree first if it is order 1 -/
def ordZ (o : Int) (xs ys : List Int) : Int := if o = 1 ∧ degZ xs ≠ degZ ys then cmpZ (degZ xs) (degZ ys) else lexL xs ys
end Nm
