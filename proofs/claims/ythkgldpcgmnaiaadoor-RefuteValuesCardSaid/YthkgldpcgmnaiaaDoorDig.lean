/-
  Plain facts on digits: values of lists of digits, canonical digits, and steps of additions and subtractions. No program is mentioned here.
-/
namespace Nm
/-- the value of a list of digits in base B, the least significant one first -/
def V (B : Nat) : List Nat → Nat
  | [] => 0
  | x :: xs => x + B * V B xs

variable {B : Nat}

@[simp] theorem V_nil : V B [] = 0 := rfl
@[simp] theorem V_cons (x : Nat) (xs : List Nat) : V B (x :: xs) = x + B * V B xs := rfl

theorem V_append (xs ys : List Nat) : V B (xs ++ ys) = V B xs + B ^ xs.length * V B ys := by
  induction xs with
  | nil => simp
  | cons x xs ih => simp [ih, Nat.pow_succ, Nat.mul_add, Nat.add_assoc, Nat.mul_assoc, Nat.mul_comm]

theorem V_zeros (n : Nat) : V B (List.replicate n 0) = 0 := by
  induction n with
  | zero => rfl
  | succ n ih => simp [List.replicate_succ, ih]

theorem V_lt {xs : List Nat} (h : ∀ x ∈ xs, x < B) : V B xs < B ^ xs.length := by
  induction xs with
  | nil => simp
  | cons x xs ih =>
    have h1 : x < B := h x (by simp)
    have h2 := ih (fun y hy => h y (by simp [hy]))
    have h3 : V B xs + 1 ≤ B ^ xs.length := h2
    have h4 := Nat.mul_le_mul_left B h3
    simp only [V_cons, List.length_cons, Nat.pow_succ]
    rw [Nat.mul_add, Nat.mul_one] at h4
    rw [Nat.mul_comm (B ^ xs.length) B]
    omega

/-- one digit is replaced -/
theorem V_set (xs : List Nat) (i y : Nat) (h : i < xs.length) : V B (xs.set i y) + B ^ i * xs[i] = V B xs + B ^ i * y := by
  induction xs generalizing i with
  | nil => simp at h
  | cons x xs ih =>
    cases i with
    | zero => simp; omega
    | succ i =>
      have h' : i < xs.length := by simpa using h
      have := ih i h'
      have e := congrArg (B * ·) this
      simp only [Nat.mul_add] at e
      simp only [List.set_cons_succ, V_cons, List.getElem_cons_succ, Nat.pow_succ]
      rw [Nat.mul_comm (B ^ i) B, Nat.mul_assoc, Nat.mul_assoc]
      omega

theorem V_take_succ (xs : List Nat) (i : Nat) (h : i < xs.length) : V B (xs.take (i + 1)) = V B (xs.take i) + B ^ i * xs[i] := by
  rw [List.take_succ_eq_append_getElem h, V_append]
  simp [List.length_take, Nat.min_eq_left (Nat.le_of_lt h)]

theorem V_drop_succ (xs : List Nat) (i : Nat) (h : i < xs.length) : V B (xs.drop i) = xs[i] + B * V B (xs.drop (i + 1)) := by
  rw [List.drop_eq_getElem_cons h]; rfl

theorem V_take_drop (xs : List Nat) (i : Nat) (h : i ≤ xs.length) : V B xs = V B (xs.take i) + B ^ i * V B (xs.drop i) := by
  have := V_append (B := B) (xs.take i) (xs.drop i)
  rw [List.take_append_drop, List.length_take, Nat.min_eq_left h] at this
  exact this

/-- all digits are digits -/
def Dg (B : Nat) (xs : List Nat) : Prop := ∀ x ∈ xs, x < B

theorem Dg.nil : Dg B [] := fun _ h => by simp at h
theorem Dg.get {xs : List Nat} (h : Dg B xs) (i : Nat) (hi : i < xs.length) : xs[i] < B := h _ (List.getElem_mem hi)
theorem Dg.take {xs : List Nat} (h : Dg B xs) (i : Nat) : Dg B (xs.take i) := fun x hx => h x (List.mem_of_mem_take hx)
theorem Dg.drop {xs : List Nat} (h : Dg B xs) (i : Nat) : Dg B (xs.drop i) := fun x hx => h x (List.mem_of_mem_drop hx)
theorem Dg.append {xs ys : List Nat} (h : Dg B xs) (k : Dg B ys) : Dg B (xs ++ ys) := fun x hx => (List.mem_append.1 hx).elim (h x) (k x)
theorem Dg.cons {x : Nat} {xs : List Nat} (h : x < B) (k : Dg B xs) : Dg B (x :: xs) := fun y hy => by
  rcases List.mem_cons.1 hy with rfl | hy
  · exact h
  · exact k y hy
theorem Dg.set {xs : List Nat} (h : Dg B xs) (i y : Nat) (hy : y < B) : Dg B (xs.set i y) := fun x hx => by
  rcases List.mem_or_eq_of_mem_set hx with h1 | rfl
  · exact h x h1
  · exact hy
theorem Dg.zeros (hB : 0 < B) (n : Nat) : Dg B (List.replicate n 0) := fun x hx => by
  rw [List.eq_of_mem_replicate hx]; exact hB
theorem Dg.lt {xs : List Nat} (h : Dg B xs) : V B xs < B ^ xs.length := V_lt h

/-- canonical: digits, and no leading zero -/
def Can (B : Nat) (xs : List Nat) : Prop := Dg B xs ∧ xs.getLast? ≠ some 0

theorem Can.nil : Can B [] := ⟨Dg.nil, by simp⟩

theorem Can.tail {x : Nat} {xs : List Nat} (h : Can B (x :: xs)) : Can B xs := by
  refine ⟨fun y hy => h.1 y (by simp [hy]), ?_⟩
  cases xs with
  | nil => simp
  | cons y ys => simpa [List.getLast?_cons_cons] using h.2

theorem Can.pos {xs : List Nat} (hB : 0 < B) (h : Can B xs) (hne : xs ≠ []) : 0 < V B xs := by
  induction xs with
  | nil => exact (hne rfl).elim
  | cons x xs ih =>
    by_cases hx : xs = []
    · subst hx
      have : x ≠ 0 := fun e => h.2 (by simp [e])
      simp; omega
    · have := ih h.tail hx
      have := Nat.mul_pos hB this
      simp only [V_cons]; omega

theorem Can.unique {xs ys : List Nat} (hx : Can B xs) (hy : Can B ys) (h : V B xs = V B ys) : xs = ys := by
  induction xs generalizing ys with
  | nil =>
    cases ys with
    | nil => rfl
    | cons y ys =>
      have hB : 0 < B := Nat.lt_of_le_of_lt (Nat.zero_le _) (hy.1 y (by simp))
      have := hy.pos hB (by simp)
      simp only [V_nil] at h; omega
  | cons x xs ih =>
    have hB : 0 < B := Nat.lt_of_le_of_lt (Nat.zero_le _) (hx.1 x (by simp))
    cases ys with
    | nil =>
      have := hx.pos hB (by simp)
      simp only [V_nil] at h; omega
    | cons y ys =>
      have h1 : x < B := hx.1 x (by simp)
      have h2 : y < B := hy.1 y (by simp)
      simp only [V_cons] at h
      have e1 : x = y := by
        have := congrArg (· % B) h
        simp only [Nat.add_mul_mod_self_left, Nat.mod_eq_of_lt h1, Nat.mod_eq_of_lt h2] at this
        exact this
      subst e1
      have e2 : V B xs = V B ys := Nat.eq_of_mul_eq_mul_left hB (by omega)
      rw [ih hx.tail hy.tail e2]

theorem Can.low {xs : List Nat} (_hB : 0 < B) (h : Can B xs) (hne : xs ≠ []) : B ^ (xs.length - 1) ≤ V B xs := by
  induction xs with
  | nil => exact (hne rfl).elim
  | cons x xs ih =>
    by_cases hx : xs = []
    · subst hx
      have : x ≠ 0 := fun e => h.2 (by simp [e])
      simp; omega
    · have h1 := ih h.tail hx
      have hl : xs.length ≠ 0 := by simpa using hx
      have h2 := Nat.mul_le_mul_left B h1
      have e : B ^ ((x :: xs).length - 1) = B * B ^ (xs.length - 1) := by
        rw [← Nat.pow_succ']; congr 1; simp; omega
      rw [e]; simp only [V_cons]; omega

/-- canonical numbers: the longer one is greater -/
theorem Can.lt_of_length {xs ys : List Nat} (hB : 1 < B) (hx : Dg B xs) (hy : Can B ys) (h : xs.length < ys.length) : V B xs < V B ys := by
  have h1 := hx.lt
  have h2 := hy.low (by omega) (by intro e; subst e; simp at h)
  have h3 : B ^ xs.length ≤ B ^ (ys.length - 1) := Nat.pow_le_pow_right (by omega) (by omega)
  omega

/-- the canonical digits of a number -/
def dgF (B : Nat) : Nat → Nat → List Nat
  | 0, _ => []
  | f + 1, n => if n = 0 then [] else n % B :: dgF B f (n / B)

theorem dgF_spec (hB : 1 < B) : ∀ f n, n ≤ f → V B (dgF B f n) = n ∧ Can B (dgF B f n) := by
  intro f
  induction f with
  | zero => intro n hn; have : n = 0 := by omega
            subst this; exact ⟨rfl, Can.nil⟩
  | succ f ih =>
    intro n hn
    simp only [dgF]
    by_cases h0 : n = 0
    · rw [if_pos h0]; exact ⟨by simp [h0], Can.nil⟩
    · rw [if_neg h0]
      have hlt : n / B < n := Nat.div_lt_self (by omega) hB
      obtain ⟨h1, h2⟩ := ih (n / B) (by omega)
      have hm : n % B < B := Nat.mod_lt _ (by omega)
      refine ⟨by rw [V_cons, h1]; exact Nat.mod_add_div n B, Dg.cons hm h2.1, ?_⟩
      by_cases hz : n / B = 0
      · have e : dgF B f (n / B) = [] := by
          rw [hz]; cases f <;> simp [dgF]
        rw [e]
        have : n % B = n := Nat.mod_eq_of_lt ((Nat.div_eq_zero_iff_lt (by omega)).1 hz)
        simp [this, h0]
      · have hne : dgF B f (n / B) ≠ [] := by
          intro e; rw [e] at h1; simp at h1; omega
        obtain ⟨y, ys, e⟩ := List.exists_cons_of_ne_nil hne
        rw [e, List.getLast?_cons_cons, ← e]
        exact h2.2

def dg (B n : Nat) : List Nat := dgF B n n
theorem V_dg (hB : 1 < B) (n : Nat) : V B (dg B n) = n := (dgF_spec hB n n (Nat.le_refl _)).1
theorem Can_dg (hB : 1 < B) (n : Nat) : Can B (dg B n) := (dgF_spec hB n n (Nat.le_refl _)).2
theorem eq_dg (hB : 1 < B) {xs : List Nat} (h : Can B xs) : xs = dg B (V B xs) := h.unique (Can_dg hB _) (V_dg hB _).symm
theorem dg_zero : dg B 0 = [] := rfl
theorem dg_length_le (hB : 1 < B) {n k : Nat} (h : n < B ^ k) : (dg B n).length ≤ k := by
  by_cases hne : dg B n = []
  · simp [hne]
  · have := (Can_dg hB n).low (by omega) hne
    rw [V_dg hB] at this
    have h3 : B ^ ((dg B n).length - 1) < B ^ k := by omega
    have := (Nat.pow_lt_pow_iff_right hB).1 h3
    omega
theorem dg_inj (hB : 1 < B) {m n : Nat} (h : dg B m = dg B n) : m = n := by rw [← V_dg hB m, h, V_dg hB]

/-- without leading zeros -/
def trimR : List Nat → List Nat
  | [] => []
  | x :: xs => if trimR xs = [] ∧ x = 0 then [] else x :: trimR xs

theorem V_trimR (xs : List Nat) : V B (trimR xs) = V B xs := by
  induction xs with
  | nil => rfl
  | cons x xs ih =>
    simp only [trimR]
    split
    · rename_i h; rw [h.1] at ih; simp [h.2, ← ih]
    · simp [ih]
theorem Can_trimR {xs : List Nat} (h : Dg B xs) : Can B (trimR xs) := by
  induction xs with
  | nil => exact Can.nil
  | cons x xs ih =>
    have := ih (fun y hy => h y (by simp [hy]))
    simp only [trimR]
    split
    · exact Can.nil
    · rename_i hn
      refine ⟨Dg.cons (h x (by simp)) this.1, ?_⟩
      by_cases he : trimR xs = []
      · rw [he]; simp; intro hx; exact hn ⟨he, hx⟩
      · obtain ⟨y, ys, e⟩ := List.exists_cons_of_ne_nil he
        rw [e, List.getLast?_cons_cons, ← e]; exact this.2
theorem trimR_eq_take (xs : List Nat) : trimR xs = xs.take (trimR xs).length := by
  induction xs with
  | nil => rfl
  | cons x xs ih =>
    simp only [trimR]
    split
    · simp
    · simp [← ih]
theorem trimR_length_le (xs : List Nat) : (trimR xs).length ≤ xs.length := by
  rw [trimR_eq_take]; simp; omega
theorem trimR_snoc_zero (xs : List Nat) : trimR (xs ++ [0]) = trimR xs := by
  induction xs with
  | nil => simp [trimR]
  | cons x xs ih => simp [trimR, ih]
theorem trimR_snoc {xs : List Nat} {x : Nat} (hx : x ≠ 0) : trimR (xs ++ [x]) = xs ++ [x] := by
  induction xs with
  | nil => simp [trimR, hx]
  | cons y xs ih => simp [trimR, ih]
theorem trimR_dg (hB : 1 < B) {xs : List Nat} (h : Dg B xs) : trimR xs = dg B (V B xs) := by
  rw [eq_dg hB (Can_trimR h), V_trimR]
end Nm
namespace Nm
variable {B : Nat}

/-- one step of an addition: digit i and d make y and a carry -/
theorem step_add (cur : List Nat) (i y c d : Nat) (h : i < cur.length) (e : cur[i] + d = y + B * c) :
    V B (cur.set i y) + B ^ (i + 1) * c = V B cur + B ^ i * d := by
  have h1 := V_set (B := B) cur i y h
  have h2 : B ^ i * (cur[i] + d) = B ^ i * (y + B * c) := by rw [e]
  rw [Nat.mul_add, Nat.mul_add] at h2
  rw [Nat.pow_succ, Nat.mul_assoc]
  omega

/-- one step of a subtraction: digit i is y + d short of a borrow -/
theorem step_sub (cur : List Nat) (i y c d : Nat) (h : i < cur.length) (e : y + d = cur[i] + B * c) :
    V B (cur.set i y) + B ^ i * d = V B cur + B ^ (i + 1) * c := by
  have h1 := V_set (B := B) cur i y h
  have h2 : B ^ i * (y + d) = B ^ i * (cur[i] + B * c) := by rw [e]
  rw [Nat.mul_add, Nat.mul_add] at h2
  rw [Nat.pow_succ, Nat.mul_assoc]
  omega

theorem cmp_of_top {xs ys : List Nat} (i : Nat) (hx : Dg B xs) (hl : xs.length = ys.length) (hi : i < xs.length)
    (ht : xs.drop (i + 1) = ys.drop (i + 1)) (hlt : xs[i] < ys[i]) : V B xs < V B ys := by
  have e1 := V_take_drop (B := B) xs i (by omega)
  have e2 := V_take_drop (B := B) ys i (by omega)
  rw [V_drop_succ xs i hi] at e1
  rw [V_drop_succ ys i (by omega), ← ht] at e2
  have h1 := (hx.take i).lt
  rw [List.length_take, Nat.min_eq_left (by omega)] at h1
  generalize V B (xs.drop (i + 1)) = t at *
  have h3 : B ^ i * (xs[i] + 1 + B * t) ≤ B ^ i * (ys[i] + B * t) := Nat.mul_le_mul_left _ (by omega)
  rw [Nat.mul_add, Nat.mul_add, Nat.mul_one] at h3
  rw [Nat.mul_add] at e1
  omega

end Nm
namespace Nm
variable {B : Nat}
/-- the list of the first n values of f -/
def tab (n : Nat) (f : Nat → Nat) : List Nat := (List.range n).map f
@[simp] theorem tab_length (n : Nat) (f : Nat → Nat) : (tab n f).length = n := by simp [tab]
@[simp] theorem tab_get (n : Nat) (f : Nat → Nat) (i : Nat) (h : i < (tab n f).length) : (tab n f)[i] = f i := by simp [tab]
theorem tab_succ (n : Nat) (f : Nat → Nat) : tab (n + 1) f = tab n f ++ [f n] := by simp [tab, List.range_succ]

/-- the digits of a number, n of them -/
theorem V_tab_digits (N n : Nat) : V B (tab n fun i => N / B ^ i % B) = N % B ^ n := by
  induction n with
  | zero => simp [tab, Nat.mod_one]
  | succ n ih =>
    rw [tab_succ, V_append, ih, tab_length]
    simp only [V_cons, V_nil, Nat.mul_zero, Nat.add_zero]
    rw [Nat.pow_succ, Nat.mod_mul]

/-- digit i of a number -/
theorem dig_get (xs : List Nat) (h : Dg B xs) (i : Nat) (hi : i < xs.length) : xs[i] = V B xs / B ^ i % B := by
  have hB : 0 < B := Nat.lt_of_le_of_lt (Nat.zero_le _) (h.get i hi)
  have e := V_take_drop (B := B) xs i (by omega)
  rw [V_drop_succ xs i hi] at e
  have h1 := (h.take i).lt
  rw [List.length_take, Nat.min_eq_left (by omega)] at h1
  rw [e, Nat.add_mul_div_left _ _ (Nat.pow_pos hB), Nat.div_eq_of_lt h1, Nat.zero_add, Nat.add_mul_mod_self_left, Nat.mod_eq_of_lt (h.get i hi)]

/-- the value from place i on -/
theorem V_drop_eq (xs : List Nat) (h : Dg B xs) (i : Nat) (hi : i ≤ xs.length) : V B (xs.drop i) = V B xs / B ^ i := by
  by_cases hB : B = 0
  · subst hB
    have : xs = [] := by
      cases xs with
      | nil => rfl
      | cons x xs => exact absurd (h x (by simp)) (by omega)
    subst this; simp
  have e := V_take_drop (B := B) xs i hi
  have h1 := (h.take i).lt
  rw [List.length_take, Nat.min_eq_left hi] at h1
  rw [e, Nat.add_mul_div_left _ _ (Nat.pow_pos (by omega)), Nat.div_eq_of_lt h1, Nat.zero_add]

theorem V_take_eq (xs : List Nat) (h : Dg B xs) (i : Nat) (hi : i ≤ xs.length) : V B (xs.take i) = V B xs % B ^ i := by
  have e := V_take_drop (B := B) xs i hi
  have h1 := (h.take i).lt
  rw [List.length_take, Nat.min_eq_left hi] at h1
  rw [e, Nat.add_mul_mod_self_left, Nat.mod_eq_of_lt h1]

/-- chunks of k digits as digits in base B^k -/
theorem V_chunks (k : Nat) : ∀ (n : Nat) (xs : List Nat), xs.length ≤ n * k → V (B ^ k) (tab n fun i => V B ((xs.drop (i * k)).take k)) = V B xs := by
  intro n
  induction n with
  | zero => intro xs h; have : xs = [] := by simpa using h
            subst this; simp [tab]
  | succ n ih =>
    intro xs h
    have e : tab (n + 1) (fun i => V B ((xs.drop (i * k)).take k)) = V B (xs.take k) :: tab n (fun i => V B (((xs.drop k).drop (i * k)).take k)) := by
      apply List.ext_getElem (by simp)
      intro i h1 h2
      cases i with
      | zero => simp
      | succ i => simp [List.drop_drop, Nat.succ_mul, Nat.add_comm]
    rw [e, V_cons, ih (xs.drop k) (by simp; rw [Nat.succ_mul] at h; omega)]
    by_cases hl : k ≤ xs.length
    · exact (V_take_drop xs k hl).symm
    · rw [List.take_of_length_le (by omega), List.drop_of_length_le (by omega)]; simp

/-- a number of exactly n digits, digit by digit -/
theorem eq_tab (hB : 1 < B) (N n : Nat) (h : N < B ^ n) (h2 : n = 0 ∨ B ^ (n - 1) ≤ N) : tab n (fun i => N / B ^ i % B) = dg B N := by
  have hd : Dg B (tab n fun i => N / B ^ i % B) := by
    intro x hx
    obtain ⟨i, _, rfl⟩ := List.mem_map.1 hx
    exact Nat.mod_lt _ (by omega)
  have hv := V_tab_digits (B := B) N n
  rw [Nat.mod_eq_of_lt h] at hv
  have hc : Can B (tab n fun i => N / B ^ i % B) := by
    refine ⟨hd, ?_⟩
    rcases h2 with rfl | h2
    · simp [tab]
    · by_cases hn : n = 0
      · subst hn; simp [tab]
      obtain ⟨m, rfl⟩ : ∃ m, n = m + 1 := ⟨n - 1, by omega⟩
      rw [tab_succ]
      simp only [List.getLast?_append, List.getLast?_singleton, Option.some_or, ne_eq, Option.some.injEq]
      have h3 : B ^ m ≤ N := h2
      have h4 : 1 ≤ N / B ^ m := (Nat.le_div_iff_mul_le (Nat.pow_pos (by omega))).2 (by omega)
      have h5 : N / B ^ m < B := Nat.div_lt_of_lt_mul (by rw [← Nat.pow_succ]; exact h)
      rw [Nat.mod_eq_of_lt h5]; omega
  have := eq_dg hB hc
  rw [hv] at this
  exact this
end Nm
