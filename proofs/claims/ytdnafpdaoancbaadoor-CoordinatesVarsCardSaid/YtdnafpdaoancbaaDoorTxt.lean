/-
  Decimal numerals: plain facts. No program is mentioned here.
-/
import Derived.Lib.ItoaNum
import Derived.Lib.AtoiAll
import Derived.Lib.Strings
set_option linter.unusedVariables false
set_option linter.unusedSimpArgs false
namespace Nm
open Go.Lib (decDigits parseUint10)

/-- the digit d as a byte -/
def dgc (d : Nat) : UInt8 := UInt8.ofNat (48 + d)
theorem dgc_toNat {d : Nat} (h : d < 10) : (dgc d).toNat = 48 + d := by
  unfold dgc
  rw [UInt8.toNat_ofNat']
  omega

/-- the numeral of n, nothing for 0 -/
def dd (n : Nat) : List UInt8 := if n = 0 then [] else decDigits n
theorem dd_zero : dd 0 = [] := rfl
theorem dd_pos {n : Nat} (h : 0 < n) : dd n = decDigits n := by unfold dd; rw [if_neg (by omega)]
theorem dec_one {n : Nat} (h : n < 10) : decDigits n = [dgc n] := by rw [decDigits, dif_pos h]; rfl
theorem dec_more {n : Nat} (h : ¬ n < 10) : decDigits n = decDigits (n / 10) ++ [dgc (n % 10)] := by rw [decDigits, dif_neg h]; rfl
theorem dd_step {n : Nat} (h : 0 < n) : dd n = dd (n / 10) ++ [dgc (n % 10)] := by
  rw [dd_pos h]
  by_cases h10 : n < 10
  · rw [dec_one h10, show n / 10 = 0 by omega, dd_zero, Nat.mod_eq_of_lt h10]; rfl
  · rw [dec_more h10, dd_pos (by omega)]
theorem dd_length_le : ∀ (k n : Nat), n < 10 ^ k → (dd n).length ≤ k := by
  intro k
  induction k with
  | zero => intro n h; have : n = 0 := by simpa using h
            subst this; simp [dd_zero]
  | succ k ih =>
    intro n h
    by_cases h0 : n = 0
    · subst h0; simp [dd_zero]
    · rw [dd_step (by omega), List.length_append]
      have := ih (n / 10) (by rw [Nat.pow_succ] at h; omega)
      simp; omega

theorem dd_limbs {N n : Nat} (h : N < 65536 ^ n) : (dd N).length ≤ 5 * n := by
  refine dd_length_le _ _ (Nat.lt_of_lt_of_le h ?_)
  rw [Nat.pow_mul]
  exact Nat.pow_le_pow_left (by decide) _

/-- digits only -/
def DgS (l : List UInt8) : Prop := ∀ c ∈ l, 48 ≤ c.toNat ∧ c.toNat ≤ 57
theorem DgS.nil : DgS [] := fun _ h => by simp at h
theorem DgS.append {l m : List UInt8} (h : DgS l) (k : DgS m) : DgS (l ++ m) := fun c hc => (List.mem_append.1 hc).elim (h c) (k c)
theorem DgS.one {d : Nat} (h : d < 10) : DgS [dgc d] := fun c hc => by
  rw [List.mem_singleton.1 hc, dgc_toNat h]; omega
theorem DgS.take {l : List UInt8} (h : DgS l) (n : Nat) : DgS (l.take n) := fun c hc => h c (List.mem_of_mem_take hc)
theorem DgS.drop {l : List UInt8} (h : DgS l) (n : Nat) : DgS (l.drop n) := fun c hc => h c (List.mem_of_mem_drop hc)

/-- what digits add to the number a -/
def dv (c : UInt8) : Nat := c.toNat - 48
theorem dv_eq (c : UInt8) : dv c = c.toNat - 48 := rfl
def numS (a d : Nat) : Nat := a * 10 + d
theorem numS_eq (a d : Nat) : numS a d = a * 10 + d := rfl
def numF : Nat → List UInt8 → Nat
  | a, [] => a
  | a, c :: l => numF (numS a (dv c)) l
theorem numF_nil (a : Nat) : numF a [] = a := rfl
theorem numF_cons (a : Nat) (c : UInt8) (l : List UInt8) : numF a (c :: l) = numF (a * 10 + (c.toNat - 48)) l := by rw [← dv_eq, ← numS_eq]; rfl
theorem numF_append : ∀ (l : List UInt8) (a : Nat) (m : List UInt8), numF a (l ++ m) = numF (numF a l) m := by
  intro l
  induction l with
  | nil => intro a m; rw [numF_nil]; rfl
  | cons c l ih => intro a m; rw [List.cons_append, numF_cons, numF_cons, ih]
theorem numF_eq : ∀ (l : List UInt8) (a : Nat), numF a l = a * 10 ^ l.length + numF 0 l := by
  intro l
  induction l with
  | nil => intro a; rw [numF_nil, numF_nil]; simp
  | cons c l ih =>
    intro a
    rw [numF_cons, numF_cons]
    generalize c.toNat - 48 = d
    rw [ih (a * 10 + d), ih (0 * 10 + d), List.length_cons, Nat.pow_succ, Nat.add_mul, Nat.zero_mul, Nat.zero_add, Nat.mul_assoc, Nat.mul_comm 10]
    omega
theorem numF_ge : ∀ (l : List UInt8) (a : Nat), a ≤ numF a l := by
  intro l
  induction l with
  | nil => intro a; exact Nat.le_refl _
  | cons c l ih => intro a; rw [numF_cons]; have := ih (a * 10 + (c.toNat - 48)); omega
theorem numF_lt : ∀ (l : List UInt8), DgS l → numF 0 l < 10 ^ l.length := by
  intro l
  induction l with
  | nil => intro _; rw [numF_nil]; simp
  | cons c l ih =>
    intro h
    have h1 := h c (by simp)
    have h2 := ih (fun x hx => h x (by simp [hx]))
    rw [numF_cons, numF_eq, List.length_cons, Nat.pow_succ]
    have h3 : (0 * 10 + (c.toNat - 48)) * 10 ^ l.length ≤ 9 * 10 ^ l.length := Nat.mul_le_mul_right _ (by omega)
    omega

theorem dec_spec : ∀ n : Nat, DgS (decDigits n) ∧ numF 0 (decDigits n) = n ∧ (∃ c r, decDigits n = c :: r ∧ (r = [] ∨ c.toNat ≠ 48)) := by
  intro n
  induction n using Nat.strongRecOn with
  | _ n ih =>
    by_cases h : n < 10
    · rw [dec_one h]
      refine ⟨DgS.one h, ?_, _, _, rfl, .inl rfl⟩
      rw [numF_cons, numF_nil, dgc_toNat h]; omega
    · have hm : n % 10 < 10 := Nat.mod_lt _ (by omega)
      obtain ⟨h1, h2, c, r, h3, h4⟩ := ih (n / 10) (by omega)
      rw [dec_more h]
      refine ⟨h1.append (DgS.one hm), ?_, c, r ++ [dgc (n % 10)], by rw [h3]; rfl, ?_⟩
      · rw [numF_append, h2, numF_cons, numF_nil, dgc_toNat hm]; omega
      · right
        rcases h4 with h4 | h4
        · subst h4
          by_cases h10 : n / 10 < 10
          · rw [dec_one h10] at h3
            simp only [List.cons.injEq, and_true] at h3
            rw [← h3, dgc_toNat h10]; omega
          · exfalso
            have e := congrArg List.length h3
            rw [dec_more h10, List.length_append] at e
            have : (decDigits (n / 10 / 10)).length ≠ 0 := by
              obtain ⟨_, _, c', r', e', _⟩ := ih (n / 10 / 10) (by omega)
              rw [e']; simp
            simp only [List.length_cons, List.length_nil] at e; omega
        · exact h4
theorem dec_dgs (n : Nat) : DgS (decDigits n) := (dec_spec n).1
theorem dec_num (n : Nat) : numF 0 (decDigits n) = n := (dec_spec n).2.1

/-- digits that fit are parsed -/
theorem parse_ok : ∀ (l : List UInt8) (a : Nat), DgS l → numF a l < 18446744073709551616 → parseUint10 a l = .ok (numF a l) := by
  intro l
  induction l with
  | nil => intro a _ _; rfl
  | cons c l ih =>
    intro a h hb
    have h1 := h c (by simp)
    rw [numF_cons] at hb ⊢
    have h2 := numF_ge l (a * 10 + (c.toNat - 48))
    rw [parseUint10, if_pos h1, if_neg (by omega), if_neg (by omega)]
    exact ih _ (fun x hx => h x (by simp [hx])) hb

/-- a numeral: digits, and 0 does not come first of several -/
def Numl (l : List UInt8) : Prop := DgS l ∧ (l.length = 1 ∨ l.head? ≠ some 48)
instance (l : List UInt8) : Decidable (DgS l) := by unfold DgS; infer_instance
instance (l : List UInt8) : Decidable (Numl l) := by unfold Numl; infer_instance
theorem dec_numl (n : Nat) : Numl (decDigits n) := by
  obtain ⟨h1, _, c, r, h3, h4⟩ := dec_spec n
  refine ⟨h1, ?_⟩
  rw [h3]
  rcases h4 with h4 | h4
  · subst h4; exact .inl rfl
  · refine .inr fun e => h4 ?_
    simp only [List.head?_cons, Option.some.injEq] at e
    rw [e]; rfl

/-- the error of reading a numeral, 0 for none -/
def rdE (l : List UInt8) : Nat := if l = [] then 10 else if 1000 < l.length then 4 else if Numl l then 0 else 9
/-- the number that is read -/
def rdV (l : List UInt8) : Nat := if rdE l = 0 then numF 0 l else 0
theorem rdE_nil : rdE [] = 10 := rfl
theorem rdE_large {l : List UInt8} (h : 1000 < l.length) : rdE l = 4 := by
  unfold rdE
  rw [if_neg (by intro e; subst e; simp at h), if_pos h]
theorem rdE_form {l : List UInt8} (h0 : l ≠ []) (h : l.length ≤ 1000) (hn : ¬ Numl l) : rdE l = 9 := by
  unfold rdE
  rw [if_neg h0, if_neg (by omega), if_neg hn]
theorem rdE_ok {l : List UInt8} (h0 : l ≠ []) (h : l.length ≤ 1000) (hn : Numl l) : rdE l = 0 := by
  unfold rdE
  rw [if_neg h0, if_neg (by omega), if_pos hn]
theorem rdV_ok {l : List UInt8} (h : rdE l = 0) : rdV l = numF 0 l := if_pos h
theorem rdV_bad {l : List UInt8} (h : rdE l ≠ 0) : rdV l = 0 := if_neg h
theorem num_limbs {l : List UInt8} (h : DgS l) (hl : l.length ≤ 1000) : numF 0 l < 65536 ^ 250 := by
  refine Nat.lt_of_lt_of_le (numF_lt l h) (Nat.le_trans (Nat.pow_le_pow_right (n := 10) (by omega) hl) ?_)
  obtain ⟨k, hk⟩ : ∃ k, k = 250 := ⟨_, rfl⟩
  rw [← hk, show 1000 = 4 * k by omega, Nat.pow_mul]
  exact Nat.pow_le_pow_left (by decide) _

/-- a string of these bytes -/
abbrev str (l : List UInt8) : Go.Value := .string ⟨l.toArray⟩
end Nm
