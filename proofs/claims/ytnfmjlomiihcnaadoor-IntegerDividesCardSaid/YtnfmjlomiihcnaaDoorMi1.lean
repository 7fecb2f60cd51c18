/-
  Contracts of functions of the program, part 1: Dig, Mem, Words, Bits, Lens.
-/
import Derived.WalkKit
import Derived.Laws.CopyOwn
import Derived.Laws.AppendOwnNone
import Derived.BigQuiet
import Derived.Deep.QuietTactic
import Derived.Deep.LoopGhost
import Derived.Outline
import Derived.Test.YtnfmjlomiihcnaaDoorProg
import Derived.Lib.Mul64
import Derived.Lib.BitFns
import Derived.Laws.Bits64b
import Derived.Laws.Externs
import Derived.Lib.Tables
import Derived.Lib.ItoaNum
/-
  Plain facts on digits: values of lists of digits, canonical digits, and steps of additions and subtractions. No program is mentioned here.
-/
namespace Nm
/-- the value of a list of digits in base B, the least significant one first -/
def V (B : Nat) : List Nat → Nat
  | [] => 0
  | x :: xs => x + B * V B xs

variable {B : Nat}

@[simp] theorem V_nil : V B [] = 0 := rfl
@[simp] theorem V_cons (x : Nat) (xs : List Nat) : V B (x :: xs) = x + B * V B xs := rfl

theorem V_append (xs ys : List Nat) : V B (xs ++ ys) = V B xs + B ^ xs.length * V B ys := by
  induction xs with
  | nil => simp
  | cons x xs ih => simp [ih, Nat.pow_succ, Nat.mul_add, Nat.add_assoc, Nat.mul_assoc, Nat.mul_comm]

theorem V_zeros (n : Nat) : V B (List.replicate n 0) = 0 := by
  induction n with
  | zero => rfl
  | succ n ih => simp [List.replicate_succ, ih]

theorem V_lt {xs : List Nat} (h : ∀ x ∈ xs, x < B) : V B xs < B ^ xs.length := by
  induction xs with
  | nil => simp
  | cons x xs ih =>
    have h1 : x < B := h x (by simp)
    have h2 := ih (fun y hy => h y (by simp [hy]))
    have h3 : V B xs + 1 ≤ B ^ xs.length := h2
    have h4 := Nat.mul_le_mul_left B h3
    simp only [V_cons, List.length_cons, Nat.pow_succ]
    rw [Nat.mul_add, Nat.mul_one] at h4
    rw [Nat.mul_comm (B ^ xs.length) B]
    omega

/-- one digit is replaced -/
theorem V_set (xs : List Nat) (i y : Nat) (h : i < xs.length) : V B (xs.set i y) + B ^ i * xs[i] = V B xs + B ^ i * y := by
  induction xs generalizing i with
  | nil => simp at h
  | cons x xs ih =>
    cases i with
    | zero => simp; omega
    | succ i =>
      have h' : i < xs.length := by simpa using h
      have := ih i h'
      have e := congrArg (B * ·) this
      simp only [Nat.mul_add] at e
      simp only [List.set_cons_succ, V_cons, List.getElem_cons_succ, Nat.pow_succ]
      rw [Nat.mul_comm (B ^ i) B, Nat.mul_assoc, Nat.mul_assoc]
      omega

theorem V_take_succ (xs : List Nat) (i : Nat) (h : i < xs.length) : V B (xs.take (i + 1)) = V B (xs.take i) + B ^ i * xs[i] := by
  rw [List.take_succ_eq_append_getElem h, V_append]
  simp [List.length_take, Nat.min_eq_left (Nat.le_of_lt h)]

theorem V_drop_succ (xs : List Nat) (i : Nat) (h : i < xs.length) : V B (xs.drop i) = xs[i] + B * V B (xs.drop (i + 1)) := by
  rw [List.drop_eq_getElem_cons h]; rfl

theorem V_take_drop (xs : List Nat) (i : Nat) (h : i ≤ xs.length) : V B xs = V B (xs.take i) + B ^ i * V B (xs.drop i) := by
  have := V_append (B := B) (xs.take i) (xs.drop i)
  rw [List.take_append_drop, List.length_take, Nat.min_eq_left h] at this
  exact this

/-- all digits are digits -/
def Dg (B : Nat) (xs : List Nat) : Prop := ∀ x ∈ xs, x < B

theorem Dg.nil : Dg B [] := fun _ h => by simp at h
theorem Dg.get {xs : List Nat} (h : Dg B xs) (i : Nat) (hi : i < xs.length) : xs[i] < B := h _ (List.getElem_mem hi)
theorem Dg.take {xs : List Nat} (h : Dg B xs) (i : Nat) : Dg B (xs.take i) := fun x hx => h x (List.mem_of_mem_take hx)
theorem Dg.drop {xs : List Nat} (h : Dg B xs) (i : Nat) : Dg B (xs.drop i) := fun x hx => h x (List.mem_of_mem_drop hx)
theorem Dg.append {xs ys : List Nat} (h : Dg B xs) (k : Dg B ys) : Dg B (xs ++ ys) := fun x hx => (List.mem_append.1 hx).elim (h x) (k x)
theorem Dg.cons {x : Nat} {xs : List Nat} (h : x < B) (k : Dg B xs) : Dg B (x :: xs) := fun y hy => by
  rcases List.mem_cons.1 hy with rfl | hy
  · exact h
  · exact k y hy
theorem Dg.set {xs : List Nat} (h : Dg B xs) (i y : Nat) (hy : y < B) : Dg B (xs.set i y) := fun x hx => by
  rcases List.mem_or_eq_of_mem_set hx with h1 | rfl
  · exact h x h1
  · exact hy
theorem Dg.zeros (hB : 0 < B) (n : Nat) : Dg B (List.replicate n 0) := fun x hx => by
  rw [List.eq_of_mem_replicate hx]; exact hB
theorem Dg.lt {xs : List Nat} (h : Dg B xs) : V B xs < B ^ xs.length := V_lt h

/-- canonical: digits, and no leading zero -/
def Can (B : Nat) (xs : List Nat) : Prop := Dg B xs ∧ xs.getLast? ≠ some 0

theorem Can.nil : Can B [] := ⟨Dg.nil, by simp⟩

theorem Can.tail {x : Nat} {xs : List Nat} (h : Can B (x :: xs)) : Can B xs := by
  refine ⟨fun y hy => h.1 y (by simp [hy]), ?_⟩
  cases xs with
  | nil => simp
  | cons y ys => simpa [List.getLast?_cons_cons] using h.2

theorem Can.pos {xs : List Nat} (hB : 0 < B) (h : Can B xs) (hne : xs ≠ []) : 0 < V B xs := by
  induction xs with
  | nil => exact (hne rfl).elim
  | cons x xs ih =>
    by_cases hx : xs = []
    · subst hx
      have : x ≠ 0 := fun e => h.2 (by simp [e])
      simp; omega
    · have := ih h.tail hx
      have := Nat.mul_pos hB this
      simp only [V_cons]; omega

theorem Can.unique {xs ys : List Nat} (hx : Can B xs) (hy : Can B ys) (h : V B xs = V B ys) : xs = ys := by
  induction xs generalizing ys with
  | nil =>
    cases ys with
    | nil => rfl
    | cons y ys =>
      have hB : 0 < B := Nat.lt_of_le_of_lt (Nat.zero_le _) (hy.1 y (by simp))
      have := hy.pos hB (by simp)
      simp only [V_nil] at h; omega
  | cons x xs ih =>
    have hB : 0 < B := Nat.lt_of_le_of_lt (Nat.zero_le _) (hx.1 x (by simp))
    cases ys with
    | nil =>
      have := hx.pos hB (by simp)
      simp only [V_nil] at h; omega
    | cons y ys =>
      have h1 : x < B := hx.1 x (by simp)
      have h2 : y < B := hy.1 y (by simp)
      simp only [V_cons] at h
      have e1 : x = y := by
        have := congrArg (· % B) h
        simp only [Nat.add_mul_mod_self_left, Nat.mod_eq_of_lt h1, Nat.mod_eq_of_lt h2] at this
        exact this
      subst e1
      have e2 : V B xs = V B ys := Nat.eq_of_mul_eq_mul_left hB (by omega)
      rw [ih hx.tail hy.tail e2]

theorem Can.low {xs : List Nat} (_hB : 0 < B) (h : Can B xs) (hne : xs ≠ []) : B ^ (xs.length - 1) ≤ V B xs := by
  induction xs with
  | nil => exact (hne rfl).elim
  | cons x xs ih =>
    by_cases hx : xs = []
    · subst hx
      have : x ≠ 0 := fun e => h.2 (by simp [e])
      simp; omega
    · have h1 := ih h.tail hx
      have hl : xs.length ≠ 0 := by simpa using hx
      have h2 := Nat.mul_le_mul_left B h1
      have e : B ^ ((x :: xs).length - 1) = B * B ^ (xs.length - 1) := by
        rw [← Nat.pow_succ']; congr 1; simp; omega
      rw [e]; simp only [V_cons]; omega

/-- canonical numbers: the longer one is greater -/
theorem Can.lt_of_length {xs ys : List Nat} (hB : 1 < B) (hx : Dg B xs) (hy : Can B ys) (h : xs.length < ys.length) : V B xs < V B ys := by
  have h1 := hx.lt
  have h2 := hy.low (by omega) (by intro e; subst e; simp at h)
  have h3 : B ^ xs.length ≤ B ^ (ys.length - 1) := Nat.pow_le_pow_right (by omega) (by omega)
  omega

/-- the canonical digits of a number -/
def dgF (B : Nat) : Nat → Nat → List Nat
  | 0, _ => []
  | f + 1, n => if n = 0 then [] else n % B :: dgF B f (n / B)

theorem dgF_spec (hB : 1 < B) : ∀ f n, n ≤ f → V B (dgF B f n) = n ∧ Can B (dgF B f n) := by
  intro f
  induction f with
  | zero => intro n hn; have : n = 0 := by omega
            subst this; exact ⟨rfl, Can.nil⟩
  | succ f ih =>
    intro n hn
    simp only [dgF]
    by_cases h0 : n = 0
    · rw [if_pos h0]; exact ⟨by simp [h0], Can.nil⟩
    · rw [if_neg h0]
      have hlt : n / B < n := Nat.div_lt_self (by omega) hB
      obtain ⟨h1, h2⟩ := ih (n / B) (by omega)
      have hm : n % B < B := Nat.mod_lt _ (by omega)
      refine ⟨by rw [V_cons, h1]; exact Nat.mod_add_div n B, Dg.cons hm h2.1, ?_⟩
      by_cases hz : n / B = 0
      · have e : dgF B f (n / B) = [] := by
          rw [hz]; cases f <;> simp [dgF]
        rw [e]
        have : n % B = n := Nat.mod_eq_of_lt ((Nat.div_eq_zero_iff_lt (by omega)).1 hz)
        simp [this, h0]
      · have hne : dgF B f (n / B) ≠ [] := by
          intro e; rw [e] at h1; simp at h1; omega
        obtain ⟨y, ys, e⟩ := List.exists_cons_of_ne_nil hne
        rw [e, List.getLast?_cons_cons, ← e]
        exact h2.2

def dg (B n : Nat) : List Nat := dgF B n n
theorem V_dg (hB : 1 < B) (n : Nat) : V B (dg B n) = n := (dgF_spec hB n n (Nat.le_refl _)).1
theorem Can_dg (hB : 1 < B) (n : Nat) : Can B (dg B n) := (dgF_spec hB n n (Nat.le_refl _)).2
theorem eq_dg (hB : 1 < B) {xs : List Nat} (h : Can B xs) : xs = dg B (V B xs) := h.unique (Can_dg hB _) (V_dg hB _).symm
theorem dg_zero : dg B 0 = [] := rfl
theorem dg_length_le (hB : 1 < B) {n k : Nat} (h : n < B ^ k) : (dg B n).length ≤ k := by
  by_cases hne : dg B n = []
  · simp [hne]
  · have := (Can_dg hB n).low (by omega) hne
    rw [V_dg hB] at this
    have h3 : B ^ ((dg B n).length - 1) < B ^ k := by omega
    have := (Nat.pow_lt_pow_iff_right hB).1 h3
    omega
theorem dg_inj (hB : 1 < B) {m n : Nat} (h : dg B m = dg B n) : m = n := by rw [← V_dg hB m, h, V_dg hB]

/-- without leading zeros -/
def trimR : List Nat → List Nat
  | [] => []
  | x :: xs => if trimR xs = [] ∧ x = 0 then [] else x :: trimR xs

theorem V_trimR (xs : List Nat) : V B (trimR xs) = V B xs := by
  induction xs with
  | nil => rfl
  | cons x xs ih =>
    simp only [trimR]
    split
    · rename_i h; rw [h.1] at ih; simp [h.2, ← ih]
    · simp [ih]
theorem Can_trimR {xs : List Nat} (h : Dg B xs) : Can B (trimR xs) := by
  induction xs with
  | nil => exact Can.nil
  | cons x xs ih =>
    have := ih (fun y hy => h y (by simp [hy]))
    simp only [trimR]
    split
    · exact Can.nil
    · rename_i hn
      refine ⟨Dg.cons (h x (by simp)) this.1, ?_⟩
      by_cases he : trimR xs = []
      · rw [he]; simp; intro hx; exact hn ⟨he, hx⟩
      · obtain ⟨y, ys, e⟩ := List.exists_cons_of_ne_nil he
        rw [e, List.getLast?_cons_cons, ← e]; exact this.2
theorem trimR_eq_take (xs : List Nat) : trimR xs = xs.take (trimR xs).length := by
  induction xs with
  | nil => rfl
  | cons x xs ih =>
    simp only [trimR]
    split
    · simp
    · simp [← ih]
theorem trimR_length_le (xs : List Nat) : (trimR xs).length ≤ xs.length := by
  rw [trimR_eq_take]; simp; omega
theorem trimR_snoc_zero (xs : List Nat) : trimR (xs ++ [0]) = trimR xs := by
  induction xs with
  | nil => simp [trimR]
  | cons x xs ih => simp [trimR, ih]
theorem trimR_snoc {xs : List Nat} {x : Nat} (hx : x ≠ 0) : trimR (xs ++ [x]) = xs ++ [x] := by
  induction xs with
  | nil => simp [trimR, hx]
  | cons y xs ih => simp [trimR, ih]
theorem trimR_dg (hB : 1 < B) {xs : List Nat} (h : Dg B xs) : trimR xs = dg B (V B xs) := by
  rw [eq_dg hB (Can_trimR h), V_trimR]
end Nm
namespace Nm
variable {B : Nat}

/-- one step of an addition: digit i and d make y and a carry -/
theorem step_add (cur : List Nat) (i y c d : Nat) (h : i < cur.length) (e : cur[i] + d = y + B * c) :
    V B (cur.set i y) + B ^ (i + 1) * c = V B cur + B ^ i * d := by
  have h1 := V_set (B := B) cur i y h
  have h2 : B ^ i * (cur[i] + d) = B ^ i * (y + B * c) := by rw [e]
  rw [Nat.mul_add, Nat.mul_add] at h2
  rw [Nat.pow_succ, Nat.mul_assoc]
  omega

/-- one step of a subtraction: digit i is y + d short of a borrow -/
theorem step_sub (cur : List Nat) (i y c d : Nat) (h : i < cur.length) (e : y + d = cur[i] + B * c) :
    V B (cur.set i y) + B ^ i * d = V B cur + B ^ (i + 1) * c := by
  have h1 := V_set (B := B) cur i y h
  have h2 : B ^ i * (y + d) = B ^ i * (cur[i] + B * c) := by rw [e]
  rw [Nat.mul_add, Nat.mul_add] at h2
  rw [Nat.pow_succ, Nat.mul_assoc]
  omega

theorem cmp_of_top {xs ys : List Nat} (i : Nat) (hx : Dg B xs) (hl : xs.length = ys.length) (hi : i < xs.length)
    (ht : xs.drop (i + 1) = ys.drop (i + 1)) (hlt : xs[i] < ys[i]) : V B xs < V B ys := by
  have e1 := V_take_drop (B := B) xs i (by omega)
  have e2 := V_take_drop (B := B) ys i (by omega)
  rw [V_drop_succ xs i hi] at e1
  rw [V_drop_succ ys i (by omega), ← ht] at e2
  have h1 := (hx.take i).lt
  rw [List.length_take, Nat.min_eq_left (by omega)] at h1
  generalize V B (xs.drop (i + 1)) = t at *
  have h3 : B ^ i * (xs[i] + 1 + B * t) ≤ B ^ i * (ys[i] + B * t) := Nat.mul_le_mul_left _ (by omega)
  rw [Nat.mul_add, Nat.mul_add, Nat.mul_one] at h3
  rw [Nat.mul_add] at e1
  omega

end Nm
namespace Nm
variable {B : Nat}
/-- the list of the first n values of f -/
def tab (n : Nat) (f : Nat → Nat) : List Nat := (List.range n).map f
@[simp] theorem tab_length (n : Nat) (f : Nat → Nat) : (tab n f).length = n := by simp [tab]
@[simp] theorem tab_get (n : Nat) (f : Nat → Nat) (i : Nat) (h : i < (tab n f).length) : (tab n f)[i] = f i := by simp [tab]
theorem tab_succ (n : Nat) (f : Nat → Nat) : tab (n + 1) f = tab n f ++ [f n] := by simp [tab, List.range_succ]

/-- the digits of a number, n of them -/
theorem V_tab_digits (N n : Nat) : V B (tab n fun i => N / B ^ i % B) = N % B ^ n := by
  induction n with
  | zero => simp [tab, Nat.mod_one]
  | succ n ih =>
    rw [tab_succ, V_append, ih, tab_length]
    simp only [V_cons, V_nil, Nat.mul_zero, Nat.add_zero]
    rw [Nat.pow_succ, Nat.mod_mul]

/-- digit i of a number -/
theorem dig_get (xs : List Nat) (h : Dg B xs) (i : Nat) (hi : i < xs.length) : xs[i] = V B xs / B ^ i % B := by
  have hB : 0 < B := Nat.lt_of_le_of_lt (Nat.zero_le _) (h.get i hi)
  have e := V_take_drop (B := B) xs i (by omega)
  rw [V_drop_succ xs i hi] at e
  have h1 := (h.take i).lt
  rw [List.length_take, Nat.min_eq_left (by omega)] at h1
  rw [e, Nat.add_mul_div_left _ _ (Nat.pow_pos hB), Nat.div_eq_of_lt h1, Nat.zero_add, Nat.add_mul_mod_self_left, Nat.mod_eq_of_lt (h.get i hi)]

/-- the value from place i on -/
theorem V_drop_eq (xs : List Nat) (h : Dg B xs) (i : Nat) (hi : i ≤ xs.length) : V B (xs.drop i) = V B xs / B ^ i := by
  by_cases hB : B = 0
  · subst hB
    have : xs = [] := by
      cases xs with
      | nil => rfl
      | cons x xs => exact absurd (h x (by simp)) (by omega)
    subst this; simp
  have e := V_take_drop (B := B) xs i hi
  have h1 := (h.take i).lt
  rw [List.length_take, Nat.min_eq_left hi] at h1
  rw [e, Nat.add_mul_div_left _ _ (Nat.pow_pos (by omega)), Nat.div_eq_of_lt h1, Nat.zero_add]

theorem V_take_eq (xs : List Nat) (h : Dg B xs) (i : Nat) (hi : i ≤ xs.length) : V B (xs.take i) = V B xs % B ^ i := by
  have e := V_take_drop (B := B) xs i hi
  have h1 := (h.take i).lt
  rw [List.length_take, Nat.min_eq_left hi] at h1
  rw [e, Nat.add_mul_mod_self_left, Nat.mod_eq_of_lt h1]

/-- chunks of k digits as digits in base B^k -/
theorem V_chunks (k : Nat) : ∀ (n : Nat) (xs : List Nat), xs.length ≤ n * k → V (B ^ k) (tab n fun i => V B ((xs.drop (i * k)).take k)) = V B xs := by
  intro n
  induction n with
  | zero => intro xs h; have : xs = [] := by simpa using h
            subst this; simp [tab]
  | succ n ih =>
    intro xs h
    have e : tab (n + 1) (fun i => V B ((xs.drop (i * k)).take k)) = V B (xs.take k) :: tab n (fun i => V B (((xs.drop k).drop (i * k)).take k)) := by
      apply List.ext_getElem (by simp)
      intro i h1 h2
      cases i with
      | zero => simp
      | succ i => simp [List.drop_drop, Nat.succ_mul, Nat.add_comm]
    rw [e, V_cons, ih (xs.drop k) (by simp; rw [Nat.succ_mul] at h; omega)]
    by_cases hl : k ≤ xs.length
    · exact (V_take_drop xs k hl).symm
    · rw [List.take_of_length_le (by omega), List.drop_of_length_le (by omega)]; simp

/-- a number of exactly n digits, digit by digit -/
theorem eq_tab (hB : 1 < B) (N n : Nat) (h : N < B ^ n) (h2 : n = 0 ∨ B ^ (n - 1) ≤ N) : tab n (fun i => N / B ^ i % B) = dg B N := by
  have hd : Dg B (tab n fun i => N / B ^ i % B) := by
    intro x hx
    obtain ⟨i, _, rfl⟩ := List.mem_map.1 hx
    exact Nat.mod_lt _ (by omega)
  have hv := V_tab_digits (B := B) N n
  rw [Nat.mod_eq_of_lt h] at hv
  have hc : Can B (tab n fun i => N / B ^ i % B) := by
    refine ⟨hd, ?_⟩
    rcases h2 with rfl | h2
    · simp [tab]
    · by_cases hn : n = 0
      · subst hn; simp [tab]
      obtain ⟨m, rfl⟩ : ∃ m, n = m + 1 := ⟨n - 1, by omega⟩
      rw [tab_succ]
      simp only [List.getLast?_append, List.getLast?_singleton, Option.some_or, ne_eq, Option.some.injEq]
      have h3 : B ^ m ≤ N := h2
      have h4 : 1 ≤ N / B ^ m := (Nat.le_div_iff_mul_le (Nat.pow_pos (by omega))).2 (by omega)
      have h5 : N / B ^ m < B := Nat.div_lt_of_lt_mul (by rw [← Nat.pow_succ]; exact h)
      rw [Nat.mod_eq_of_lt h5]; omega
  have := eq_dg hB hc
  rw [hv] at this
  exact this
end Nm

/-
  Memory: rows of numbers that a call owns, slices of numbers that it reads, and the laws of make, copy and append on them. No program is mentioned here.
-/
set_option linter.unusedVariables false
set_option linter.unusedSimpArgs false
namespace Nm
open Go Go.RowKit

theorem hid {p : Prop} (h : p) : Hid p := h
theorem ret_eq {a b : Value} (h : a = b) : Ending.returned a = .returned b := by rw [h]

/-- a number of kind k as a value -/
abbrev iv (k : IntKind) (n : Nat) : Value := .int k (n : Int)

/-- block g of w is an unfrozen row of numbers of kind k, of the element type e -/
def IRow (w : World) (g : Nat) (e : TypeId) (k : IntKind) (xs : List Nat) : Prop :=
  w.heap[g]? = some (.cells (xs.map (iv k)).toArray e (0, 0))

section
variable {w w' : World} {g : Nat} {e : TypeId} {k : IntKind} {xs : List Nat}
theorem IRow.lt (h : IRow w g e k xs) : g < w.heap.size := lt_of_block h
theorem IRow.cell (h : IRow w g e k xs) (j : Nat) (hj : j < xs.length) : w.cell? ⟨g, j, none⟩ = some (.int k (xs[j] : Nat)) := by
  rw [cell_of_row w g j _ _ _ h]; simp [hj]
theorem IRow.free (h : IRow w g e k xs) (j : Nat) : w.frozen? ⟨g, j, none⟩ = false := frozen_of_row w g j _ _ h
theorem IRow.set (h : IRow w g e k xs) (j : Nat) (y : Nat) : IRow (w.setCell ⟨g, j, none⟩ (.int k y)) g e k (xs.set j y) := by
  unfold IRow at h ⊢
  rw [heap_setCell_same w g j _ _ _ h]
  simp
theorem IRow.setv (h : IRow w g e k xs) (j : Nat) (v : Int) (y : Nat) (hv : v = (y : Int)) : IRow (w.setCell ⟨g, j, none⟩ (.int k v)) g e k (xs.set j y) := by
  subst hv; exact h.set j y
theorem IRow.kept (h : IRow w g e k xs) {row : Option Nat} (hg : w.grownBy w' row) (hne : some g ≠ row) : IRow w' g e k xs :=
  (hg.block g h.lt hne).trans h
theorem IRow.made (w : World) (e : TypeId) (k : IntKind) (xs : List Nat) : IRow (w.alloc (.cells (xs.map (iv k)).toArray e)) w.heap.size e k xs := heap_alloc_new w _
theorem IRow.drew (h : IRow w g e k xs) : IRow w.drew g e k xs := h
end

theorem grown_refl (w : World) (row : Option Nat) : w.grownBy w row := ⟨rfl, rfl, rfl, Nat.le_refl _, fun _ _ _ => rfl⟩
theorem grown_setCell (w : World) (p : Addr) (u : Value) : w.grownBy (w.setCell p u) (some p.block) :=
  ⟨rfl, rfl, rfl, by simp, fun k _ hne => heap_setCell_other w p k u (fun e => hne (by rw [e]))⟩
theorem grown_drew (w : World) (row : Option Nat) : w.grownBy w.drew row := ⟨rfl, rfl, rfl, Nat.le_refl _, fun _ _ _ => rfl⟩
theorem grown_trans {a b c : World} {row : Option Nat} (h : a.grownBy b row) (k : b.grownBy c row) : a.grownBy c row :=
  ⟨k.os.trans h.os, k.tape.trans h.tape, k.output.trans h.output, Nat.le_trans h.size k.size, fun i hi hne => (k.block i (Nat.lt_of_lt_of_le hi h.size) hne).trans (h.block i hi hne)⟩
theorem grown_drewN (w : World) (n : Nat) (row : Option Nat) : w.grownBy (w.drewN n) row := ⟨rfl, rfl, rfl, Nat.le_refl _, fun _ _ _ => rfl⟩
theorem gdN {a w : World} {row : Option Nat} (h : a.grownBy w row) (n : Nat) : a.grownBy (w.drewN n) row := ⟨h.os, h.tape, h.output, h.size, h.block⟩
/-- a call that leaves the world alone is quiet, before and after other draws -/
theorem quiet_same {P : Program} {f : FuncId} {args : Array Value} {w : World} {n : Nat} {v : Value}
    (h : Calls P f args (w.drewN n) fun e w' => e = .returned v ∧ w.drewN n = w') : Calls P f args (w.drewN n) fun e w'' => e = .returned v ∧ ∃ m, w'' = w.drewN m :=
  h.mono fun _ _ ⟨he, hw⟩ => ⟨he, n, hw.symm⟩
theorem quiet_more {P : Program} {f : FuncId} {args : Array Value} {w : World} {a n : Nat} {v : Value}
    (h : Calls P f args (w.drewN (a + n)) fun e w' => e = .returned v ∧ w.drewN (a + n) = w') :
    Calls P f args (w.drewN (a + n)) fun e w'' => e = .returned v ∧ ∃ m, w'' = w.drewN (a + m) :=
  h.mono fun _ _ ⟨he, hw⟩ => ⟨he, n, hw.symm⟩
/-- a block that was made since may be written -/
theorem grown_new {a b c : World} {row : Option Nat} (h : a.grownBy b none) (k : b.grownBy c row) (hg : ∀ g, row = some g → a.heap.size ≤ g) : a.grownBy c none :=
  ⟨k.os.trans h.os, k.tape.trans h.tape, k.output.trans h.output, Nat.le_trans h.size k.size, fun i hi _ => (k.block i (Nat.lt_of_lt_of_le hi h.size) (by intro e; have := hg i e.symm; omega)).trans (h.block i hi (by simp))⟩
theorem grown_any {a b : World} (h : a.grownBy b none) (row : Option Nat) : a.grownBy b row :=
  ⟨h.os, h.tape, h.output, h.size, fun i hi _ => h.block i hi (by simp)⟩
theorem below_grown {a b : World} (h : Below a.heap.size a b) : a.grownBy b none := ⟨h.os, h.tape, h.output, h.size, fun i hi _ => h.block i hi⟩
theorem grown_below {a b : World} (h : a.grownBy b none) : Below a.heap.size a b := ⟨h.os, h.tape, h.output, h.size, fun i hi => h.block i hi (by simp)⟩

/-- the address a is the head of cells that read as xs -/
def Cel (w : World) (k : IntKind) (a : Option Addr) (xs : List Nat) : Prop :=
  ∀ j (h : j < xs.length), ∃ b o, a = some ⟨b, o, none⟩ ∧ w.cell? ⟨b, o + j, none⟩ = some (.int k (xs[j] : Nat))

/-- .slice a n c is a slice of numbers of kind k that reads as xs -/
structure IRd (w : World) (k : IntKind) (a : Option Addr) (n c : Nat) (xs : List Nat) : Prop where
  len : xs.length = n
  cap : n ≤ c
  max : c ≤ 9223372036854775807
  cel : Cel w k a xs

section
variable {w w' : World} {k : IntKind} {a : Option Addr} {n c : Nat} {xs : List Nat}
theorem IRd.kept (h : IRd w k a n c xs) {row : Option Nat} (hg : w.grownBy w' row) (hne : row = none ∨ ∀ p, a = some p → some p.block ≠ row) : IRd w' k a n c xs := by
  refine ⟨h.len, h.cap, h.max, fun j hj => ?_⟩
  obtain ⟨b, o, rfl, hc⟩ := h.cel j hj
  refine ⟨b, o, rfl, hg.cell hc ?_⟩
  rcases hne with rfl | hne
  · simp
  · exact hne ⟨b, o, none⟩ rfl
theorem IRd.keep (h : IRd w k a n c xs) (hg : w.grownBy w' none) : IRd w' k a n c xs := h.kept hg (.inl rfl)
theorem IRd.drew (h : IRd w k a n c xs) : IRd w.drew k a n c xs := ⟨h.len, h.cap, h.max, h.cel⟩
theorem IRd.nil (w : World) (k : IntKind) : IRd w k none 0 0 [] := ⟨rfl, Nat.le_refl _, by omega, fun j h => by simp at h⟩
theorem IRd.block (h : IRd w k a n c xs) (hn : 0 < n) : ∃ b o, a = some ⟨b, o, none⟩ ∧ b < w.heap.size ∧ ∀ j (h : j < xs.length), w.cell? ⟨b, o + j, none⟩ = some (.int k (xs[j] : Nat)) := by
  obtain ⟨b, o, rfl, hc⟩ := h.cel 0 (by rw [h.len]; exact hn)
  refine ⟨b, o, rfl, World.block_lt_of_cell? _ _ hc, fun j hj => ?_⟩
  obtain ⟨b', o', e, hc'⟩ := h.cel j hj
  cases e; exact hc'
/-- the first m cells -/
theorem IRd.take (h : IRd w k a n c xs) (m : Nat) (hm : m ≤ n) : IRd w k a m c (xs.take m) := by
  refine ⟨by rw [List.length_take, h.len]; omega, Nat.le_trans hm h.cap, h.max, fun j hj => ?_⟩
  have hj' : j < xs.length := by rw [List.length_take] at hj; omega
  obtain ⟨b, o, e, hc⟩ := h.cel j hj'
  exact ⟨b, o, e, by rw [hc]; simp⟩
/-- cells lo to hi -/
theorem IRd.sub (h : IRd w k a n c xs) (lo hi c' : Nat) (h1 : lo ≤ hi) (h2 : hi ≤ n) (hc' : hi - lo ≤ c') (hm : c' ≤ 9223372036854775807) (a' : Option Addr) (ha : lo < hi → a' = a.map (·.add lo)) :
    IRd w k a' (hi - lo) c' ((xs.drop lo).take (hi - lo)) := by
  refine ⟨by rw [List.length_take, List.length_drop, h.len]; omega, hc', hm, fun j hj => ?_⟩
  rw [List.length_take, List.length_drop, h.len] at hj
  obtain ⟨b, o, e, hc⟩ := h.cel (lo + j) (by rw [h.len]; omega)
  have ha' := ha (by omega)
  subst e
  refine ⟨b, o + lo, ?_, ?_⟩
  · rw [ha']; simp only [Option.map_some, Option.some.injEq]; unfold Addr.add; split
    · rename_i h0; subst h0; rfl
    · rfl
  · rw [show o + lo + j = o + (lo + j) by omega, hc]; simp
end

theorem add_addr (b o j : Nat) : (⟨b, o, none⟩ : Addr).add j = ⟨b, o + j, none⟩ := by unfold Addr.add; split <;> simp_all
theorem IRd.cut {w : World} {k : IntKind} {b o n c : Nat} {xs : List Nat} (h : IRd w k (some ⟨b, o, none⟩) n c xs) (lo hi c' : Nat) (h1 : lo ≤ hi) (h2 : hi ≤ n) (hc' : hi - lo ≤ c') (hm : c' ≤ 9223372036854775807) :
    IRd w k (some ⟨b, o + lo, none⟩) (hi - lo) c' ((xs.drop lo).take (hi - lo)) :=
  h.sub lo hi c' h1 h2 hc' hm _ fun _ => by rw [Option.map_some, add_addr]

/-- a row of one's own reads as its content, from any place on -/
theorem IRow.rd {w : World} {g : Nat} {e : TypeId} {k : IntKind} {xs : List Nat} (h : IRow w g e k xs) (o n c : Nat) (hn : o + n ≤ xs.length) (hc : n ≤ c) (hm : c ≤ 9223372036854775807) :
    IRd w k (some ⟨g, o, none⟩) n c ((xs.drop o).take n) := by
  have hl : ((xs.drop o).take n).length = n := by simp; omega
  refine ⟨hl, hc, hm, fun j hj => ⟨g, o, rfl, ?_⟩⟩
  rw [hl] at hj
  rw [h.cell (o + j) (by omega)]
  simp
theorem IRow.rd0 {w : World} {g : Nat} {e : TypeId} {k : IntKind} {xs : List Nat} (h : IRow w g e k xs) (hm : xs.length ≤ 9223372036854775807) :
    IRd w k (some ⟨g, 0, none⟩) xs.length xs.length xs := by
  have := h.rd 0 xs.length xs.length (by omega) (Nat.le_refl _) hm
  simpa using this

/-! ### make, copy, append on rows of numbers -/
section
variable {P : Program} {ops : Array Oper} {rest : List Oper} {o : Oper} {a : Act} {Q : Exit → Act → World → Prop}

theorem wl_make (w : World) (hg : o.guard = none) (l c : Operand) (t : TypeId) (hop : o.op = Op.makeSlice t l c)
    (e : TypeId) (k : IntKind) (bytes : Nat) (h1 : P.underlying t = some (.slice e)) (h2 : (P.info? e).map (fun i => (i.zero, i.size, i.bytes)) = some (some (.int k 0), 1, bytes))
    (kl kc : IntKind) (L C : Int) (hl : a.eval l = .int kl L) (hc : a.eval c = .int kc C) (n : Nat) (hL : L = (n : Int)) (hC : C = (n : Int)) (b2 : bytes * n ≤ 281474976710656) (b3 : n ≤ 9223372036854775807)
    (hK : ∀ w', IRow w' w.heap.size e k (List.replicate n 0) → w.grownBy w' none → wpList P ops Q rest (a.put o.dst (.slice (some ⟨w.heap.size, 0, none⟩) n n)) w') :
    wpList P ops Q (o :: rest) a w := by
  obtain ⟨i, hi, hz0, hz1, hz2⟩ := info_parts h2
  subst hz2
  refine wpList_make_full w hg l c t hop w.heap.size e i (.int k 0) 1 h1 hi hz0 hz1 kl kc L C n hl hc hL hC b2 (by unfold maxLen; omega) (Nat.le_refl _) fun w' ho hgr => hK w' ?_ hgr
  obtain ⟨_, h | ⟨g, cap, cur, hv, _, hh, _, _, hs, ht⟩⟩ := ho
  · simp at h
  · simp only [Value.slice.injEq, Option.some.injEq, Addr.mk.injEq, and_true, true_and] at hv
    obtain ⟨rfl, rfl⟩ := hv
    unfold IRow
    rw [hh]
    have e1 : cur.toList = List.replicate n (.int k 0) := by
      rw [Nat.mul_one] at hs ht
      rw [List.take_of_length_le (by simp [hs])] at ht
      rw [ht]; exact toList_madeCells_one _ _
    have e2 : cur = (List.replicate n (Value.int k 0)).toArray := by rw [← e1]
    rw [e2]; simp

theorem wl_copy (w : World) (hgd : o.guard = none) (d s : Operand) (dT sT : TypeId)
    (ho : o.op = .call { callee := .builtin .copy, args := #[d, s], argTypes := #[dT, sT] }) (e : TypeId) (hu : P.underlying dT = some (.slice e)) (hsz : (P.info? e).map (·.size) = some 1)
    (k : IntKind) (dp sp : Option Addr) (dLen dCap sLen sCap : Nat) (hd : a.eval d = .slice dp dLen dCap) (hs : a.eval s = .slice sp sLen sCap)
    (g off : Nat) (t : TypeId) (cur xs : List Nat) (hg : IRow w g t k cur) (hdp : 0 < dLen → dp = some ⟨g, off, none⟩) (hx : IRd w k sp sLen sCap xs) (hfit : off + dLen ≤ cur.length)
    (h : ∀ w', IRow w' g t k (splice cur off (xs.take dLen)) → w.grownBy w' (some g) → wpList P ops Q rest (a.put o.dst (.int .i64 ((min sLen dLen : Nat) : Int))) w') :
    wpList P ops Q (o :: rest) a w := by
  have hlen : ((xs.take dLen).map (iv k)).length = Nat.min sLen dLen := by
    rw [List.length_map, List.length_take, hx.len, Nat.min_comm]
  by_cases h0 : Nat.min sLen dLen = 0
  · refine wpList_copy_nothing hgd d s dT sT ho e hu hsz dp sp dLen dCap sLen sCap hd hs h0 ?_
    have hm : min sLen dLen = 0 := h0
    have := h w ?_ (grown_refl _ _)
    · rw [hm] at this; exact this
    · have e1 : xs.take dLen = [] := List.eq_nil_of_length_eq_zero (by rw [List.length_take, hx.len, Nat.min_comm]; exact h0)
      rw [e1]; simpa [splice] using hg
  · have hd0 : 0 < dLen := by
      rcases Nat.eq_zero_or_pos dLen with h1 | h1
      · subst h1; exact absurd (Nat.min_zero _) h0
      · exact h1
    have hs0 : 0 < sLen := by
      rcases Nat.eq_zero_or_pos sLen with h1 | h1
      · subst h1; exact absurd (Nat.zero_min _) h0
      · exact h1
    obtain rfl := hdp hd0
    obtain ⟨b, o', rfl, _, hc⟩ := hx.block hs0
    have hcl : ((xs.take dLen).map (iv k)).length ≤ dLen := by simp; omega
    refine wpList_copy_own hgd d s dT sT ho e hu hsz g off dLen dCap ⟨b, o', none⟩ sLen sCap hd hs (cur.map (iv k)).toArray t hg ((xs.take dLen).map (iv k)) hlen ?_ (by simp at hcl ⊢; omega) ?_ ?_
    · intro j v hv
      obtain ⟨hj, rfl⟩ := List.getElem?_eq_some_iff.1 hv
      have hj' : j < xs.length := by simp at hj; omega
      have hadd : (⟨b, o', none⟩ : Addr).add j = ⟨b, o' + j, none⟩ := by unfold Addr.add; split <;> simp_all
      rw [hadd, hc j hj']; simp
    · intro v hv
      obtain ⟨n, _, rfl⟩ := List.mem_map.1 hv
      rfl
    · rw [hlen]
      refine h _ ?_ ⟨rfl, rfl, rfl, by simp [World.setRow], fun i _ hne => setRow_other w g i _ (fun e => hne (by rw [e]))⟩
      unfold IRow
      rw [setRow_heap w g _ _ t _ hg]
      congr 2
      have := hx.len
      have e : sLen.min dLen = min sLen dLen := rfl
      simp [splice, e]; omega

theorem wl_shr (w : World) (hg : o.guard = none) (T T2 : TypeId) (px py : Operand) (hop : o.op = .binOp .shr T px py T2)
    (k yk : IntKind) (x c : Nat) (Y : Int) (hx : a.eval px = .int k x) (hy : a.eval py = .int yk Y) (hY : Y = (c : Int)) (hc : c ≤ k.bits)
    (hK : ∀ z : Nat, Hid (z = x / 2 ^ c) → z ≤ x → wpList P ops Q rest (a.put o.dst (.int k z)) w) : wpList P ops Q (o :: rest) a w := by
  refine wpList_plain hg fun K hK' => ?_
  subst hY
  have e : ((x : Int) / 2 ^ min ((c : Int).toNat) k.bits) = ((x / 2 ^ c : Nat) : Int) := by
    rw [Int.toNat_natCast, Nat.min_eq_left hc]; simp
  have e2 := hK _ (hid rfl) (Nat.div_le_self x (2 ^ c))
  rw [← e] at e2
  unfold Oper.wp
  simp only [execOp, hop, hx, hy, binOp, shift_shr_any _ _ _ _ (Int.natCast_nonneg c)]
  simp
  exact hK' _ _ (by simpa using e2)

theorem wl_shl (w : World) (hg : o.guard = none) (T T2 : TypeId) (px py : Operand) (hop : o.op = .binOp .shl T px py T2)
    (k yk : IntKind) (x c : Nat) (Y : Int) (hx : a.eval px = .int k x) (hy : a.eval py = .int yk Y) (hY : Y = (c : Int)) (hc : c ≤ k.bits)
    (hw : k.wrap ((x * 2 ^ c : Nat) : Int) = ((x * 2 ^ c % 2 ^ k.bits : Nat) : Int))
    (hK : ∀ z : Nat, Hid (z = x * 2 ^ c % 2 ^ k.bits) → z < 2 ^ k.bits → wpList P ops Q rest (a.put o.dst (.int k z)) w) : wpList P ops Q (o :: rest) a w := by
  refine wpList_plain hg fun K hK' => ?_
  subst hY
  have e : k.wrap ((x : Int) * 2 ^ min ((c : Int).toNat) k.bits) = ((x * 2 ^ c % 2 ^ k.bits : Nat) : Int) := by
    rw [Int.toNat_natCast, Nat.min_eq_left hc, ← hw]; simp
  have e2 := hK _ (hid rfl) (Nat.mod_lt _ (Nat.pow_pos (by omega)))
  rw [← e] at e2
  unfold Oper.wp
  simp only [execOp, hop, hx, hy, binOp, shift_shl_any _ _ _ _ (Int.natCast_nonneg c)]
  simp
  exact hK' _ _ (by simpa using e2)
end
end Nm

/-
  Contracts of the functions of package natural that handle limbs and words: trim, clone, word, pack, unpack.
-/
set_option linter.unusedVariables false
set_option linter.unusedSimpArgs false
namespace Go.Proofs.YtnfmjlomiihcnaaDoor
open Go.RowKit Nm


/-- trim drops the leading zeros -/
theorem trim16 (a : Option Addr) (n c : Nat) (xs : List Nat) (w : World) (h : IRd w .u16 a n c xs) :
    Calls Tryd.prog 44 #[.slice a n c] w fun e w' => e = .returned (.slice a (trimR xs).length c) ∧ w = w' := by
  have hl := h.len
  have hcap := h.cap
  have hmax := h.max
  have HL := hid hl
  clear hl
  go_enter Tryd.func44, Tryd.ntmps44
  go_wp2
  go_loop [0] (fun t => ∃ k : Nat, k ≤ n ∧ trimR xs = trimR (xs.take k) ∧ t = .slice a k c) (fun t => match t with | .slice _ k _ => k | _ => 0)
  case atStart => exact ⟨n, Nat.le_refl _, by rw [List.take_of_length_le (by rw [HL.out]; exact Nat.le_refl _)], rfl⟩
  case round =>
    obtain ⟨k, hk, hz, rfl⟩ := hrel
    have HZ := hid hz
    clear hz
    by_cases h0 : 0 < k
    · obtain ⟨i, rfl⟩ : ∃ i, k = i + 1 := ⟨k - 1, by omega⟩
      have hi : i < xs.length := by rw [HL.out]; omega
      obtain ⟨b, o, rfl, hci⟩ := h.cel i hi
      have ht := List.take_succ_eq_append_getElem hi
      obtain ⟨x, hx⟩ : ∃ x, x = xs[i] := ⟨_, rfl⟩
      rw [← hx] at hci ht
      have HT := hid ht
      clear ht hx h hi
      by_cases hf : x = 0
      · have HF := hid hf
        rw [hf] at hci
        clear hf
        go_wp2
        exact ⟨⟨i, by omega, by rw [HZ.out, HT.out, HF.out, trimR_snoc_zero], rfl⟩, by simp⟩
      · go_wp2
        go_ret
        exact ⟨by rw [HZ.out, HT.out, trimR_snoc hf]; simp; have := HL.out; omega, rfl⟩
    · obtain rfl : k = 0 := by omega
      go_wp2
      go_ret
      exact ⟨by rw [HZ.out]; simp [trimR], rfl⟩

/-- trim drops the leading zeros -/
theorem trim64 (a : Option Addr) (n c : Nat) (xs : List Nat) (w : World) (h : IRd w .u64 a n c xs) :
    Calls Tryd.prog 64 #[.slice a n c] w fun e w' => e = .returned (.slice a (trimR xs).length c) ∧ w = w' := by
  have hl := h.len
  have hcap := h.cap
  have hmax := h.max
  have HL := hid hl
  clear hl
  go_enter Tryd.func64, Tryd.ntmps64
  go_wp2
  go_loop [0] (fun t => ∃ k : Nat, k ≤ n ∧ trimR xs = trimR (xs.take k) ∧ t = .slice a k c) (fun t => match t with | .slice _ k _ => k | _ => 0)
  case atStart => exact ⟨n, Nat.le_refl _, by rw [List.take_of_length_le (by rw [HL.out]; exact Nat.le_refl _)], rfl⟩
  case round =>
    obtain ⟨k, hk, hz, rfl⟩ := hrel
    have HZ := hid hz
    clear hz
    by_cases h0 : 0 < k
    · obtain ⟨i, rfl⟩ : ∃ i, k = i + 1 := ⟨k - 1, by omega⟩
      have hi : i < xs.length := by rw [HL.out]; omega
      obtain ⟨b, o, rfl, hci⟩ := h.cel i hi
      have ht := List.take_succ_eq_append_getElem hi
      obtain ⟨x, hx⟩ : ∃ x, x = xs[i] := ⟨_, rfl⟩
      rw [← hx] at hci ht
      have HT := hid ht
      clear ht hx h hi
      by_cases hf : x = 0
      · have HF := hid hf
        rw [hf] at hci
        clear hf
        go_wp2
        exact ⟨⟨i, by omega, by rw [HZ.out, HT.out, HF.out, trimR_snoc_zero], rfl⟩, by simp⟩
      · go_wp2
        go_ret
        exact ⟨by rw [HZ.out, HT.out, trimR_snoc hf]; simp; have := HL.out; omega, rfl⟩
    · obtain rfl : k = 0 := by omega
      go_wp2
      go_ret
      exact ⟨by rw [HZ.out]; simp [trimR], rfl⟩

theorem or_join (v x : Nat) (hv : v < 281474976710656) (hx : x < 65536) : bits .or .u64 ((v : Int) * 65536) (x : Int) = ((v * 65536 + x : Nat) : Int) := by
  have e : ((v : Int) * 65536) = ((v * 65536 : Nat) : Int) := by simp
  rw [e, bits_or_u64_nat _ _ (by omega) (by omega), nat_join 16 _ _ (by omega) (by omega)]

theorem V_word {xs : List Nat} (h : Dg 65536 xs) (m : Nat) (hm : xs.length ≤ m) : V 65536 xs < 65536 ^ m :=
  Nat.lt_of_lt_of_le h.lt (Nat.pow_le_pow_right (by omega) hm)

theorem word_any (a : Option Addr) (n c : Nat) (xs : List Nat) (w : World) (h : IRd w .u16 a n c xs) (hd : Dg 65536 xs) (hn : n ≤ 4) :
    Calls Tryd.prog 46 #[.slice a n c] w fun e w' => e = .returned (.int .u64 (V 65536 xs : Nat)) ∧ w = w' := by
  have HL := hid h.len
  have hcap := h.cap
  have hmax := h.max
  go_enter Tryd.func46, Tryd.ntmps46
  go_wp2
  go_loop [3, 4] (fun t i => ∃ k : Nat, k ≤ n ∧ i = .int .i64 ((k : Int) - 1) ∧ t = .int .u64 (V 65536 (xs.drop k) : Nat)) (fun _ i => (intOf i + 1).toNat)
  case atStart => exact ⟨n, Nat.le_refl _, rfl, by rw [List.drop_of_length_le (by rw [HL.out]; exact Nat.le_refl _)]; rfl⟩
  case round =>
    obtain ⟨k, hk, rfl, rfl⟩ := hrel
    by_cases h0 : 0 < k
    · obtain ⟨i, rfl⟩ : ∃ i, k = i + 1 := ⟨k - 1, by omega⟩
      have hi : i < xs.length := by rw [HL.out]; omega
      obtain ⟨b, o, rfl, hci⟩ := h.cel i hi
      have ht := V_drop_succ (B := 65536) xs i hi
      have hxb := hd.get i hi
      have hvb := V_word (hd.drop (i + 1)) 3 (by rw [List.length_drop, HL.out]; omega)
      obtain ⟨x, hx⟩ : ∃ x, x = xs[i] := ⟨_, rfl⟩
      rw [← hx] at hci ht hxb
      obtain ⟨v, hv⟩ : ∃ v, v = V 65536 (xs.drop (i + 1)) := ⟨_, rfl⟩
      rw [← hv] at hvb ht ⊢
      have hvb' : v < 281474976710656 := hvb
      have HT := hid ht
      have HO := hid (or_join v x hvb' hxb)
      clear ht hx h hi hd hv hvb
      go_wp2
      exact ⟨⟨i, by omega, rfl, by rw [HO.out, HT.out]; congr 2; omega⟩, by simp [intOf]⟩
    · obtain rfl : k = 0 := by omega
      go_wp2
      go_ret
      exact ⟨by simp, rfl⟩

theorem clone_any (a : Option Addr) (n c : Nat) (xs : List Nat) (w : World) (h : IRd w .u16 a n c xs) (hn : n ≤ 1000000) :
    Calls Tryd.prog 45 #[.slice a n c] w fun e w' => e = .returned (.slice (some ⟨w.heap.size, 0, none⟩) n n) ∧ IRow w' w.heap.size 37 .u16 xs ∧ w.grownBy w' none := by
  go_enter Tryd.func45, Tryd.ntmps45
  go_wp2_with (first
    | (at_make; refine wl_make _ rfl _ _ 23 rfl 37 .u16 2 Tryd.underlying23 (by kernel_rfl) _ _ _ _ rfl rfl n rfl rfl (by omega) (by omega) ?_; intro w1 hr1 hg1)
    | (with_reducible refine wl_copy _ rfl (.tmp 7) (.tmp 8) 23 23 rfl 37 Tryd.underlying23 (by kernel_rfl) .u16 _ _ _ _ _ _ rfl rfl w.heap.size 0 37 _ xs hr1 (fun _ => rfl) (h.keep hg1) (by simp) ?_; intro w2 hr2 hg2))
  go_ret
  refine ⟨rfl, ?_, grown_new hg1 hg2 (fun g e => by cases e; exact Nat.le_refl _)⟩
  have e : splice (List.replicate n 0) 0 (xs.take n) = xs := by
    have := h.len
    rw [List.take_of_length_le (by omega)]
    simp [splice]; omega
  rwa [e] at hr2

end Go.Proofs.YtnfmjlomiihcnaaDoor

/-
  Contracts of the functions of package math/bits that package natural calls.
-/
set_option linter.unusedVariables false
set_option linter.unusedSimpArgs false
namespace Go.Proofs.YtnfmjlomiihcnaaDoor
open Go.RowKit Nm

/-- 2 to the 64th -/
def W64 : Nat := 18446744073709551616

theorem and_low (a : Nat) (ha : a < 18446744073709551616) : bits .and .u64 (a : Int) 4294967295 = ((a % 4294967296 : Nat) : Int) :=
  (bits_and_u64_nat a 4294967295 ha (by omega)).trans (by rw [Nat.and_two_pow_sub_one_eq_mod a 32])
theorem cast_div (a : Nat) : (a : Int) / 4294967296 = ((a / 4294967296 : Nat) : Int) := by omega
theorem cast_mul (a b : Nat) : (a : Int) * (b : Int) = ((a * b : Nat) : Int) := by simp
theorem cast_add (a b : Nat) : (a : Int) + (b : Int) = ((a + b : Nat) : Int) := by simp
theorem wrap_in (a : Nat) (ha : a < 18446744073709551616) : IntKind.u64.wrap (a : Int) = (a : Int) := by rw [IntKind.wrap_u64]; omega
theorem wrap_mod (a : Nat) : IntKind.u64.wrap (a : Int) = ((a % 18446744073709551616 : Nat) : Int) := by rw [IntKind.wrap_u64]; omega

theorem mul64_any (x y : Nat) (hx : x < 18446744073709551616) (hy : y < 18446744073709551616) (w : World) :
    Calls Tryd.prog 70 #[.int .u64 x, .int .u64 y] w fun e w' => ∃ hi lo : Nat, e = .returned (.tuple #[.int .u64 hi, .int .u64 lo]) ∧ hi < W64 ∧ lo < W64 ∧ Hid (x * y = lo + W64 * hi) ∧ w = w' := by
  obtain ⟨bd, bt, bw, hhi⟩ := Lib.mul64_hi x y hx hy
  have p1 := Lib.half_mul_le (a := x / 4294967296) (b := y / 4294967296) (by omega) (by omega)
  have p2 := Lib.half_mul_le (a := x / 4294967296) (b := y % 4294967296) (by omega) (by omega)
  have p3 := Lib.half_mul_le (a := x % 4294967296) (b := y / 4294967296) (by omega) (by omega)
  have q1 : x / 4294967296 * (y / 4294967296) < 18446744073709551616 := by omega
  have q2 : x / 4294967296 * (y % 4294967296) < 18446744073709551616 := by omega
  have q3 : x % 4294967296 * (y / 4294967296) < 18446744073709551616 := by omega
  have s1 : x / 4294967296 * (y / 4294967296) + (x / 4294967296 * (y % 4294967296) + x % 4294967296 * (y % 4294967296) / 4294967296) / 4294967296 < 18446744073709551616 := by omega
  have s2 : x / 4294967296 * (y / 4294967296) + (x / 4294967296 * (y % 4294967296) + x % 4294967296 * (y % 4294967296) / 4294967296) / 4294967296 + ((x / 4294967296 * (y % 4294967296) + x % 4294967296 * (y % 4294967296) / 4294967296) % 4294967296 + x % 4294967296 * (y / 4294967296)) / 4294967296 < 18446744073709551616 := by omega
  go_enter Tryd.func70, Tryd.ntmps70
  go_wp2
  simp only [and_low x hx, and_low y hy, cast_div, cast_mul, cast_add, wrap_in _ bd, wrap_in _ q2, wrap_in _ bt, and_low _ bt, wrap_in _ q3, wrap_in _ bw, wrap_in _ q1, wrap_in _ s1, wrap_in _ s2, wrap_mod (x * y)]
  rw [hhi]
  go_ret2
  have hlt : x * y < 18446744073709551616 * 18446744073709551616 := Nat.mul_lt_mul'' hx hy
  refine ⟨_, _, rfl, ?_, Nat.mod_lt _ (by decide), ?_, rfl⟩
  · exact Nat.div_lt_of_lt_mul hlt
  · exact (Nat.mod_add_div (x * y) 18446744073709551616).symm

theorem run_add (x y c : Nat) (hc : c ≤ 1) (w : World) :
    (callFunc 98 #[.int .u64 x, .int .u64 y, .int .u64 c]).run Tryd.prog w =
      .ok (.value (.tuple #[.int .u64 ((x + y + c) % 18446744073709551616 : Nat), .int .u64 ((x + y + c) / 18446744073709551616 : Nat)])) w := by
  have : c = 0 ∨ c = 1 := by omega
  rw [run_callFunc_extern Tryd.func98 (by kernel_rfl) (by kernel_rfl) (by kernel_rfl) (by kernel_rfl), run_add64 x y c (by omega) (by omega) (by omega) (by omega)]
  simp only [Result.andThen]
  congr 5 <;> omega
/-- the model's entry for math/bits.Sub64, at a borrow of 0 or 1 -/
theorem run_sub (x y b : Nat) (hb : b ≤ 1) (hx : x < 18446744073709551616) (hy : y < 18446744073709551616) (w : World) :
    ∃ d c : Nat, (callFunc 106 #[.int .u64 x, .int .u64 y, .int .u64 b]).run Tryd.prog w = .ok (.value (.tuple #[.int .u64 d, .int .u64 c])) w ∧ d < W64 ∧ c ≤ 1 ∧ Hid (d + (y + b) = x + W64 * c) := by
  refine ⟨(x + 18446744073709551616 - y - b) % 18446744073709551616, if x < y + b then 1 else 0, ?_, Nat.mod_lt _ (by decide), by split <;> omega, ?_⟩
  · have : b = 0 ∨ b = 1 := by omega
    rw [run_callFunc_extern Tryd.func106 (by kernel_rfl) (by kernel_rfl) (by kernel_rfl) (e := fun args => do
      let (x, y, b) ← Extern.MathBitsCarry.three "Sub64" args
      pure (Extern.MathBitsCarry.pair ((x + Extern.MathBitsCarry.m64 - y - b) % Extern.MathBitsCarry.m64) (if x < y + b then 1 else 0))) (by kernel_rfl)]
    rcases this with rfl | rfl <;> rfl
  · show _ = _
    unfold W64
    split <;> omega

section
variable {ops : Array Oper} {rest : List Oper} {o : Oper} {a : Act} {Q : Exit → Act → World → Prop}

theorem wl_add64 (w : World) (hg : o.guard = none) (px py pc : Operand) (T : Array TypeId) (hop : o.op = .call { callee := .value (.func 98), args := #[px, py, pc], argTypes := T })
    (x y c : Nat) (hx : a.eval px = .int .u64 x) (hy : a.eval py = .int .u64 y) (hc : a.eval pc = .int .u64 c) (bx : x < W64) (by' : y < W64) (bc : c ≤ 1)
    (hK : ∀ s co : Nat, s < W64 → co ≤ 1 → Hid (x + y + c = s + W64 * co) → wpList Tryd.prog ops Q rest (a.put o.dst (.tuple #[.int .u64 s, .int .u64 co])) w) :
    wpList Tryd.prog ops Q (o :: rest) a w := by
  refine wpList_plain hg fun K hK' => ?_
  have hrun := run_add x y c bc w
  have hm := Nat.mod_add_div (x + y + c) 18446744073709551616
  have hl := Nat.mod_lt (x + y + c) (show 0 < 18446744073709551616 by decide)
  unfold W64 at *
  generalize (x + y + c) % 18446744073709551616 = s at *
  generalize (x + y + c) / 18446744073709551616 = co at *
  unfold Oper.wp
  have he : a.eval (.func 98) = .func (.func 98) #[] #[] := rfl
  simp [execOp, hop, resolve, invoke, Deferred.ofValue, he, hx, hy, hc, hrun]
  exact hK' _ _ (hK s co hl (by omega) hm.symm)

theorem wl_sub64 (w : World) (hg : o.guard = none) (px py pc : Operand) (T : Array TypeId) (hop : o.op = .call { callee := .value (.func 106), args := #[px, py, pc], argTypes := T })
    (x y c : Nat) (hx : a.eval px = .int .u64 x) (hy : a.eval py = .int .u64 y) (hc : a.eval pc = .int .u64 c) (bx : x < W64) (by' : y < W64) (bc : c ≤ 1)
    (hK : ∀ s co : Nat, s < W64 → co ≤ 1 → Hid (s + (y + c) = x + W64 * co) → wpList Tryd.prog ops Q rest (a.put o.dst (.tuple #[.int .u64 s, .int .u64 co])) w) :
    wpList Tryd.prog ops Q (o :: rest) a w := by
  refine wpList_plain hg fun K hK' => ?_
  obtain ⟨s, co, hrun, h1, h2, h3⟩ := run_sub x y c bc bx by' w
  unfold Oper.wp
  have he : a.eval (.func 106) = .func (.func 106) #[] #[] := rfl
  simp [execOp, hop, resolve, invoke, Deferred.ofValue, he, hx, hy, hc, hrun]
  exact hK' _ _ (hK s co h1 h2 h3)
end
end Go.Proofs.YtnfmjlomiihcnaaDoor

/-
  Contracts of math/bits.Len64 and Len16.
-/
set_option linter.unusedVariables false
set_option linter.unusedSimpArgs false
namespace Go.Proofs.YtnfmjlomiihcnaaDoor
open Go.RowKit Nm

theorem wl_len8 {P : Program} {ops : Array Oper} {rest : List Oper} {o : Oper} {a : Act} {Q : Exit → Act → World → Prop} (w : World) (hg : o.guard = none) (T : TypeId) (S : ByteArray) (px : Operand) (hop : o.op = .index T (.const (.string S)) px)
    (hu : P.underlying T = some .string) (hS : S = Lib.len8tab) (k : IntKind) (i : Int) (hx : a.eval px = .int k i) (h0 : 0 ≤ i) (h1 : i ≤ 255)
    (hK : ∀ L : Nat, L ≤ 8 → Hid (L = Lib.bitLen i.toNat) → wpList P ops Q rest (a.put o.dst (.int .u8 L)) w) : wpList P ops Q (o :: rest) a w := by
  refine wpList_plain hg fun K hK' => ?_
  have hrun := Lib.run_index_len8tab (P := P) w T k i hu h0 h1
  rw [Lib.len8_of i h0 h1] at hrun
  subst hS
  have he : a.eval (.const (.string Lib.len8tab)) = .string Lib.len8tab := rfl
  unfold Oper.wp
  simp [execOp, hop, he, hx, hrun]
  exact hK' _ _ (hK _ (Lib.bitLen_le8' i h0 h1) (hid rfl))

set_option maxHeartbeats 1000000 in
theorem len64_int (x : Int) (h0 : 0 ≤ x) (h1 : x ≤ 18446744073709551615) (w : World) :
    Calls Tryd.prog 83 #[.int .u64 x] w fun e w' => e = .returned (.int .i64 (Lib.bitLen x.toNat : Nat)) ∧ w = w' := by
  go_enter Tryd.func83, Tryd.ntmps83
  go_wp2_with (refine wl_len8 _ rfl 9 _ (.tmp 21) rfl Tryd.underlying9 (by kernel_rfl) .u8 _ rfl (by omega) (by omega) ?_; intro L hL HL)
  all_goals
    go_ret
    have HL' := HL.out
    refine ⟨congrArg Ending.returned (congrArg (Value.int IntKind.i64) ?_), rfl⟩
  · have e : (x / 4294967296 / 65536 / 256).toNat = x.toNat / 72057594037927936 := by omega
    rw [Lib.bitLen_shift56 x.toNat (by omega) (by omega), ← e, ← HL']; omega
  · have e : (x / 4294967296 / 65536).toNat = x.toNat / 281474976710656 := by omega
    rw [Lib.bitLen_shift48 x.toNat (by omega) (by omega), ← e, ← HL']; omega
  · have e : (x / 4294967296 / 256).toNat = x.toNat / 1099511627776 := by omega
    rw [Lib.bitLen_shift40 x.toNat (by omega) (by omega), ← e, ← HL']; omega
  · have e : (x / 4294967296).toNat = x.toNat / 4294967296 := by omega
    rw [Lib.bitLen_shift32 x.toNat (by omega) (by omega), ← e, ← HL']; omega
  · have e : (x / 65536 / 256).toNat = x.toNat / 16777216 := by omega
    rw [Lib.bitLen_shift24 x.toNat (by omega) (by omega), ← e, ← HL']; omega
  · have e : (x / 65536).toNat = x.toNat / 65536 := by omega
    rw [Lib.bitLen_shift16 x.toNat (by omega) (by omega), ← e, ← HL']; omega
  · have e : (x / 256).toNat = x.toNat / 256 := by omega
    rw [Lib.bitLen_shift8 x.toNat (by omega) (by omega), ← e, ← HL']; omega
  · rw [← HL']

theorem len16_int (x : Int) (h0 : 0 ≤ x) (h1 : x ≤ 65535) (w : World) :
    Calls Tryd.prog 100 #[.int .u16 x] w fun e w' => e = .returned (.int .i64 (Lib.bitLen x.toNat : Nat)) ∧ w = w' := by
  go_enter Tryd.func100, Tryd.ntmps100
  go_wp2_with (refine wl_len8 _ rfl 9 _ (.tmp 9) rfl Tryd.underlying9 (by kernel_rfl) .u8 _ rfl (by omega) (by omega) ?_; intro L hL HL)
  all_goals
    go_ret
    have HL' := HL.out
    refine ⟨congrArg Ending.returned (congrArg (Value.int IntKind.i64) ?_), rfl⟩
  · have e : (x / 256).toNat = x.toNat / 256 := by omega
    rw [Lib.bitLen_shift8 x.toNat (by omega) (by omega), ← e, ← HL']; omega
  · rw [← HL']

/-- a number has as many binary digits as bitLen says -/
theorem bitLen_spec (x : Nat) (hx : x < W64) : (x = 0 ∧ Lib.bitLen x = 0) ∨ (1 ≤ Lib.bitLen x ∧ 2 ^ (Lib.bitLen x - 1) ≤ x ∧ x < 2 ^ Lib.bitLen x) := by
  by_cases h : x = 0
  · exact .inl ⟨h, by rw [h]; rfl⟩
  · exact .inr (Lib.bitLenAux_bounds 64 x hx h)

theorem bitLen_le64 (x : Nat) (hx : x < W64) : Lib.bitLen x ≤ 64 := Lib.bitLen_le x 64 (Nat.le_refl _) hx

theorem len64_any (x : Nat) (hx : x < W64) (w : World) :
    Calls Tryd.prog 83 #[.int .u64 x] w fun e w' => ∃ l : Nat, l ≤ 64 ∧ Hid (l = Lib.bitLen x) ∧ e = .returned (.int .i64 l) ∧ w = w' := by
  have h1 : x < 18446744073709551616 := hx
  refine (len64_int x (by omega) (by omega) w).mono fun e w' ⟨h, k⟩ => ⟨Lib.bitLen x, bitLen_le64 x hx, hid rfl, h, k⟩

theorem len16_any (x : Nat) (hx : x < 65536) (w : World) :
    Calls Tryd.prog 100 #[.int .u16 x] w fun e w' => ∃ l : Nat, l ≤ 16 ∧ Hid (l = Lib.bitLen x) ∧ e = .returned (.int .i64 l) ∧ w = w' := by
  refine (len16_int x (by omega) (by omega) w).mono fun e w' ⟨h, k⟩ => ⟨Lib.bitLen x, Lib.bitLen_le x 16 (by omega) hx, hid rfl, h, k⟩
end Go.Proofs.YtnfmjlomiihcnaaDoor
