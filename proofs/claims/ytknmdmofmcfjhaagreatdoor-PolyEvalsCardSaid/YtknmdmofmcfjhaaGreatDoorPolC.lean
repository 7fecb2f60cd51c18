/-
  Plain facts on polynomials as lists of terms: sums of many, by halves and one after the other; the product that way; adding one term. No program is mentioned here.
-/
import Derived.Test.YtknmdmofmcfjhaaGreatDoorPolB
namespace Nm
/-- the sum of g a, .., g (b - 1), by halves -/
def totB (g : Nat → List Tm) (a b : Nat) : List Tm :=
  if h : b ≤ a then [] else if h1 : b = a + 1 then g a else addP (totB g a ((a + b) / 2)) (totB g ((a + b) / 2) b)
termination_by b - a
theorem totB_none (g : Nat → List Tm) {a b : Nat} (h : b ≤ a) : totB g a b = [] := by rw [totB, dif_pos h]
theorem totB_one (g : Nat → List Tm) (a : Nat) : totB g a (a + 1) = g a := by rw [totB, dif_neg (by omega), dif_pos rfl]
theorem totB_two (g : Nat → List Tm) {a b : Nat} (h : a + 2 ≤ b) : totB g a b = addP (totB g a ((a + b) / 2)) (totB g ((a + b) / 2) b) := by
  rw [totB, dif_neg (by omega), dif_neg (by omega)]
theorem NF.tot {g : Nat → List Tm} : ∀ {a b : Nat}, (∀ i, a ≤ i → i < b → NF (g i)) → NF (totB g a b) := by
  intro a b
  fun_induction totB g a b with
  | case1 a b h => intro _; exact .nil
  | case2 a h => intro k; exact k a (by omega) (by omega)
  | case3 a b h h1 i1 i2 => intro k; exact (i1 fun i x y => k i x (by omega)).add (i2 fun i x y => k i (by omega) y)
/-- the sum of n numbers from the number a on -/
def sumF (h : Nat → Rat) : Nat → Nat → Rat
  | _, 0 => 0
  | a, n + 1 => h a + sumF h (a + 1) n
theorem sumF_add (h : Nat → Rat) (a n m : Nat) : sumF h a (n + m) = sumF h a n + sumF h (a + n) m := by
  induction n generalizing a with
  | zero => simp only [Nat.zero_add, Nat.add_zero, sumF]; grind
  | succ n ih =>
    rw [show n + 1 + m = (n + m) + 1 by omega]
    simp only [sumF]
    rw [ih, show a + 1 + n = a + (n + 1) by omega]; grind
theorem vl_totB (f : List Int → Rat) {g : Nat → List Tm} : ∀ {a b : Nat}, (∀ i, a ≤ i → i < b → NF (g i)) → vl f (totB g a b) = sumF (fun i => vl f (g i)) a (b - a) := by
  intro a b
  fun_induction totB g a b with
  | case1 a b h => intro _; rw [show b - a = 0 by omega]; rfl
  | case2 a h => intro k; rw [show a + 1 - a = 1 by omega]; simp only [sumF]; grind
  | case3 a b h h1 i1 i2 =>
    intro k
    have k1 : ∀ i, a ≤ i → i < (a + b) / 2 → NF (g i) := fun i x y => k i x (by omega)
    have k2 : ∀ i, (a + b) / 2 ≤ i → i < b → NF (g i) := fun i x y => k i (by omega) y
    rw [vl_addP f _ _ (NF.tot k1) (NF.tot k2), i1 k1, i2 k2]
    have e := sumF_add (fun i => vl f (g i)) a ((a + b) / 2 - a) (b - (a + b) / 2)
    rw [show (a + b) / 2 - a + (b - (a + b) / 2) = b - a by omega, show a + ((a + b) / 2 - a) = (a + b) / 2 by omega] at e
    exact e.symm
theorem sumF_congr {h k : Nat → Rat} {a n : Nat} (e : ∀ i, a ≤ i → i < a + n → h i = k i) : sumF h a n = sumF k a n := by
  induction n generalizing a with
  | zero => rfl
  | succ n ih => simp only [sumF]; rw [e a (by omega) (by omega), ih fun i x y => e i (by omega) (by omega)]
theorem sumF_shift (h : Nat → Rat) (a n : Nat) : sumF h (a + 1) n = sumF (fun i => h (i + 1)) a n := by
  induction n generalizing a with
  | zero => rfl
  | succ n ih => simp only [sumF]; rw [ih]
/-- the rows of a product -/
def rowP (p q : List Tm) (i : Nat) : List Tm := mulT (p[i]?.getD ([], 0)) q
theorem NF.row {p q : List Tm} (hp : ∀ t ∈ p, t.2 ≠ 0) (hq : NF q) {i : Nat} (hi : i < p.length) : NF (rowP p q i) := by
  unfold rowP
  rw [List.getElem?_eq_getElem hi]
  exact NF.mulT (hp _ (List.getElem_mem hi)) hq
theorem vl_rows (f : List Int → Rat) {p q : List Tm} (hp : ∀ t ∈ p, t.2 ≠ 0) (hq : NF q) : vl f (mulP p q) = sumF (fun i => vl f (rowP p q i)) 0 p.length := by
  induction p with
  | nil => rfl
  | cons t p ih =>
    have hp' : ∀ s ∈ p, s.2 ≠ 0 := fun s hs => hp s (by simp [hs])
    show vl f (addP (mulT t q) (mulP p q)) = _
    rw [vl_addP f _ _ (NF.mulT (hp t (by simp)) hq) (NF.mul hp' hq), ih hp']
    simp only [List.length_cons, sumF]
    rw [sumF_shift]
    rfl
/-- the product is the sum of its rows by halves -/
theorem mulP_tot {p q : List Tm} (hp : NF p) (hq : NF q) : totB (rowP p q) 0 p.length = mulP p q := by
  have k : ∀ i, 0 ≤ i → i < p.length → NF (rowP p q i) := fun i _ h => NF.row hp.nz hq h
  refine (NF.tot k).extV (NF.mul hp.nz hq) fun f => ?_
  rw [vl_totB f k, vl_rows f hp.nz hq, Nat.sub_zero]
/-- the sum of the first n, one after the other -/
def accP (g : Nat → List Tm) : Nat → List Tm
  | 0 => []
  | n + 1 => addP (accP g n) (g n)
theorem NF.acc {g : Nat → List Tm} {n : Nat} (h : ∀ i, i < n → NF (g i)) : NF (accP g n) := by
  induction n with
  | zero => exact .nil
  | succ n ih => exact (ih fun i hi => h i (by omega)).add (h n (by omega))
theorem vl_accP (f : List Int → Rat) {g : Nat → List Tm} {n : Nat} (h : ∀ i, i < n → NF (g i)) : vl f (accP g n) = sumF (fun i => vl f (g i)) 0 n := by
  induction n with
  | zero => rfl
  | succ n ih =>
    have k : ∀ i, i < n → NF (g i) := fun i hi => h i (by omega)
    show vl f (addP _ _) = _
    rw [vl_addP f _ _ (NF.acc k) (h n (by omega)), ih k, sumF_add]
    simp only [sumF, Nat.zero_add]; grind
theorem mulP_acc {p q : List Tm} (hp : NF p) (hq : NF q) : accP (rowP p q) p.length = mulP p q := by
  have k : ∀ i, i < p.length → NF (rowP p q i) := fun i h => NF.row hp.nz hq h
  refine (NF.acc k).extV (NF.mul hp.nz hq) fun f => ?_
  rw [vl_accP f k, vl_rows f hp.nz hq]

/-! ### one term is added -/
/-- the polynomial of one term -/
def one (m : List Int) (c : Rat) : List Tm := if c = 0 then [] else [(m, c)]
theorem NF.one {m : List Int} {c : Rat} (hm : m.getLast? ≠ some 0) : NF (one m c) := by
  unfold Nm.one
  split
  · exact .nil
  · next h => exact NF.nil.cons (by simp) h hm
theorem vl_one (f : List Int → Rat) (m : List Int) (c : Rat) : vl f (one m c) = c * f m := by
  unfold one
  split
  · next h => rw [h]; simp only [vl]; grind
  · simp only [vl]; grind
/-- what lies ahead of a greater monomial stays -/
theorem addP_ahead {s : Tm} {p : List Tm} {m : List Int} {c : Rat} (h : 0 < lexL s.1 m) : addP (s :: p) (one m c) = s :: addP p (one m c) := by
  unfold one
  split
  · rw [addP_nil, addP_nil]
  · rw [addP, if_pos h]
theorem addP_here {s : Tm} {p : List Tm} {c : Rat} (hs : s.2 ≠ 0) : addP (s :: p) (one s.1 c) = if s.2 + c = 0 then p else (s.1, s.2 + c) :: p := by
  unfold one
  have e := lexL_self s.1
  by_cases h : c = 0
  · rw [if_pos h, addP_nil, h, if_neg (by grind), show s.2 + 0 = s.2 by grind]
  · rw [if_neg h, addP, if_neg (by show ¬ 0 < lexL s.1 s.1; omega), if_neg (by show ¬ lexL s.1 s.1 < 0; omega), addP_nil]
theorem addP_below {s : Tm} {p : List Tm} {m : List Int} {c : Rat} (h : lexL s.1 m < 0) (hc : c ≠ 0) : addP (s :: p) (one m c) = (m, c) :: s :: p := by
  unfold one
  rw [if_neg hc, addP, if_neg (by show ¬ 0 < lexL s.1 m; omega), if_pos h, addP_nil]
end Nm
