/-
  Plain facts on polynomials as lists of terms: values, degrees, the leading term. No program is mentioned here.
-/
import Derived.Test.YtknmdmofmcfjhaaGreatDoorPolA
set_option linter.unusedVariables false
set_option linter.unusedSimpArgs false
namespace Nm
theorem rpow_add (x : Rat) (a b : Nat) : x ^ (a + b) = x ^ a * x ^ b := by
  induction b with
  | zero => rw [Nat.add_zero, Rat.pow_zero]; grind
  | succ b ih => rw [← Nat.add_assoc, Rat.pow_succ, Rat.pow_succ, ih]; grind
/-- the value of n exponents -/
def evN (v : Nat → Rat) (u : Nat → Int) : Nat → Rat
  | 0 => 1
  | n + 1 => evN v u n * v n ^ (u n).toNat
theorem evN_more {v : Nat → Rat} {u : Nat → Int} {n m : Nat} (hm : n ≤ m) (h : ∀ i, n ≤ i → u i = 0) : evN v u m = evN v u n := by
  induction m with
  | zero => rw [Nat.le_zero.1 hm]
  | succ m ih =>
    rcases Nat.eq_or_lt_of_le hm with e | hlt
    · rw [← e]
    · simp only [evN]
      rw [h m (by omega), ih (by omega)]
      show _ * v m ^ 0 = _
      rw [Rat.pow_zero]; grind
theorem evN_add {v : Nat → Rat} {u z : Nat → Int} (hu : ∀ i, 0 ≤ u i) (hz : ∀ i, 0 ≤ z i) (n : Nat) : evN v (fun i => u i + z i) n = evN v u n * evN v z n := by
  induction n with
  | zero => simp only [evN]; grind
  | succ n ih =>
    simp only [evN]
    rw [ih, Int.toNat_add (hu n) (hz n), rpow_add]; grind
theorem evN_congr {v : Nat → Rat} {u z : Nat → Int} (h : ∀ i, u i = z i) (n : Nat) : evN v u n = evN v z n := by rw [show u = z from funext h]
/-- the value of a monomial -/
def evM (v : Nat → Rat) (a : List Int) : Rat := evN v (ex a) a.length
theorem evM_of (v : Nat → Rat) (a : List Int) {n : Nat} (h : a.length ≤ n) : evM v a = evN v (ex a) n := (evN_more h fun i hi => ex_ge hi).symm
/-- no exponent is negative -/
def Pos (a : List Int) : Prop := ∀ i, 0 ≤ ex a i
theorem evM_mul (v : Nat → Rat) {a b : List Int} (ha : Pos a) (hb : Pos b) : evM v (mulM a b) = evM v a * evM v b := by
  have e1 := evM_of v (mulM a b) (n := (mulM a b).length + a.length + b.length) (by omega)
  have e2 := evM_of v a (n := (mulM a b).length + a.length + b.length) (by omega)
  have e3 := evM_of v b (n := (mulM a b).length + a.length + b.length) (by omega)
  rw [e1, e2, e3, ← evN_add ha hb]
  exact evN_congr (fun i => ex_mulM a b i) _
theorem Pos.mul {a b : List Int} (ha : Pos a) (hb : Pos b) : Pos (mulM a b) := fun i => by rw [ex_mulM]; have := ha i; have := hb i; omega
theorem vl_congr {f g : List Int → Rat} {p : List Tm} (h : ∀ t ∈ p, f t.1 = g t.1) : vl f p = vl g p := by
  induction p with
  | nil => rfl
  | cons t p ih => simp only [vl]; rw [h t (by simp), ih fun s hs => h s (by simp [hs])]
/-- the value of a polynomial -/
def evP (v : Nat → Rat) (p : List Tm) : Rat := vl (evM v) p
theorem evP_add (v : Nat → Rat) {p q : List Tm} (hp : NF p) (hq : NF q) : evP v (addP p q) = evP v p + evP v q := vl_addP _ _ _ hp hq
theorem evP_neg (v : Nat → Rat) (p : List Tm) : evP v (negP p) = -evP v p := vl_negP _ _
theorem evP_mul (v : Nat → Rat) {p q : List Tm} (hp : NF p) (hq : NF q) (ep : ∀ t ∈ p, Pos t.1) (eq : ∀ t ∈ q, Pos t.1) : evP v (mulP p q) = evP v p * evP v q := by
  unfold evP
  rw [vl_mulP _ hp.nz hq]
  have h1 : ∀ t ∈ p, vl (fun b => evM v (mulM t.1 b)) q = vl (evM v) q * evM v t.1 := fun t ht => by
    rw [vl_congr (g := fun b => evM v t.1 * evM v b) (fun s hs => evM_mul v (ep t ht) (eq s hs)), vl_mul]
    grind
  rw [vl_congr (g := fun a => vl (evM v) q * evM v a) h1, vl_mul]
  grind
/-- the exponents of the results -/
theorem pos_addP {p q : List Tm} (hp : ∀ t ∈ p, Pos t.1) (hq : ∀ t ∈ q, Pos t.1) : ∀ t ∈ addP p q, Pos t.1 := fun t ht => by
  rcases mem_addP p q t ht with ⟨s, hs, e⟩ | ⟨s, hs, e⟩
  · rw [e]; exact hp s hs
  · rw [e]; exact hq s hs
theorem mem_mulP {p q : List Tm} : ∀ u ∈ mulP p q, ∃ s ∈ p, ∃ t ∈ q, u.1 = mulM s.1 t.1 := by
  induction p with
  | nil => intro u h; cases h
  | cons s p ih =>
    intro u h
    rcases mem_addP _ _ u h with ⟨x, hx, e⟩ | ⟨x, hx, e⟩
    · obtain ⟨t, ht, rfl⟩ := List.mem_map.1 hx
      exact ⟨s, by simp, t, ht, e⟩
    · obtain ⟨s', h1, t, h2, k⟩ := ih x hx
      exact ⟨s', by simp [h1], t, h2, e.trans k⟩
/-- the leading term (Lex) of a product -/
theorem mul_head {s t : Tm} {p q : List Tm} (hp : NF (s :: p)) (hq : NF (t :: q)) : ∃ r, mulP (s :: p) (t :: q) = (mulM s.1 t.1, s.2 * t.2) :: r := by
  show ∃ r, addP (mulT s (t :: q)) (mulP p (t :: q)) = _
  have e : mulT s (t :: q) = (mulM s.1 t.1, s.2 * t.2) :: mulT s q := rfl
  rw [e]
  have hm : ∀ u ∈ mulP p (t :: q), 0 < lexL (mulM s.1 t.1) u.1 := fun u hu => by
    obtain ⟨x, hx, y, hy, k⟩ := mem_mulP u hu
    rw [k]
    have h1 : 0 < lexL (mulM s.1 t.1) (mulM x.1 t.1) := by
      rw [mulM_comm s.1, mulM_comm x.1, lexL_mulM]; exact hp.head x hx
    rcases List.mem_cons.1 hy with rfl | hy
    · exact h1
    · exact lexL_tr h1 (by rw [lexL_mulM]; exact hq.head y hy)
  cases h : mulP p (t :: q) with
  | nil => exact ⟨_, addP_nil _⟩
  | cons x r =>
    rw [addP, if_pos (hm x (by rw [h]; simp))]
    exact ⟨_, rfl⟩
end Nm
