/-
  Plain facts on polynomials as lists of terms (exponents, coefficient), the greatest first: the coefficient of a monomial, the normal form and that it is determined by its coefficients, the merged sum. No program is mentioned here.
-/
import Derived.Test.YtknmdmofmcfjhaaGreatDoorMonoA
namespace Nm
/-- a term -/
abbrev Tm := List Int × Rat

/-! ### the order on lists without zeros at the end -/
theorem lexL_neg (xs ys : List Int) : lexL ys xs = -(lexL xs ys) := by
  unfold lexL
  rw [Nat.max_comm, lexZ_neg]
theorem lexL_self (xs : List Int) : lexL xs xs = 0 := by
  unfold lexL
  exact (lexZ_zero _ _ _).2 (fun _ _ => rfl)
theorem lexL_zero {xs ys : List Int} (hx : xs.getLast? ≠ some 0) (hy : ys.getLast? ≠ some 0) (h : lexL xs ys = 0) : xs = ys := by
  refine ext_ex hx hy fun i => ?_
  rcases Nat.lt_or_ge i (max xs.length ys.length) with hi | hi
  · exact (lexZ_zero _ _ _).1 h i hi
  · rw [ex_ge (by omega), ex_ge (by omega)]
theorem lexL_trans {xs ys zs : List Int} (h1 : 0 ≤ lexL xs ys) (h2 : 0 ≤ lexL ys zs) : 0 ≤ lexL xs zs := by
  have e1 := lexL_of xs ys (n := xs.length + ys.length + zs.length) (by omega) (by omega)
  have e2 := lexL_of ys zs (n := xs.length + ys.length + zs.length) (by omega) (by omega)
  have e3 := lexL_of xs zs (n := xs.length + ys.length + zs.length) (by omega) (by omega)
  rw [e1] at h1; rw [e2] at h2; rw [e3]
  have k1 := lexZ_neg (ex xs) (ex ys) (xs.length + ys.length + zs.length)
  have k2 := lexZ_neg (ex ys) (ex zs) (xs.length + ys.length + zs.length)
  have k3 := lexZ_neg (ex xs) (ex zs) (xs.length + ys.length + zs.length)
  have := lexZ_trans (u := ex zs) (v := ex ys) (z := ex xs) (n := xs.length + ys.length + zs.length) (by omega) (by omega)
  omega
/-- greater -/
theorem lexL_tr {xs ys zs : List Int} (h1 : 0 < lexL xs ys) (h2 : 0 < lexL ys zs) : 0 < lexL xs zs := by
  have h := lexL_trans (xs := xs) (ys := ys) (zs := zs) (by omega) (by omega)
  rcases Int.lt_or_eq_of_le h with h | h
  · exact h
  · have n1 := lexL_neg xs zs
    have := lexL_trans (xs := ys) (ys := zs) (zs := xs) (by omega) (by omega)
    have n2 := lexL_neg xs ys
    omega

/-! ### coefficients -/
/-- the coefficient of m: the sum of those of its terms -/
def cof : List Tm → List Int → Rat
  | [], _ => 0
  | t :: p, m => (if t.1 = m then t.2 else 0) + cof p m
theorem cof_app (p q : List Tm) (m : List Int) : cof (p ++ q) m = cof p m + cof q m := by
  induction p with
  | nil => simp only [List.nil_append, cof]; grind
  | cons t p ih => simp only [List.cons_append, cof, ih]; grind
theorem cof_none {p : List Tm} {m : List Int} (h : ∀ t ∈ p, t.1 ≠ m) : cof p m = 0 := by
  induction p with
  | nil => rfl
  | cons t p ih =>
    simp only [cof]
    rw [if_neg (h t (by simp)), ih (fun s hs => h s (by simp [hs]))]
    grind

/-- the terms descend; no coefficient is 0; no exponent 0 at an end -/
structure NF (p : List Tm) : Prop where
  desc : p.Pairwise fun s t => 0 < lexL s.1 t.1
  nz : ∀ t ∈ p, t.2 ≠ 0
  last : ∀ t ∈ p, t.1.getLast? ≠ some 0
theorem NF.nil : NF [] := ⟨.nil, by simp, by simp⟩
theorem NF.tail {t : Tm} {p : List Tm} (h : NF (t :: p)) : NF p := ⟨(List.pairwise_cons.1 h.desc).2, fun s hs => h.nz s (by simp [hs]), fun s hs => h.last s (by simp [hs])⟩
theorem NF.head {t : Tm} {p : List Tm} (h : NF (t :: p)) : ∀ s ∈ p, 0 < lexL t.1 s.1 := (List.pairwise_cons.1 h.desc).1
theorem NF.cons {t : Tm} {p : List Tm} (h : NF p) (h1 : ∀ s ∈ p, 0 < lexL t.1 s.1) (h2 : t.2 ≠ 0) (h3 : t.1.getLast? ≠ some 0) : NF (t :: p) :=
  ⟨List.pairwise_cons.2 ⟨h1, h.desc⟩, fun s hs => by rcases List.mem_cons.1 hs with rfl | hs; exact h2; exact h.nz s hs, fun s hs => by rcases List.mem_cons.1 hs with rfl | hs; exact h3; exact h.last s hs⟩
theorem NF.cof_head {t : Tm} {p : List Tm} (h : NF (t :: p)) : cof (t :: p) t.1 = t.2 := by
  simp only [cof, if_true]
  rw [cof_none (fun s hs e => by have := h.head s hs; rw [e, lexL_self] at this; omega)]
  grind
/-- a monomial that is greater than all has the coefficient 0 -/
theorem NF.cof_up {m : List Int} {t : Tm} {p : List Tm} (h : NF (t :: p)) (hg : 0 < lexL m t.1) : cof (t :: p) m = 0 := by
  refine cof_none fun s hs e => ?_
  rcases List.mem_cons.1 hs with rfl | hs
  · rw [e, lexL_self] at hg; omega
  · have h1 := lexL_tr hg (h.head s hs)
    rw [e, lexL_self] at h1; omega
/-- the normal form is determined by the coefficients -/
theorem NF.ext : ∀ {p q : List Tm}, NF p → NF q → (∀ m, m.getLast? ≠ some 0 → cof p m = cof q m) → p = q := by
  intro p
  induction p with
  | nil =>
    intro q _ hq h
    cases q with
    | nil => rfl
    | cons t q =>
      have := h t.1 (hq.last t (by simp))
      rw [hq.cof_head] at this
      exact absurd this.symm (hq.nz t (by simp))
  | cons s p ih =>
    intro q hp hq h
    cases q with
    | nil =>
      have := h s.1 (hp.last s (by simp))
      rw [hp.cof_head] at this
      exact absurd this (hp.nz s (by simp))
    | cons t q =>
      have hs := hp.last s (by simp)
      have ht := hq.last t (by simp)
      have e1 : s.1 = t.1 := by
        rcases Int.lt_trichotomy (lexL s.1 t.1) 0 with k | k | k
        · have := h t.1 ht
          rw [hq.cof_head, hp.cof_up (by rw [lexL_neg]; omega)] at this
          exact absurd this.symm (hq.nz t (by simp))
        · exact lexL_zero hs ht k
        · have := h s.1 hs
          rw [hp.cof_head, hq.cof_up k] at this
          exact absurd this (hp.nz s (by simp))
      have e2 : s.2 = t.2 := by
        have := h s.1 hs
        rw [hp.cof_head, e1, hq.cof_head] at this
        exact this
      have e : s = t := Prod.ext e1 e2
      subst e
      congr 1
      refine ih hp.tail hq.tail fun m hm => ?_
      have := h m hm
      simp only [cof] at this
      grind

/-! ### the merged sum -/
def addP : List Tm → List Tm → List Tm
  | [], q => q
  | p, [] => p
  | s :: p, t :: q =>
    if 0 < lexL s.1 t.1 then s :: addP p (t :: q)
    else if lexL s.1 t.1 < 0 then t :: addP (s :: p) q
    else if s.2 + t.2 = 0 then addP p q else (s.1, s.2 + t.2) :: addP p q
termination_by p q => p.length + q.length
theorem addP_nil (p : List Tm) : addP p [] = p := by cases p <;> simp [addP]
theorem mem_addP : ∀ (p q : List Tm) (u : Tm), u ∈ addP p q → (∃ s ∈ p, u.1 = s.1) ∨ ∃ t ∈ q, u.1 = t.1 := by
  intro p q
  fun_induction addP p q with
  | case1 q => intro u h; exact .inr ⟨u, h, rfl⟩
  | case2 p _ => intro u h; exact .inl ⟨u, h, rfl⟩
  | case3 s p t q h ih =>
    intro u hu
    rcases List.mem_cons.1 hu with rfl | hu
    · exact .inl ⟨u, by simp, rfl⟩
    · rcases ih u hu with ⟨x, hx, e⟩ | ⟨x, hx, e⟩
      · exact .inl ⟨x, by simp [hx], e⟩
      · exact .inr ⟨x, hx, e⟩
  | case4 s p t q h h2 ih =>
    intro u hu
    rcases List.mem_cons.1 hu with rfl | hu
    · exact .inr ⟨u, by simp, rfl⟩
    · rcases ih u hu with ⟨x, hx, e⟩ | ⟨x, hx, e⟩
      · exact .inl ⟨x, hx, e⟩
      · exact .inr ⟨x, by simp [hx], e⟩
  | case5 s p t q h h2 h3 ih =>
    intro u hu
    rcases ih u hu with ⟨x, hx, e⟩ | ⟨x, hx, e⟩
    · exact .inl ⟨x, by simp [hx], e⟩
    · exact .inr ⟨x, by simp [hx], e⟩
  | case6 s p t q h h2 h3 ih =>
    intro u hu
    rcases List.mem_cons.1 hu with rfl | hu
    · exact .inl ⟨s, by simp, rfl⟩
    · rcases ih u hu with ⟨x, hx, e⟩ | ⟨x, hx, e⟩
      · exact .inl ⟨x, by simp [hx], e⟩
      · exact .inr ⟨x, by simp [hx], e⟩
theorem cof_addP : ∀ (p q : List Tm), NF p → NF q → ∀ m, cof (addP p q) m = cof p m + cof q m := by
  intro p q
  fun_induction addP p q with
  | case1 q => intro _ _ m; simp only [cof]; grind
  | case2 p _ => intro _ _ m; simp only [cof]; grind
  | case3 s p t q h ih => intro hp hq m; simp only [cof]; rw [ih hp.tail hq m]; simp only [cof]; grind
  | case4 s p t q h h2 ih => intro hp hq m; simp only [cof]; rw [ih hp hq.tail m]; simp only [cof]; grind
  | case5 s p t q h h2 h3 ih =>
    intro hp hq m
    have e := lexL_zero (hp.last s (by simp)) (hq.last t (by simp)) (by omega)
    simp only [cof]; rw [ih hp.tail hq.tail m, e]
    split <;> grind
  | case6 s p t q h h2 h3 ih =>
    intro hp hq m
    have e := lexL_zero (hp.last s (by simp)) (hq.last t (by simp)) (by omega)
    simp only [cof]; rw [ih hp.tail hq.tail m, e]
    split <;> grind
theorem NF.add : ∀ {p q : List Tm}, NF p → NF q → NF (addP p q) := by
  intro p q
  fun_induction addP p q with
  | case1 q => intro _ h; exact h
  | case2 p _ => intro h _; exact h
  | case3 s p t q h ih =>
    intro hp hq
    refine (ih hp.tail hq).cons (fun u hu => ?_) (hp.nz s (by simp)) (hp.last s (by simp))
    rcases mem_addP _ _ u hu with ⟨x, hx, e⟩ | ⟨x, hx, e⟩
    · rw [e]; exact hp.head x hx
    · rw [e]
      rcases List.mem_cons.1 hx with rfl | hx
      · exact h
      · exact lexL_tr h (hq.head x hx)
  | case4 s p t q h h2 ih =>
    intro hp hq
    have h2' : 0 < lexL t.1 s.1 := by rw [lexL_neg]; omega
    refine (ih hp hq.tail).cons (fun u hu => ?_) (hq.nz t (by simp)) (hq.last t (by simp))
    rcases mem_addP _ _ u hu with ⟨x, hx, e⟩ | ⟨x, hx, e⟩
    · rw [e]
      rcases List.mem_cons.1 hx with rfl | hx
      · exact h2'
      · exact lexL_tr h2' (hp.head x hx)
    · rw [e]; exact hq.head x hx
  | case5 s p t q h h2 h3 ih => intro hp hq; exact ih hp.tail hq.tail
  | case6 s p t q h h2 h3 ih =>
    intro hp hq
    have e := lexL_zero (hp.last s (by simp)) (hq.last t (by simp)) (by omega)
    refine (ih hp.tail hq.tail).cons (fun u hu => ?_) h3 (hp.last s (by simp))
    rcases mem_addP _ _ u hu with ⟨x, hx, k⟩ | ⟨x, hx, k⟩
    · rw [k]; exact hp.head x hx
    · rw [k]; show 0 < lexL s.1 x.1; rw [e]; exact hq.head x hx

/-! ### the value under any function of the monomials -/
def vl (f : List Int → Rat) : List Tm → Rat
  | [] => 0
  | t :: p => t.2 * f t.1 + vl f p
theorem cof_vl (p : List Tm) (m : List Int) : cof p m = vl (fun a => if a = m then 1 else 0) p := by
  induction p with
  | nil => rfl
  | cons t p ih => simp only [cof, vl, ih]; split <;> grind
theorem NF.extV {p q : List Tm} (hp : NF p) (hq : NF q) (h : ∀ f, vl f p = vl f q) : p = q :=
  hp.ext hq fun m _ => by rw [cof_vl, cof_vl, h]
theorem vl_zero (p : List Tm) : vl (fun _ => 0) p = 0 := by
  induction p with
  | nil => rfl
  | cons t p ih => simp only [vl, ih]; grind
theorem vl_add (f g : List Int → Rat) (p : List Tm) : vl (fun a => f a + g a) p = vl f p + vl g p := by
  induction p with
  | nil => simp only [vl]; grind
  | cons t p ih => simp only [vl, ih]; grind
theorem vl_mul (c : Rat) (f : List Int → Rat) (p : List Tm) : vl (fun a => c * f a) p = c * vl f p := by
  induction p with
  | nil => simp only [vl]; grind
  | cons t p ih => simp only [vl, ih]; grind
theorem vl_app (f : List Int → Rat) (p q : List Tm) : vl f (p ++ q) = vl f p + vl f q := by
  induction p with
  | nil => simp only [List.nil_append, vl]; grind
  | cons t p ih => simp only [List.cons_append, vl, ih]; grind
theorem vl_swap (f : List Int → List Int → Rat) (p q : List Tm) : vl (fun a => vl (f a) q) p = vl (fun b => vl (fun a => f a b) p) q := by
  induction p with
  | nil => simp only [vl]; rw [vl_zero]
  | cons t p ih => simp only [vl, ih]; rw [vl_add, vl_mul]
theorem vl_addP (f : List Int → Rat) : ∀ (p q : List Tm), NF p → NF q → vl f (addP p q) = vl f p + vl f q := by
  intro p q
  fun_induction addP p q with
  | case1 q => intro _ _; simp only [vl]; grind
  | case2 p _ => intro _ _; simp only [vl]; grind
  | case3 s p t q h ih => intro hp hq; simp only [vl]; rw [ih hp.tail hq]; simp only [vl]; grind
  | case4 s p t q h h2 ih => intro hp hq; simp only [vl]; rw [ih hp hq.tail]; simp only [vl]; grind
  | case5 s p t q h h2 h3 ih =>
    intro hp hq
    have e := lexL_zero (hp.last s (by simp)) (hq.last t (by simp)) (by omega)
    simp only [vl]; rw [ih hp.tail hq.tail, e]; grind
  | case6 s p t q h h2 h3 ih =>
    intro hp hq
    have e := lexL_zero (hp.last s (by simp)) (hq.last t (by simp)) (by omega)
    simp only [vl]; rw [ih hp.tail hq.tail, e]; grind
theorem addP_comm {p q : List Tm} (hp : NF p) (hq : NF q) : addP p q = addP q p :=
  (hp.add hq).extV (hq.add hp) fun f => by rw [vl_addP f _ _ hp hq, vl_addP f _ _ hq hp]; grind
theorem addP_assoc {p q r : List Tm} (hp : NF p) (hq : NF q) (hr : NF r) : addP (addP p q) r = addP p (addP q r) :=
  ((hp.add hq).add hr).extV (hp.add (hq.add hr)) fun f => by
    rw [vl_addP f _ _ (hp.add hq) hr, vl_addP f _ _ hp hq, vl_addP f _ _ hp (hq.add hr), vl_addP f _ _ hq hr]; grind

/-! ### opposite -/
def negP (p : List Tm) : List Tm := p.map fun t => (t.1, -t.2)
theorem vl_negP (f : List Int → Rat) (p : List Tm) : vl f (negP p) = -vl f p := by
  induction p with
  | nil => simp only [negP, List.map_nil, vl]; grind
  | cons t p ih =>
    have e : negP (t :: p) = (t.1, -t.2) :: negP p := rfl
    rw [e]; simp only [vl]; rw [ih]; grind
theorem NF.neg {p : List Tm} (h : NF p) : NF (negP p) := by
  refine ⟨?_, ?_, ?_⟩
  · unfold negP; rw [List.pairwise_map]; exact h.desc
  · intro t ht
    obtain ⟨s, hs, rfl⟩ := List.mem_map.1 ht
    have := h.nz s hs
    simp only
    grind
  · intro t ht
    obtain ⟨s, hs, rfl⟩ := List.mem_map.1 ht
    exact h.last s hs

/-! ### products -/
/-- the product of two monomials -/
def mulM (a b : List Int) : List Int := trimZ (combZ (· + ·) a b)
theorem ex_mulM (a b : List Int) (i : Nat) : ex (mulM a b) i = ex a i + ex b i := by
  unfold mulM
  rw [ex_trimZ, ex_combZ (by rfl)]
theorem mulM_last (a b : List Int) : (mulM a b).getLast? ≠ some 0 := trimZ_last _
theorem mulM_comm (a b : List Int) : mulM a b = mulM b a :=
  ext_ex (mulM_last _ _) (mulM_last _ _) fun i => by rw [ex_mulM, ex_mulM]; omega
theorem mulM_assoc (a b c : List Int) : mulM (mulM a b) c = mulM a (mulM b c) :=
  ext_ex (mulM_last _ _) (mulM_last _ _) fun i => by rw [ex_mulM, ex_mulM, ex_mulM, ex_mulM]; omega
theorem lexL_mulM (a b c : List Int) : lexL (mulM a b) (mulM a c) = lexL b c := by
  have e1 := lexL_of (mulM a b) (mulM a c) (n := (mulM a b).length + (mulM a c).length + b.length + c.length) (by omega) (by omega)
  have e2 := lexL_of b c (n := (mulM a b).length + (mulM a c).length + b.length + c.length) (by omega) (by omega)
  rw [e1, e2, ← lexZ_add (ex b) (ex c) (ex a)]
  exact lexZ_congr (fun i => by rw [ex_mulM]; omega) (fun i => by rw [ex_mulM]; omega) _
/-- the product of a polynomial and a term -/
def mulT (t : Tm) (p : List Tm) : List Tm := p.map fun u => (mulM t.1 u.1, t.2 * u.2)
theorem vl_mulT (f : List Int → Rat) (t : Tm) (p : List Tm) : vl f (mulT t p) = t.2 * vl (fun b => f (mulM t.1 b)) p := by
  induction p with
  | nil => simp only [mulT, List.map_nil, vl]; grind
  | cons u p ih =>
    have e : mulT t (u :: p) = (mulM t.1 u.1, t.2 * u.2) :: mulT t p := rfl
    rw [e]; simp only [vl]; rw [ih]; grind
theorem NF.mulT {t : Tm} {p : List Tm} (ht : t.2 ≠ 0) (h : NF p) : NF (mulT t p) := by
  refine ⟨?_, ?_, ?_⟩
  · unfold Nm.mulT; rw [List.pairwise_map]
    exact h.desc.imp fun k => by rw [lexL_mulM]; exact k
  · intro u hu
    obtain ⟨s, hs, rfl⟩ := List.mem_map.1 hu
    exact fun e => by
      rcases Rat.mul_eq_zero.1 e with e | e
      · exact ht e
      · exact h.nz s hs e
  · intro u hu
    obtain ⟨s, hs, rfl⟩ := List.mem_map.1 hu
    exact mulM_last _ _
/-- the product, row by row -/
def mulP : List Tm → List Tm → List Tm
  | [], _ => []
  | t :: p, q => addP (mulT t q) (mulP p q)
theorem NF.mul {p q : List Tm} (hp : ∀ t ∈ p, t.2 ≠ 0) (hq : NF q) : NF (mulP p q) := by
  induction p with
  | nil => exact .nil
  | cons t p ih => exact (NF.mulT (hp t (by simp)) hq).add (ih fun s hs => hp s (by simp [hs]))
theorem vl_mulP (f : List Int → Rat) {p q : List Tm} (hp : ∀ t ∈ p, t.2 ≠ 0) (hq : NF q) : vl f (mulP p q) = vl (fun a => vl (fun b => f (mulM a b)) q) p := by
  induction p with
  | nil => rfl
  | cons t p ih =>
    have hp' : ∀ s ∈ p, s.2 ≠ 0 := fun s hs => hp s (by simp [hs])
    show vl f (addP (mulT t q) (mulP p q)) = _
    rw [vl_addP f _ _ (NF.mulT (hp t (by simp)) hq) (NF.mul hp' hq), vl_mulT, ih hp']
    rfl
theorem mulP_comm {p q : List Tm} (hp : NF p) (hq : NF q) : mulP p q = mulP q p :=
  (NF.mul hp.nz hq).extV (NF.mul hq.nz hp) fun f => by
    rw [vl_mulP f hp.nz hq, vl_mulP f hq.nz hp, vl_swap]
    congr 1; funext b; congr 1; funext a; rw [mulM_comm]
theorem mulP_assoc {p q r : List Tm} (hp : NF p) (hq : NF q) (hr : NF r) : mulP (mulP p q) r = mulP p (mulP q r) :=
  (NF.mul (NF.mul hp.nz hq).nz hr).extV (NF.mul hp.nz (NF.mul hq.nz hr)) fun f => by
    rw [vl_mulP f (NF.mul hp.nz hq).nz hr, vl_mulP _ hp.nz hq, vl_mulP f hp.nz (NF.mul hq.nz hr)]
    congr 1; funext a
    rw [vl_mulP _ hq.nz hr]
    congr 1; funext b; congr 1; funext c; rw [mulM_assoc]
theorem mulP_add {p q r : List Tm} (hp : NF p) (hq : NF q) (hr : NF r) : mulP (addP p q) r = addP (mulP p r) (mulP q r) :=
  (NF.mul (hp.add hq).nz hr).extV ((NF.mul hp.nz hr).add (NF.mul hq.nz hr)) fun f => by
    rw [vl_mulP f (hp.add hq).nz hr, vl_addP _ _ _ hp hq, vl_addP f _ _ (NF.mul hp.nz hr) (NF.mul hq.nz hr), vl_mulP f hp.nz hr, vl_mulP f hq.nz hr]
theorem add_sub {p q : List Tm} (hp : NF p) (hq : NF q) : addP (addP p q) (negP q) = p :=
  ((hp.add hq).add hq.neg).extV hp fun f => by
    rw [vl_addP f _ _ (hp.add hq) hq.neg, vl_addP f _ _ hp hq, vl_negP]; grind
end Nm
