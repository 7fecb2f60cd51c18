/-
  PlF PlG PlH PlI PlN PlJ PlK, in one text.
-/
import Derived.Test.YtknmdmofmcfjhaaGreatDoorMrP
import Derived.Test.YtknmdmofmcfjhaaGreatDoorMrM
import Derived.Test.YtknmdmofmcfjhaaGreatDoorPolC
import Derived.Laws.EntriesVeiled
import Derived.Test.YtknmdmofmcfjhaaGreatDoorMrR

set_option linter.unusedVariables false
set_option linter.unusedSimpArgs false
namespace Go.Proofs.YtknmdmofmcfjhaaGreatDoor
open Go Go.RowKit _root_.Nm
theorem IsV.sgn {w : World} {g : Bool} {p q : Option Addr} {n c m d : Nat} {u v : Rat} (h : IsV w g p n c q m d u) (hu : u ≠ 0) (hv : v = 1 ∨ v = -1) {g1 : Bool} (h1 : g1 = decide (v.num < 0)) : IsV w (!(g == g1)) p n c q m d (v * u) := by
  rcases hv with rfl | rfl
  · have : g1 = false := by rw [h1]; rfl
    rw [this, Rat.one_mul]
    cases g <;> exact h
  · have : g1 = true := by rw [h1]; rfl
    rw [this, show (-1 : Rat) * u = -u by grind]
    cases g <;> exact h.opp hu
end Go.Proofs.YtknmdmofmcfjhaaGreatDoor

set_option linter.unusedVariables false
set_option linter.unusedSimpArgs false
namespace Go.Proofs.YtknmdmofmcfjhaaGreatDoor
open Go Go.RowKit _root_.Nm
end Go.Proofs.YtknmdmofmcfjhaaGreatDoor

set_option linter.unusedVariables false
set_option linter.unusedSimpArgs false
namespace Go.Proofs.YtknmdmofmcfjhaaGreatDoor
open Go Go.RowKit _root_.Nm
theorem addP_len : ∀ (p q : List Tm), (addP p q).length ≤ p.length + q.length
  | [], q => by rw [show addP [] q = q by cases q <;> simp [addP]]; simp
  | s :: p, [] => by rw [addP_nil]; simp
  | s :: p, t :: q => by
    have h1 := addP_len p (t :: q)
    have h2 := addP_len (s :: p) q
    have h3 := addP_len p q
    simp only [List.length_cons] at h1 h2 ⊢
    rw [addP]
    split
    · simp only [List.length_cons]; omega
    · split
      · simp only [List.length_cons]; omega
      · split
        · omega
        · simp only [List.length_cons]; omega
termination_by p q => p.length + q.length
theorem tot_facts {g : Nat → List Tm} {L M : Nat} {B : Int} : ∀ (k a b : Nat), b - a ≤ k → (∀ i, a ≤ i → i < b → (g i).length ≤ L ∧ BdP M (g i) ∧ ExP B (g i)) →
    (totB g a b).length ≤ (b - a) * L ∧ BdP ((b - a) * (M + 1) - 1) (totB g a b) ∧ ExP B (totB g a b)
  | k, a, b, hk, h => by
    by_cases h0 : b ≤ a
    · rw [totB_none g h0]
      exact ⟨by simp, fun t ht => (by cases ht), fun t ht => (by cases ht)⟩
    · by_cases h1 : b = a + 1
      · subst h1
        obtain ⟨x1, x2, x3⟩ := h a (Nat.le_refl _) (by omega)
        rw [totB_one, show a + 1 - a = 1 by omega]
        exact ⟨by omega, x2.mono (by omega), x3⟩
      · cases k with
        | zero => omega
        | succ k =>
        rw [totB_two g (by omega)]
        obtain ⟨m, hm⟩ : ∃ m, m = (a + b) / 2 := ⟨_, rfl⟩
        rw [← hm]
        obtain ⟨x1, x2, x3⟩ := tot_facts (g := g) (L := L) (M := M) (B := B) k a m (by omega) (fun i h1 h2 => h i h1 (by omega))
        obtain ⟨y1, y2, y3⟩ := tot_facts (g := g) (L := L) (M := M) (B := B) k m b (by omega) (fun i h1 h2 => h i (by omega) h2)
        have e1 : (b - a) * L = (m - a) * L + (b - m) * L := by rw [← Nat.add_mul]; congr 1; omega
        have e2 : (b - a) * (M + 1) = (m - a) * (M + 1) + (b - m) * (M + 1) := by rw [← Nat.add_mul]; congr 1; omega
        have e3 : 1 ≤ (m - a) * (M + 1) := Nat.mul_pos (by omega) (by omega)
        have e4 : 1 ≤ (b - m) * (M + 1) := Nat.mul_pos (by omega) (by omega)
        refine ⟨by have := addP_len (totB g a m) (totB g m b); omega, (x2.add y2).mono (by omega), x3.add y3⟩
theorem ExP.mulT {B C : Int} {t : Tm} {Q : List Tm} (h : RightZ B t.1) (k : ExP B Q) (hB : 0 ≤ B) (hC : B + B ≤ C) : ExP C (mulT t Q) := fun u hu => by
  unfold Nm.mulT at hu
  obtain ⟨s, hs, rfl⟩ := List.mem_map.1 hu
  exact RightZ.comb h (k s hs) rfl (fun i => by have := h.ex hB i; have := (k s hs).ex hB i; omega)
theorem BdP.mulT {a b : Nat} {t : Tm} {Q : List Tm} (h : Bd a t.2) (k : BdP b Q) : BdP (a + b) (mulT t Q) := fun u hu => by
  unfold Nm.mulT at hu
  obtain ⟨s, hs, rfl⟩ := List.mem_map.1 hu
  exact h.mul (k s hs)
theorem rowP_at {P Q : List Tm} {i : Nat} (hi : i < P.length) : rowP P Q i = mulT P[i] Q := by
  unfold rowP; rw [List.getElem?_eq_getElem hi]; rfl
end Go.Proofs.YtknmdmofmcfjhaaGreatDoor

set_option linter.unusedVariables false
set_option linter.unusedSimpArgs false
namespace Go.Proofs.YtknmdmofmcfjhaaGreatDoor
open Go Go.RowKit _root_.Nm
theorem mulP_len : ∀ (P Q : List Tm), (mulP P Q).length ≤ P.length * Q.length
  | [], Q => by simp [mulP]
  | s :: P, Q => by
    have h1 := mulP_len P Q
    have h2 := addP_len (mulT s Q) (mulP P Q)
    have h3 : (mulT s Q).length = Q.length := by unfold mulT; rw [List.length_map]
    simp only [mulP, List.length_cons, Nat.add_mul]
    omega
theorem BdP.mul {H : Nat} {P Q : List Tm} (hP : BdP H P) (hQ : BdP H Q) (nP : NF P) (nQ : NF Q) : BdP (P.length * (H + H + 1)) (mulP P Q) ∧ ∀ {B : Int}, 0 ≤ B → ExP B P → ExP B Q → ExP (B + B) (mulP P Q) := by
  rw [← mulP_tot nP nQ]
  have A : ∀ {B : Int}, 0 ≤ B → ExP B P → ExP B Q → _ := fun {B} hB eP eQ => tot_facts (g := rowP P Q) (L := Q.length) (M := H + H) (B := B + B) P.length 0 P.length (by omega) (fun i h1 h2 => by
    rw [rowP_at h2]
    exact ⟨by unfold Nm.mulT; rw [List.length_map]; omega, BdP.mulT (hP.at h2) hQ, ExP.mulT (eP.at h2) eQ hB (by omega)⟩)
  refine ⟨?_, fun {B} hB eP eQ => (A hB eP eQ).2.2⟩
  have hB : ∀ (k a b : Nat), b - a ≤ k → b ≤ P.length → BdP ((b - a) * (H + H + 1) - 1) (totB (rowP P Q) a b) := by
    intro k
    induction k with
    | zero => intro a b hk hb; rw [totB_none _ (by omega)]; exact fun t ht => (by cases ht)
    | succ k ih =>
      intro a b hk hb
      by_cases h0 : b ≤ a
      · rw [totB_none _ h0]; exact fun t ht => (by cases ht)
      · by_cases h1 : b = a + 1
        · subst h1
          rw [totB_one, rowP_at (by omega)]
          exact (BdP.mulT (hP.at (by omega)) hQ).mono (by rw [show a + 1 - a = 1 by omega]; omega)
        · rw [totB_two _ (by omega)]
          obtain ⟨m, hm⟩ : ∃ m, m = (a + b) / 2 := ⟨_, rfl⟩
          rw [← hm]
          have e2 : (b - a) * (H + H + 1) = (m - a) * (H + H + 1) + (b - m) * (H + H + 1) := by rw [← Nat.add_mul]; congr 1; omega
          have e3 : 1 ≤ (m - a) * (H + H + 1) := Nat.mul_pos (by omega) (by omega)
          have e4 : 1 ≤ (b - m) * (H + H + 1) := Nat.mul_pos (by omega) (by omega)
          exact ((ih a m (by omega) (by omega)).add (ih m b (by omega) hb)).mono (by omega)
  exact (hB P.length 0 P.length (by omega) (Nat.le_refl _)).mono (by rw [Nat.sub_zero]; omega)
theorem BdP.neg {H : Nat} {P : List Tm} (h : BdP H P) : BdP H (negP P) := fun u hu => by
  unfold negP at hu
  obtain ⟨s, hs, rfl⟩ := List.mem_map.1 hu
  exact (h s hs).neg
theorem ExP.neg {B : Int} {P : List Tm} (h : ExP B P) : ExP B (negP P) := fun u hu => by
  unfold negP at hu
  obtain ⟨s, hs, rfl⟩ := List.mem_map.1 hu
  exact h s hs
theorem negP_len (P : List Tm) : (negP P).length = P.length := by unfold negP; rw [List.length_map]
end Go.Proofs.YtknmdmofmcfjhaaGreatDoor

set_option linter.unusedVariables false
set_option linter.unusedSimpArgs false
namespace Go.Proofs.YtknmdmofmcfjhaaGreatDoor
open Go Go.RowKit _root_.Nm
end Go.Proofs.YtknmdmofmcfjhaaGreatDoor

set_option linter.unusedVariables false
set_option linter.unusedSimpArgs false
namespace Go.Proofs.YtknmdmofmcfjhaaGreatDoor
open Go Go.RowKit _root_.Nm
theorem ZRd.nil (w : World) : ZRd w .i64 none 0 0 [] := ⟨rfl, Nat.le_refl _, by omega, fun j h => absurd h (Nat.not_lt_zero j)⟩
end Go.Proofs.YtknmdmofmcfjhaaGreatDoor

set_option linter.unusedVariables false
set_option linter.unusedSimpArgs false
namespace Go.Proofs.YtknmdmofmcfjhaaGreatDoor
open Go Go.RowKit _root_.Nm
end Go.Proofs.YtknmdmofmcfjhaaGreatDoor
