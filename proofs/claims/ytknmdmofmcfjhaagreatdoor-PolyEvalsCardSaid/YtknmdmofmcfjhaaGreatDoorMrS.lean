/-
  PlL PlQ PlR PlO PlP PlS PlM, in one text.
-/
import Derived.Test.YtknmdmofmcfjhaaGreatDoorMrQ
import Derived.Test.YtknmdmofmcfjhaaGreatDoorMrP
import Derived.Test.YtknmdmofmcfjhaaGreatDoorMrT
import Derived.Test.YtknmdmofmcfjhaaGreatDoorMrM
import Derived.Deep.RegionHeld3
import Derived.Test.YtknmdmofmcfjhaaGreatDoorMrR
import Derived.WalkKit
import Derived.ProofKit
import Derived.OpenShut
import Derived.SliceStrings

set_option linter.unusedVariables false
set_option linter.unusedSimpArgs false
namespace Go.Proofs.YtknmdmofmcfjhaaGreatDoor
open Go Go.RowKit _root_.Nm
/-- the term i is right behind the one before -/
def goodI (R : Nat → Bool) (P : List Tm) (i : Nat) : Prop := R i = true ∧ (tmI P i).2 ≠ 0 ∧ RightZ 1048576 (tmI P i).1 ∧ (i = 0 ∨ 0 < lexL (tmI P (i - 1)).1 (tmI P i).1)
instance (R : Nat → Bool) (P : List Tm) (i : Nat) : Decidable (goodI R P i) := by unfold goodI; infer_instance
/-- the cells of a term, valid or not -/
def TmR (w : World) (cs : List Value) (n1 n2 : Nat) (t : Tm) : Prop := ∃ (g : Bool) (p : Option Addr) (c : Nat) (q : Option Addr) (d : Nat) (a : Option Addr) (k e : Nat) (xs ys : List Nat),
  cs = [.bool g, .slice p n1 c, .slice q n2 d, .slice a k e] ∧ IRd w .u16 p n1 c xs ∧ IRd w .u16 q n2 d ys ∧ (Dg 65536 xs ∧ Dg 65536 ys) ∧ ZRd w .i64 a k e t.1 ∧ t.2 = mkRat (sg g (V 65536 xs)) (V 65536 ys)
/-- a slice of terms, valid or not -/
structure IsR (w : World) (p : Option Addr) (n c : Nat) (P : List Tm) (N1 N2 : Nat → Nat) : Prop where
  len : P.length = n
  cap : n ≤ c
  max : c ≤ 9223372036854775807
  tms : ∀ i (hi : i < P.length), ∃ (b o : Nat) (cs : List Value), p = some ⟨b, o, none⟩ ∧ (∀ j (hj : j < cs.length), w.cell? ⟨b, o + i * 4 + j, none⟩ = some cs[j]) ∧ TmR w cs (N1 i) (N2 i) P[i]
theorem TmR.keep {w w' : World} {cs : List Value} {n1 n2 : Nat} {t : Tm} (h : TmR w cs n1 n2 t) (hg : w.grownBy w' none) : TmR w' cs n1 n2 t := by
  obtain ⟨g, p, c, q, d, a, k, e, xs, ys, h1, h2, h3, h4, h5, h6⟩ := h
  exact ⟨g, p, c, q, d, a, k, e, xs, ys, h1, h2.keep hg, h3.keep hg, h4, h5.keep hg, h6⟩
theorem IsR.keep {w w' : World} {p : Option Addr} {n c : Nat} {P : List Tm} {N1 N2 : Nat → Nat} (h : IsR w p n c P N1 N2) (hg : w.grownBy w' none) : IsR w' p n c P N1 N2 :=
  ⟨h.len, h.cap, h.max, fun i hi => by
    obtain ⟨b, o, cs, h1, h2, h3⟩ := h.tms i hi
    exact ⟨b, o, cs, h1, fun j hj => hg.cell (h2 j hj) (by simp), h3.keep hg⟩⟩
/-- what Right finds of the term i -/
def TmQ (w : World) (p : Option Addr) (i : Nat) (r : Bool) (t : Tm) : Prop := ∃ (b o : Nat) (g : Bool) (p1 : Option Addr) (n1 c1 : Nat) (q1 : Option Addr) (m1 d1 : Nat) (a : Option Addr) (k e : Nat),
  p = some ⟨b, o, none⟩ ∧ (w.cell? ⟨b, o + i * 4, none⟩ = some (.bool g) ∧ w.cell? ⟨b, o + i * 4 + 1, none⟩ = some (.slice p1 n1 c1) ∧ w.cell? ⟨b, o + i * 4 + 2, none⟩ = some (.slice q1 m1 d1) ∧ w.cell? ⟨b, o + i * 4 + 3, none⟩ = some (.slice a k e)) ∧
  IsQ w g p1 n1 c1 q1 m1 d1 t.2 ∧ (n1 ≤ 9000 ∧ m1 ≤ 9000) ∧ ZRd w .i64 a k e t.1 ∧
  (∀ W, w.grownBy W none → Calls Tryz.prog 19 #[.agg #[.bool g, .slice p1 n1 c1, .slice q1 m1 d1]] W fun e w' => e = .returned (.bool r) ∧ W.grownBy w' none) ∧
  (∀ W, w.grownBy W none → Calls Tryz.prog 62 #[.agg #[.bool g, .slice p1 n1 c1, .slice q1 m1 d1]] W fun e w' => e = .returned (.bool r) ∧ W.grownBy w' none) ∧
  (r = true → TmAt w p i t)
theorem TmQ.keep {w w' : World} {p : Option Addr} {i : Nat} {r : Bool} {t : Tm} (h : TmQ w p i r t) (hg : w.grownBy w' none) : TmQ w' p i r t := by
  obtain ⟨b, o, g, p1, n1, c1, q1, m1, d1, a, k, e, h1, ⟨x0, x1, x2, x3⟩, h3, h4, h5, h6, h7, h8⟩ := h
  exact ⟨b, o, g, p1, n1, c1, q1, m1, d1, a, k, e, h1, ⟨hg.cell x0 (by simp), hg.cell x1 (by simp), hg.cell x2 (by simp), hg.cell x3 (by simp)⟩, h3.keep hg, h4, h5.keep hg, fun W h => h6 W (grown_trans hg h), fun W h => h7 W (grown_trans hg h), fun h => (h8 h).keep hg⟩
theorem TmR.q {w : World} (T : Tb w) {p : Option Addr} {i b o n1 n2 : Nat} {cs : List Value} {t : Tm} (hp : p = some ⟨b, o, none⟩) (hc : ∀ j (hj : j < cs.length), w.cell? ⟨b, o + i * 4 + j, none⟩ = some cs[j]) (h : TmR w cs n1 n2 t) (h1 : n1 ≤ 9000) (h2 : n2 ≤ 9000) : ∃ r, TmQ w p i r t := by
  obtain ⟨g, p1, c, q, d, a, k, e, xs, ys, rfl, hx, hy, ⟨dx, dy⟩, hz, hv⟩ := h
  obtain ⟨r, r1, r2, r3⟩ := right3_full T g hx dx hy dy h1 h2
  refine ⟨r, b, o, g, p1, n1, c, q, n2, d, a, k, e, hp, ⟨hc 0 (by simp), hc 1 (by simp), hc 2 (by simp), hc 3 (by simp)⟩, by rw [hv]; exact IsQ.of g hx dx hy dy, ⟨h1, h2⟩, hz, r2, r1, fun hr => ⟨b, o, _, hp, hc, g, p1, n1, c, q, n2, d, a, k, e, rfl, by rw [hv]; exact r3 hr, hz⟩⟩
theorem IsP.q {w : World} (T : Tb w) {H : Nat} {p : Option Addr} {n c : Nat} {P : List Tm} (h : IsP w p n c P) (bP : BdP H P) (hH : H ≤ 9000) (i : Nat) (hi : i < P.length) : TmQ w p i true P[i] := by
  obtain ⟨b, o, g, p1, n1, c1, q1, m1, d1, a, k, e, h1, h2, h3, h4⟩ := (h.tms i hi).out
  have hl := h3.lens (bP.at hi)
  exact ⟨b, o, g, p1, n1, c1, q1, m1, d1, a, k, e, h1, h2, h3.q, ⟨by omega, by omega⟩, h4, fun W hW => RY.right_refv (h3.keep hW) (by omega) (by omega), fun W hW => ratRight_v H (T.keep hW) (h3.keep hW) hl.1 hl.2 (by omega), fun _ => h.tms i hi⟩
/-- all terms together -/
theorem IsR.q {w : World} (T : Tb w) {p : Option Addr} {n c : Nat} {P : List Tm} {N1 N2 : Nat → Nat} (h : IsR w p n c P N1 N2) (h1 : ∀ i, i < n → N1 i ≤ 9000 ∧ N2 i ≤ 9000) : ∃ R : Nat → Bool, ∀ i (hi : i < P.length), TmQ w p i (R i) P[i] := by
  have hex : ∀ i, ∃ r, ∀ hi : i < P.length, TmQ w p i r P[i] := fun i => by
    by_cases hi : i < P.length
    · obtain ⟨b, o, cs, e1, e2, e3⟩ := h.tms i hi
      obtain ⟨r, hr⟩ := TmR.q T e1 e2 e3 (h1 i (by have := h.len; omega)).1 (h1 i (by have := h.len; omega)).2
      exact ⟨r, fun _ => hr⟩
    · exact ⟨true, fun k => absurd k hi⟩
  exact ⟨fun i => Classical.choose (hex i), fun i hi => Classical.choose_spec (hex i) hi⟩
theorem IsR.p {w : World} {p : Option Addr} {n c : Nat} {P : List Tm} {N1 N2 : Nat → Nat} (h : IsR w p n c P N1 N2) {R : Nat → Bool} (hQ : ∀ i (hi : i < P.length), TmQ w p i (R i) P[i]) (hR : ∀ i, i < P.length → R i = true) : IsP w p n c P :=
  ⟨h.len, h.cap, h.max, fun i hi => by
    obtain ⟨b, o, g, p1, n1, c1, q1, m1, d1, a, k, e, h1, h2, h3, h4, h5, h6, h7, h8⟩ := hQ i hi
    exact h8 (hR i hi)⟩
theorem IsR.bd {w : World} {p : Option Addr} {n c : Nat} {P : List Tm} {N1 N2 : Nat → Nat} (h : IsR w p n c P N1 N2) (hP : IsP w p n c P) {H : Nat} (h1 : ∀ i, i < n → N1 i ≤ H ∧ N2 i ≤ H) : BdP H P := fun t ht => by
  obtain ⟨i, hi, rfl⟩ := List.getElem_of_mem ht
  obtain ⟨b, o, cs, e1, e2, g, p1, c', q, d, a, k, e, xs, ys, rfl, _⟩ := h.tms i hi
  obtain ⟨b', o', g', p1', n1, c1, q1, m1, d1, a', k', e', h1', ⟨x0, x1, x2, x3⟩, h3, h4⟩ := (hP.tms i hi).out
  rw [e1] at h1'
  cases h1'
  have y1 := e2 1 (by simp)
  have y2 := e2 2 (by simp)
  simp only [List.getElem_cons_succ, List.getElem_cons_zero] at y1 y2
  rw [x1] at y1
  rw [x2] at y2
  cases y1
  cases y2
  have := h1 i (by have := h.len; omega)
  exact h3.bd this.1 this.2
end Go.Proofs.YtknmdmofmcfjhaaGreatDoor

set_option linter.unusedVariables false
set_option linter.unusedSimpArgs false
namespace Go.Proofs.YtknmdmofmcfjhaaGreatDoor
open Go Go.RowKit _root_.Nm
theorem TmR.bd {w : World} {cs : List Value} {n1 n2 H : Nat} {t : Tm} (h : TmR w cs n1 n2 t) (h0 : 0 < H) (h1 : n1 ≤ H) (h2 : n2 ≤ H) : Bd H t.2 := by
  obtain ⟨g, p, c, q, d, a, k, e, xs, ys, -, hx, hy, ⟨dx, dy⟩, -, hv⟩ := h
  rw [hv]
  rcases Nat.eq_zero_or_pos (V 65536 ys) with e | e
  · rw [e, Rat.mkRat_zero]
    exact ⟨Nat.pow_pos (by omega), Nat.one_lt_pow (by omega) (by omega)⟩
  · refine Bd.mk e ?_ ?_
    · rw [sg_abs]
      exact Nat.lt_of_lt_of_le (IsN.of hx dx).lt (Nat.pow_le_pow_right (by omega) h1)
    · exact Nat.lt_of_lt_of_le (IsN.of hy dy).lt (Nat.pow_le_pow_right (by omega) h2)
end Go.Proofs.YtknmdmofmcfjhaaGreatDoor

set_option linter.unusedVariables false
set_option linter.unusedSimpArgs false
namespace Go.Proofs.YtknmdmofmcfjhaaGreatDoor
open Go Go.RowKit _root_.Nm
end Go.Proofs.YtknmdmofmcfjhaaGreatDoor

set_option linter.unusedVariables false
set_option linter.unusedSimpArgs false
namespace Go.Proofs.YtknmdmofmcfjhaaGreatDoor
open Go Go.RowKit _root_.Nm
end Go.Proofs.YtknmdmofmcfjhaaGreatDoor

set_option linter.unusedVariables false
set_option linter.unusedSimpArgs false
namespace Go.Proofs.YtknmdmofmcfjhaaGreatDoor
open Go Go.RowKit _root_.Nm
end Go.Proofs.YtknmdmofmcfjhaaGreatDoor

set_option linter.unusedVariables false
set_option linter.unusedSimpArgs false
namespace Go.Proofs.YtknmdmofmcfjhaaGreatDoor
open Go Go.RowKit _root_.Nm
/-- a polynomial in normal form: digits of the coefficients, exponents, number of terms -/
structure Pk (H : Nat) (B : Int) (L : Nat) (P : List Tm) : Prop where
  nf : NF P
  bd : BdP H P
  ex : ExP B P
  len : P.length ≤ L
theorem ExP.mono {B C : Int} {P : List Tm} (h : ExP B P) (k : B ≤ C) : ExP C P := fun t ht => (h t ht).mono k
theorem Pk.mono {H K L M : Nat} {B C : Int} {P : List Tm} (h : Pk H B L P) (h1 : H ≤ K) (h2 : B ≤ C) (h3 : L ≤ M) : Pk K C M P := ⟨h.nf, h.bd.mono h1, h.ex.mono h2, Nat.le_trans h.len h3⟩
theorem Pk.add {H L M : Nat} {B : Int} {P Q : List Tm} (h : Pk H B L P) (k : Pk H B M Q) : Pk (H + H + 1) B (L + M) (addP P Q) :=
  ⟨h.nf.add k.nf, h.bd.add k.bd, h.ex.add k.ex, Nat.le_trans (addP_len P Q) (by have := h.len; have := k.len; omega)⟩
theorem Pk.neg {H L : Nat} {B : Int} {P : List Tm} (h : Pk H B L P) : Pk H B L (negP P) := ⟨h.nf.neg, h.bd.neg, h.ex.neg, by rw [negP_len]; exact h.len⟩
theorem Pk.mul {H L M : Nat} {B : Int} {P Q : List Tm} (hB : 0 ≤ B) (h : Pk H B L P) (k : Pk H B M Q) : Pk (L * (H + H + 1)) (B + B) (L * M) (mulP P Q) :=
  ⟨NF.mul h.nf.nz k.nf, (BdP.mul h.bd k.bd h.nf k.nf).1.mono (Nat.mul_le_mul_right _ h.len), (BdP.mul h.bd k.bd h.nf k.nf).2 hB h.ex k.ex, Nat.le_trans (mulP_len P Q) (Nat.mul_le_mul h.len k.len)⟩
/-- the numbers of a valid polynomial are as short as its bound -/
theorem IsR.short {w : World} {p : Option Addr} {n c : Nat} {P : List Tm} {N1 N2 : Nat → Nat} (h : IsR w p n c P N1 N2) (hP : IsP w p n c P) {H : Nat} (hb : BdP H P) : ∀ i, i < n → N1 i ≤ H ∧ N2 i ≤ H := fun i hi => by
  have hi' : i < P.length := by have := h.len; omega
  obtain ⟨b, o, cs, e1, e2, g, p1, c', q, d, a, k, e, xs, ys, rfl, _⟩ := h.tms i hi'
  obtain ⟨b', o', g', p1', n1, c1, q1, m1, d1, a', k', e', h1', ⟨x0, x1, x2, x3⟩, h3, h4⟩ := (hP.tms i hi').out
  rw [e1] at h1'
  cases h1'
  have y1 := e2 1 (by simp)
  have y2 := e2 2 (by simp)
  simp only [List.getElem_cons_succ, List.getElem_cons_zero] at y1 y2
  rw [x1] at y1
  rw [x2] at y2
  cases y1
  cases y2
  exact h3.lens (hb.at hi')
end Go.Proofs.YtknmdmofmcfjhaaGreatDoor

set_option linter.unusedVariables false
set_option linter.unusedSimpArgs false
namespace Go.Proofs.YtknmdmofmcfjhaaGreatDoor
open Go.ChangeShapes Go.WideShapes Go.ChangeAt Go.RowKit _root_.Nm
section
variable {H : Type} {enc : TypeId × Value → H} {W : World}
end
end Go.Proofs.YtknmdmofmcfjhaaGreatDoor
