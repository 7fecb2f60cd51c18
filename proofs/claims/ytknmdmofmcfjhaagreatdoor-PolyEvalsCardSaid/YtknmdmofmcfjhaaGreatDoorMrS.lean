/-
  PlL PlQ PlR PlO PlP PlS PlM, in one text.
-/
import Derived.Test.YtknmdmofmcfjhaaGreatDoorMrQ
import Derived.Test.YtknmdmofmcfjhaaGreatDoorMrP
import Derived.Test.YtknmdmofmcfjhaaGreatDoorMrT
import Derived.Test.YtknmdmofmcfjhaaGreatDoorMrM
import Derived.Deep.RegionHeld3
import Derived.Test.YtknmdmofmcfjhaaGreatDoorMrR
import Derived.WalkKit
import Derived.ProofKit
import Derived.OpenShut
import Derived.SliceStrings

set_option linter.unusedVariables false
set_option linter.unusedSimpArgs false
namespace Go.Proofs.YtknmdmofmcfjhaaGreatDoor
open Go Go.RowKit _root_.Nm
/-- the term i is right behind the one before -/
def goodI (R : Nat → Bool) (P : List Tm) (i : Nat) : Prop := R i = true ∧ (tmI P i).2 ≠ 0 ∧ RightZ 1048576 (tmI P i).1 ∧ (i = 0 ∨ 0 < lexL (tmI P (i - 1)).1 (tmI P i).1)
instance (R : Nat → Bool) (P : List Tm) (i : Nat) : Decidable (goodI R P i) := by unfold goodI; infer_instance
def goodP (R : Nat → Bool) (P : List Tm) : Bool := decide (∀ i, i < P.length → goodI R P i)
theorem good_take {R : Nat → Bool} {P : List Tm} : ∀ i, i ≤ P.length → (∀ j, j < i → goodI R P j) → NF (P.take i) ∧ ExP 1048576 (P.take i)
  | 0, _, _ => by rw [List.take_zero]; exact ⟨NF.nil, fun t ht => by cases ht⟩
  | i + 1, hi, h => by
    obtain ⟨h1, h2⟩ := good_take i (by omega) (fun j hj => h j (by omega))
    obtain ⟨-, g2, g3, g4⟩ := h i (by omega)
    have hlt : i < P.length := by omega
    rw [tmI_at hlt] at g2 g3 g4
    rw [← take_snoc P i hlt]
    refine ⟨NF.snoc h1 (fun s hs => ?_) g2 g3.last, fun t ht => ?_⟩
    · rcases g4 with rfl | g4
      · rw [List.take_zero] at hs; cases hs
      · cases i with
        | zero => rw [List.take_zero] at hs; cases hs
        | succ k =>
          rw [← take_snoc P k (by omega)] at hs
          simp only [List.getLast?_append, List.getLast?_singleton, Option.some_or, Option.some.injEq] at hs
          subst hs
          rw [show k + 1 - 1 = k by omega, tmI_at (by omega)] at g4
          exact g4
    · rcases List.mem_append.1 ht with ht | ht
      · exact h2 t ht
      · rw [List.mem_singleton.1 ht]; exact g3
theorem goodP_out {R : Nat → Bool} {P : List Tm} (h : goodP R P = true) : (∀ i, i < P.length → R i = true) ∧ NF P ∧ ExP 1048576 P := by
  have h := of_decide_eq_true h
  have := good_take (R := R) P.length (Nat.le_refl _) h
  rw [List.take_length] at this
  exact ⟨fun i hi => (h i hi).1, this⟩
/-- the cells of a term, valid or not -/
def TmR (w : World) (cs : List Value) (n1 n2 : Nat) (t : Tm) : Prop := ∃ (g : Bool) (p : Option Addr) (c : Nat) (q : Option Addr) (d : Nat) (a : Option Addr) (k e : Nat) (xs ys : List Nat),
  cs = [.bool g, .slice p n1 c, .slice q n2 d, .slice a k e] ∧ IRd w .u16 p n1 c xs ∧ IRd w .u16 q n2 d ys ∧ (Dg 65536 xs ∧ Dg 65536 ys) ∧ ZRd w .i64 a k e t.1 ∧ t.2 = mkRat (sg g (V 65536 xs)) (V 65536 ys)
/-- a slice of terms, valid or not -/
structure IsR (w : World) (p : Option Addr) (n c : Nat) (P : List Tm) (N1 N2 : Nat → Nat) : Prop where
  len : P.length = n
  cap : n ≤ c
  max : c ≤ 9223372036854775807
  tms : ∀ i (hi : i < P.length), ∃ (b o : Nat) (cs : List Value), p = some ⟨b, o, none⟩ ∧ (∀ j (hj : j < cs.length), w.cell? ⟨b, o + i * 4 + j, none⟩ = some cs[j]) ∧ TmR w cs (N1 i) (N2 i) P[i]
theorem TmR.keep {w w' : World} {cs : List Value} {n1 n2 : Nat} {t : Tm} (h : TmR w cs n1 n2 t) (hg : w.grownBy w' none) : TmR w' cs n1 n2 t := by
  obtain ⟨g, p, c, q, d, a, k, e, xs, ys, h1, h2, h3, h4, h5, h6⟩ := h
  exact ⟨g, p, c, q, d, a, k, e, xs, ys, h1, h2.keep hg, h3.keep hg, h4, h5.keep hg, h6⟩
theorem IsR.keep {w w' : World} {p : Option Addr} {n c : Nat} {P : List Tm} {N1 N2 : Nat → Nat} (h : IsR w p n c P N1 N2) (hg : w.grownBy w' none) : IsR w' p n c P N1 N2 :=
  ⟨h.len, h.cap, h.max, fun i hi => by
    obtain ⟨b, o, cs, h1, h2, h3⟩ := h.tms i hi
    exact ⟨b, o, cs, h1, fun j hj => hg.cell (h2 j hj) (by simp), h3.keep hg⟩⟩
/-- what Right finds of the term i -/
def TmQ (w : World) (p : Option Addr) (i : Nat) (r : Bool) (t : Tm) : Prop := ∃ (b o : Nat) (g : Bool) (p1 : Option Addr) (n1 c1 : Nat) (q1 : Option Addr) (m1 d1 : Nat) (a : Option Addr) (k e : Nat),
  p = some ⟨b, o, none⟩ ∧ (w.cell? ⟨b, o + i * 4, none⟩ = some (.bool g) ∧ w.cell? ⟨b, o + i * 4 + 1, none⟩ = some (.slice p1 n1 c1) ∧ w.cell? ⟨b, o + i * 4 + 2, none⟩ = some (.slice q1 m1 d1) ∧ w.cell? ⟨b, o + i * 4 + 3, none⟩ = some (.slice a k e)) ∧
  IsQ w g p1 n1 c1 q1 m1 d1 t.2 ∧ (n1 ≤ 9000 ∧ m1 ≤ 9000) ∧ ZRd w .i64 a k e t.1 ∧
  (∀ W, w.grownBy W none → Calls Tryz.prog 19 #[.agg #[.bool g, .slice p1 n1 c1, .slice q1 m1 d1]] W fun e w' => e = .returned (.bool r) ∧ W.grownBy w' none) ∧
  (∀ W, w.grownBy W none → Calls Tryz.prog 62 #[.agg #[.bool g, .slice p1 n1 c1, .slice q1 m1 d1]] W fun e w' => e = .returned (.bool r) ∧ W.grownBy w' none) ∧
  (r = true → TmAt w p i t)
theorem TmQ.keep {w w' : World} {p : Option Addr} {i : Nat} {r : Bool} {t : Tm} (h : TmQ w p i r t) (hg : w.grownBy w' none) : TmQ w' p i r t := by
  obtain ⟨b, o, g, p1, n1, c1, q1, m1, d1, a, k, e, h1, ⟨x0, x1, x2, x3⟩, h3, h4, h5, h6, h7, h8⟩ := h
  exact ⟨b, o, g, p1, n1, c1, q1, m1, d1, a, k, e, h1, ⟨hg.cell x0 (by simp), hg.cell x1 (by simp), hg.cell x2 (by simp), hg.cell x3 (by simp)⟩, h3.keep hg, h4, h5.keep hg, fun W h => h6 W (grown_trans hg h), fun W h => h7 W (grown_trans hg h), fun h => (h8 h).keep hg⟩
theorem TmR.q {w : World} (T : Tb w) {p : Option Addr} {i b o n1 n2 : Nat} {cs : List Value} {t : Tm} (hp : p = some ⟨b, o, none⟩) (hc : ∀ j (hj : j < cs.length), w.cell? ⟨b, o + i * 4 + j, none⟩ = some cs[j]) (h : TmR w cs n1 n2 t) (h1 : n1 ≤ 9000) (h2 : n2 ≤ 9000) : ∃ r, TmQ w p i r t := by
  obtain ⟨g, p1, c, q, d, a, k, e, xs, ys, rfl, hx, hy, ⟨dx, dy⟩, hz, hv⟩ := h
  obtain ⟨r, r1, r2, r3⟩ := right3_full T g hx dx hy dy h1 h2
  refine ⟨r, b, o, g, p1, n1, c, q, n2, d, a, k, e, hp, ⟨hc 0 (by simp), hc 1 (by simp), hc 2 (by simp), hc 3 (by simp)⟩, by rw [hv]; exact IsQ.of g hx dx hy dy, ⟨h1, h2⟩, hz, r2, r1, fun hr => ⟨b, o, _, hp, hc, g, p1, n1, c, q, n2, d, a, k, e, rfl, by rw [hv]; exact r3 hr, hz⟩⟩
theorem IsP.q {w : World} (T : Tb w) {H : Nat} {p : Option Addr} {n c : Nat} {P : List Tm} (h : IsP w p n c P) (bP : BdP H P) (hH : H ≤ 9000) (i : Nat) (hi : i < P.length) : TmQ w p i true P[i] := by
  obtain ⟨b, o, g, p1, n1, c1, q1, m1, d1, a, k, e, h1, h2, h3, h4⟩ := (h.tms i hi).out
  have hl := h3.lens (bP.at hi)
  exact ⟨b, o, g, p1, n1, c1, q1, m1, d1, a, k, e, h1, h2, h3.q, ⟨by omega, by omega⟩, h4, fun W hW => RY.right_refv (h3.keep hW) (by omega) (by omega), fun W hW => ratRight_v H (T.keep hW) (h3.keep hW) hl.1 hl.2 (by omega), fun _ => h.tms i hi⟩
/-- all terms together -/
theorem IsR.q {w : World} (T : Tb w) {p : Option Addr} {n c : Nat} {P : List Tm} {N1 N2 : Nat → Nat} (h : IsR w p n c P N1 N2) (h1 : ∀ i, i < n → N1 i ≤ 9000 ∧ N2 i ≤ 9000) : ∃ R : Nat → Bool, ∀ i (hi : i < P.length), TmQ w p i (R i) P[i] := by
  have hex : ∀ i, ∃ r, ∀ hi : i < P.length, TmQ w p i r P[i] := fun i => by
    by_cases hi : i < P.length
    · obtain ⟨b, o, cs, e1, e2, e3⟩ := h.tms i hi
      obtain ⟨r, hr⟩ := TmR.q T e1 e2 e3 (h1 i (by have := h.len; omega)).1 (h1 i (by have := h.len; omega)).2
      exact ⟨r, fun _ => hr⟩
    · exact ⟨true, fun k => absurd k hi⟩
  exact ⟨fun i => Classical.choose (hex i), fun i hi => Classical.choose_spec (hex i) hi⟩
theorem IsR.p {w : World} {p : Option Addr} {n c : Nat} {P : List Tm} {N1 N2 : Nat → Nat} (h : IsR w p n c P N1 N2) {R : Nat → Bool} (hQ : ∀ i (hi : i < P.length), TmQ w p i (R i) P[i]) (hR : ∀ i, i < P.length → R i = true) : IsP w p n c P :=
  ⟨h.len, h.cap, h.max, fun i hi => by
    obtain ⟨b, o, g, p1, n1, c1, q1, m1, d1, a, k, e, h1, h2, h3, h4, h5, h6, h7, h8⟩ := hQ i hi
    exact h8 (hR i hi)⟩
theorem IsR.bd {w : World} {p : Option Addr} {n c : Nat} {P : List Tm} {N1 N2 : Nat → Nat} (h : IsR w p n c P N1 N2) (hP : IsP w p n c P) {H : Nat} (h1 : ∀ i, i < n → N1 i ≤ H ∧ N2 i ≤ H) : BdP H P := fun t ht => by
  obtain ⟨i, hi, rfl⟩ := List.getElem_of_mem ht
  obtain ⟨b, o, cs, e1, e2, g, p1, c', q, d, a, k, e, xs, ys, rfl, _⟩ := h.tms i hi
  obtain ⟨b', o', g', p1', n1, c1, q1, m1, d1, a', k', e', h1', ⟨x0, x1, x2, x3⟩, h3, h4⟩ := (hP.tms i hi).out
  rw [e1] at h1'
  cases h1'
  have y1 := e2 1 (by simp)
  have y2 := e2 2 (by simp)
  simp only [List.getElem_cons_succ, List.getElem_cons_zero] at y1 y2
  rw [x1] at y1
  rw [x2] at y2
  cases y1
  cases y2
  have := h1 i (by have := h.len; omega)
  exact h3.bd this.1 this.2
end Go.Proofs.YtknmdmofmcfjhaaGreatDoor

set_option linter.unusedVariables false
set_option linter.unusedSimpArgs false
namespace Go.Proofs.YtknmdmofmcfjhaaGreatDoor
open Go Go.RowKit _root_.Nm
theorem TmR.bd {w : World} {cs : List Value} {n1 n2 H : Nat} {t : Tm} (h : TmR w cs n1 n2 t) (h0 : 0 < H) (h1 : n1 ≤ H) (h2 : n2 ≤ H) : Bd H t.2 := by
  obtain ⟨g, p, c, q, d, a, k, e, xs, ys, -, hx, hy, ⟨dx, dy⟩, -, hv⟩ := h
  rw [hv]
  rcases Nat.eq_zero_or_pos (V 65536 ys) with e | e
  · rw [e, Rat.mkRat_zero]
    exact ⟨Nat.pow_pos (by omega), Nat.one_lt_pow (by omega) (by omega)⟩
  · refine Bd.mk e ?_ ?_
    · rw [sg_abs]
      exact Nat.lt_of_lt_of_le (IsN.of hx dx).lt (Nat.pow_le_pow_right (by omega) h1)
    · exact Nat.lt_of_lt_of_le (IsN.of hy dy).lt (Nat.pow_le_pow_right (by omega) h2)
end Go.Proofs.YtknmdmofmcfjhaaGreatDoor

set_option linter.unusedVariables false
set_option linter.unusedSimpArgs false
namespace Go.Proofs.YtknmdmofmcfjhaaGreatDoor
open Go Go.RowKit _root_.Nm
def alX : List Tm := [([1], 1)]
def alY : List Tm := [([0, 1], 1)]
def alS : List Tm := [([0, 1], 1), ([1], 1)]
def alD : List Tm := [([0, 1], -1), ([1], 1)]
def alP : List Tm := [([0, 2], -1), ([2], 1)]
theorem alX_one : one [1] 1 = alX := by decide +kernel
theorem alY_one : one [0, 1] 1 = alY := by decide +kernel
theorem alS_add : addP alX alY = alS := by
  unfold alX alY alS
  rw [addP_lt (by decide +kernel), addP_nil]
theorem alD_sub : addP alX (negP alY) = alD := by
  have e : negP alY = [([0, 1], -1)] := by decide +kernel
  rw [e]
  unfold alX alD
  rw [addP_lt (by decide +kernel), addP_nil]
theorem alP_mul : mulP alS alD = alP := by
  have e1 : mulT ([0, 1], 1) alD = [([0, 2], -1), ([1, 1], 1)] := by decide +kernel
  have e2 : mulT ([1], 1) alD = [([1, 1], -1), ([2], 1)] := by decide +kernel
  unfold alS alP
  simp only [mulP]
  rw [e1, e2, addP_nil, addP_gt (by decide +kernel), addP_eq (by decide +kernel), if_pos (by decide +kernel), show addP [] [(([2] : List Int), (1 : Rat))] = [([2], 1)] by simp [addP]]
theorem alX_nf : NF alX := by rw [← alX_one]; exact NF.one (by decide)
theorem alY_nf : NF alY := by rw [← alY_one]; exact NF.one (by decide)
theorem alS_nf : NF alS := by rw [← alS_add]; exact alX_nf.add alY_nf
theorem alD_nf : NF alD := by rw [← alD_sub]; exact alX_nf.add alY_nf.neg
theorem bd1 : Bd 1 1 := ⟨by decide +kernel, by decide +kernel⟩
theorem bd1n : Bd 1 (-1) := ⟨by decide +kernel, by decide +kernel⟩
theorem alX_bd : BdP 1 alX ∧ ExP 2 alX := ⟨fun t ht => by simp [alX] at ht; subst ht; exact bd1, fun t ht => by simp [alX] at ht; subst ht; decide⟩
theorem alY_bd : BdP 1 alY ∧ ExP 2 alY := ⟨fun t ht => by simp [alY] at ht; subst ht; exact bd1, fun t ht => by simp [alY] at ht; subst ht; decide⟩
theorem alS_bd : BdP 1 alS ∧ ExP 2 alS := ⟨fun t ht => by simp [alS] at ht; rcases ht with rfl | rfl <;> exact bd1, fun t ht => by simp [alS] at ht; rcases ht with rfl | rfl <;> decide⟩
theorem alD_bd : BdP 1 alD ∧ ExP 2 alD := ⟨fun t ht => by simp [alD] at ht; rcases ht with rfl | rfl; exact bd1n; exact bd1, fun t ht => by simp [alD] at ht; rcases ht with rfl | rfl <;> decide⟩
theorem alP_bd : BdP 1 alP := fun t ht => by simp [alP] at ht; rcases ht with rfl | rfl; exact bd1n; exact bd1
theorem zrd2 {w : World} {B : Nat} {x y : Int} {T : TypeId} (h : w.heap[B]? = some (.cells #[.int .i64 x, .int .i64 y] T (0, 0))) : ZRd w .i64 (some ⟨B, 0, none⟩) 2 2 [x, y] := ⟨rfl, Nat.le_refl _, by omega, fun j hj => ⟨_, _, rfl, by
  rw [cell_of_row w B (0 + j) _ _ _ h]
  match j, hj with
  | 0, _ => rfl
  | 1, _ => rfl⟩⟩
theorem zrd1 {w : World} {B : Nat} {x : Int} {T : TypeId} (h : w.heap[B]? = some (.cells #[.int .i64 x] T (0, 0))) : ZRd w .i64 (some ⟨B, 0, none⟩) 1 1 [x] := ⟨rfl, Nat.le_refl _, by omega, fun j hj => ⟨_, _, rfl, by
  rw [cell_of_row w B (0 + j) _ _ _ h]
  match j, hj with
  | 0, _ => rfl⟩⟩
set_option maxHeartbeats 16000000 in
set_option maxRecDepth 100000 in
theorem alive6_v {w : World} (T : Tb w) : Calls Tryz.prog 11 #[] w fun e w' => e = .returned (.bool true) ∧ w.grownBy w' none := by
  have H0 := hid fun W (hg : w.grownBy W none) => var0_v (T.keep hg)
  have H1 := hid fun W (hg : w.grownBy W none) => var1_v (T.keep hg)
  have HA := hid fun W p n c q m d (hg : w.grownBy W none) (h : IsP W p n c alX) (k : IsP W q m d alY) => add_v 1 2 (T.keep hg) h k alX_bd.1 alY_bd.1 alX_bd.2 alY_bd.2 (by omega) ⟨by omega, by omega⟩ (by have := h.len; have := k.len; simp only [alX, alY, List.length_cons, List.length_nil] at *; omega)
  have HS := hid fun W p n c q m d (hg : w.grownBy W none) (h : IsP W p n c alX) (k : IsP W q m d alY) => sub_v 1 2 (T.keep hg) h k alX_bd.1 alY_bd.1 alX_bd.2 alY_bd.2 (by omega) ⟨by omega, by omega⟩ (by have := h.len; have := k.len; simp only [alX, alY, List.length_cons, List.length_nil] at *; omega) alY_nf.nz
  have HM := hid fun W p n c q m d (hg : w.grownBy W none) (h : IsP W p n c alS) (k : IsP W q m d alD) => mul_v 1 2 (T.keep hg) h k alS_bd.1 alD_bd.1 alS_bd.2 alD_bd.2 ⟨by omega, by omega⟩ alS_nf alD_nf (by have := h.len; simp only [alS, List.length_cons, List.length_nil] at *; omega) (by have := k.len; simp only [alD, List.length_cons, List.length_nil] at *; omega) (by have := h.len; have := k.len; simp only [alS, alD, List.length_cons, List.length_nil] at *; subst n m; omega) (by omega) (by have := h.len; have := k.len; simp only [alS, alD, List.length_cons, List.length_nil] at *; subst n m; omega)
  rw [alX_one] at H0
  rw [alY_one] at H1
  rw [alS_add] at HA
  rw [alD_sub] at HS
  rw [alP_mul] at HM
  unfold PPost at H0 H1 HA HS HM
  have hG := hid (grown_refl w none)
  clear T
  go_enter Tryz.func11, Tryz.ntmps11
  go_upto_region 3 with (first
    | (go_at_call 53; (with_reducible refine (H0.out _ hG.out).mono ?_); rintro e w1 ⟨px, nx, cx, rfl, hPX, hg⟩; have HPX := hid hPX; replace hG := hid (grown_trans hG.out hg); clear hPX hg)
    | (go_at_call 53; (with_reducible refine (H1.out _ hG.out).mono ?_); rintro e w2 ⟨py, ny, cy, rfl, hPY, hg⟩; have HPY := hid hPY; replace hG := hid (grown_trans hG.out hg); replace HPX := hid (HPX.out.keep hg); clear hPY hg)
    | (go_at_call 25; (with_reducible refine (HA.out _ _ _ _ _ _ _ hG.out HPX.out HPY.out).mono ?_); rintro e w3 ⟨ps, ns, cs, rfl, hPS, hg⟩; have HPS := hid hPS; replace hG := hid (grown_trans hG.out hg); replace HPX := hid (HPX.out.keep hg); replace HPY := hid (HPY.out.keep hg); clear hPS hg)
    | (go_at_call 27; (with_reducible refine (HS.out _ _ _ _ _ _ _ hG.out HPX.out HPY.out).mono ?_); rintro e w4 ⟨pd, nd, cd, rfl, hPD, hg⟩; have HPD := hid hPD; replace hG := hid (grown_trans hG.out hg); replace HPS := hid (HPS.out.keep hg); clear hPD hg)
    | (go_at_call 29; (with_reducible refine (HM.out _ _ _ _ _ _ _ hG.out HPS.out HPD.out).mono ?_); rintro e w6 ⟨pp, np, cp, rfl, hPP, hg⟩; have HPP := hid hPP; replace hG := hid (grown_trans hG.out hg); clear hPP hg))
  have hlen := HPP.out.len
  have hcp := HPP.out.cap
  have hcm := HPP.out.max
  simp only [alP, List.length_cons, List.length_nil] at hlen
  have hnp : np = 2 := by omega
  subst hnp
  obtain ⟨b, o, g1, p1, n1, c1, q1, m1, d1, a1, k1, e1, rfl, ⟨y0, y1, y2, y3⟩, hV1, hX1⟩ := (HPP.out.tms 0 (by decide)).out
  obtain ⟨b', o', g2, p2, n2, c2, q2, m2, d2, a2, k2, e2, hbo, ⟨y4, y5, y6, y7⟩, hV2, hX2⟩ := (HPP.out.tms 1 (by decide)).out
  cases hbo
  simp only [Nat.zero_mul, Nat.add_zero, Nat.one_mul, Nat.add_assoc, Nat.reduceAdd] at y0 y1 y2 y3 y4 y5 y6 y7
  have hL1 := hid (hV1.lens (alP_bd _ (List.getElem_mem _)))
  have Y0 := hid y0; have Y1 := hid y1; have Y2 := hid y2; have Y3 := hid y3; have Y4 := hid y4; have Y5 := hid y5; have Y6 := hid y6; have Y7 := hid y7
  replace hX1 := hid (show ZRd w6 .i64 a1 k1 e1 [0, 2] from hX1)
  replace hX2 := hid (show ZRd w6 .i64 a2 k2 e2 [2] from hX2)
  replace hV1 := hid (show IsV w6 g1 p1 n1 c1 q1 m1 d1 (-1) from hV1)
  clear y0 y1 y2 y3 y4 y5 y6 y7 hV2 hlen HPP
  refine wp_region_noPanic ?_
  refine wp_region_held_drew (S := (fun W => W.cell? ⟨b, o, none⟩ = some (.bool g1) ∧ W.cell? ⟨b, o + 1, none⟩ = some (.slice p1 n1 c1) ∧ W.cell? ⟨b, o + 2, none⟩ = some (.slice q1 m1 d1) ∧ W.cell? ⟨b, o + 3, none⟩ = some (.slice a1 k1 e1) ∧ W.cell? ⟨b, o + 4, none⟩ = some (.bool g2) ∧ W.cell? ⟨b, o + 5, none⟩ = some (.slice p2 n2 c2) ∧ W.cell? ⟨b, o + 6, none⟩ = some (.slice q2 m2 d2) ∧ W.cell? ⟨b, o + 7, none⟩ = some (.slice a2 k2 e2))) (by kernel_rfl) ?_ (fun hHeld => ?_)
  · (try dsimp only)
    exact ⟨(grown_drew _ none).cell Y0.out (by simp), (grown_drew _ none).cell Y1.out (by simp), (grown_drew _ none).cell Y2.out (by simp), (grown_drew _ none).cell Y3.out (by simp), (grown_drew _ none).cell Y4.out (by simp), (grown_drew _ none).cell Y5.out (by simp), (grown_drew _ none).cell Y6.out (by simp), (grown_drew _ none).cell Y7.out (by simp)⟩
  have hgg := grown_drew w6 none
  generalize w6.drew = wd at *
  refine wpAnyH_take (i := 0) (oi := Oper.mk _ _ _ _ _ _) (v := ?_) rfl (by kernel_rfl) (by kernel_rfl) (by kernel_rfl) (fun _ _ _ h => h) (Or.inl ⟨by kernel_rfl, ?_⟩) hHeld ?_
  rotate_left 1
  · intro W hSw
    (try dsimp only at hSw)
    obtain ⟨h0, h1, h2, h3, h4, h5, h6, h7⟩ := hSw
    go_simp
    (try (with_reducible rfl))
  (try simp only [Act.put, List.setIfInBounds_toArray, List.set_cons_zero, List.set_cons_succ])
  refine wpAnyH_take (i := 1) (oi := Oper.mk _ _ _ _ _ _) (v := ?_) rfl (by kernel_rfl) (by kernel_rfl) (by kernel_rfl) (fun _ _ _ h => h) (Or.inl ⟨by kernel_rfl, ?_⟩) hHeld ?_
  rotate_left 1
  · intro W hSw
    (try dsimp only at hSw)
    obtain ⟨h0, h1, h2, h3, h4, h5, h6, h7⟩ := hSw
    go_simp
    (try (with_reducible rfl))
  (try simp only [Act.put, List.setIfInBounds_toArray, List.set_cons_zero, List.set_cons_succ])
  refine wpAnyH_take (i := 2) (oi := Oper.mk _ _ _ _ _ _) (v := ?_) rfl (by kernel_rfl) (by kernel_rfl) (by kernel_rfl) (fun _ _ _ h => h) (Or.inl ⟨by kernel_rfl, ?_⟩) hHeld ?_
  rotate_left 1
  · intro W hSw
    (try dsimp only at hSw)
    obtain ⟨h0, h1, h2, h3, h4, h5, h6, h7⟩ := hSw
    go_simp
    (try (with_reducible rfl))
  (try simp only [Act.put, List.setIfInBounds_toArray, List.set_cons_zero, List.set_cons_succ])
  refine wpAnyH_take (i := 3) (oi := Oper.mk _ _ _ _ _ _) (v := ?_) rfl (by kernel_rfl) (by kernel_rfl) (by kernel_rfl) (fun _ _ _ h => h) (Or.inl ⟨by kernel_rfl, ?_⟩) hHeld ?_
  rotate_left 1
  · intro W hSw
    (try dsimp only at hSw)
    obtain ⟨h0, h1, h2, h3, h4, h5, h6, h7⟩ := hSw
    go_simp
    (try (with_reducible rfl))
  (try simp only [Act.put, List.setIfInBounds_toArray, List.set_cons_zero, List.set_cons_succ])
  refine wpAnyH_take (i := 4) (oi := Oper.mk _ _ _ _ _ _) (v := ?_) rfl (by kernel_rfl) (by kernel_rfl) (by kernel_rfl) (fun _ _ _ h => h) (Or.inl ⟨by kernel_rfl, ?_⟩) hHeld ?_
  rotate_left 1
  · intro W hSw
    (try dsimp only at hSw)
    obtain ⟨h0, h1, h2, h3, h4, h5, h6, h7⟩ := hSw
    go_simp
    (try (with_reducible rfl))
  (try simp only [Act.put, List.setIfInBounds_toArray, List.set_cons_zero, List.set_cons_succ])
  refine wpAnyH_take (i := 5) (oi := Oper.mk _ _ _ _ _ _) (v := ?_) rfl (by kernel_rfl) (by kernel_rfl) (by kernel_rfl) (fun _ _ _ h => h) (Or.inl ⟨by kernel_rfl, ?_⟩) hHeld ?_
  rotate_left 1
  · intro W hSw
    (try dsimp only at hSw)
    obtain ⟨h0, h1, h2, h3, h4, h5, h6, h7⟩ := hSw
    go_simp
    (try (with_reducible rfl))
  (try simp only [Act.put, List.setIfInBounds_toArray, List.set_cons_zero, List.set_cons_succ])
  refine wpAnyH_take (i := 6) (oi := Oper.mk _ _ _ _ _ _) (v := ?_) rfl (by kernel_rfl) (by kernel_rfl) (by kernel_rfl) (fun _ _ _ h => h) (Or.inl ⟨by kernel_rfl, ?_⟩) hHeld ?_
  rotate_left 1
  · intro W hSw
    (try dsimp only at hSw)
    obtain ⟨h0, h1, h2, h3, h4, h5, h6, h7⟩ := hSw
    go_simp
    (try (with_reducible rfl))
  (try simp only [Act.put, List.setIfInBounds_toArray, List.set_cons_zero, List.set_cons_succ])
  refine wpAnyH_take (i := 7) (oi := Oper.mk _ _ _ _ _ _) (v := ?_) rfl (by kernel_rfl) (by kernel_rfl) (by kernel_rfl) (fun _ _ _ h => h) (Or.inl ⟨by kernel_rfl, ?_⟩) hHeld ?_
  rotate_left 1
  · intro W hSw
    (try dsimp only at hSw)
    obtain ⟨h0, h1, h2, h3, h4, h5, h6, h7⟩ := hSw
    go_simp
    (try (with_reducible rfl))
  (try simp only [Act.put, List.setIfInBounds_toArray, List.set_cons_zero, List.set_cons_succ])
  refine wpAnyH_ready (rs := [8]) (by kernel_rfl) (by simp) ?_
  refine AllReadyH.cons (o := Oper.mk _ _ _ _ _ _) rfl (fun K hK => ?_) AllReadyH.nil
  (try rw [if_pos (by kernel_rfl)])
  go_simp
  have hgS := World.grownBy_alloc wd (.cells #[.int .i64 0, .int .i64 2] 3 (0, 0)) none
  have BA := blk0 wd (.cells #[.int .i64 0, .int .i64 2] 3 (0, 0))
  have hlebA := hgg.size
  replace hgg := grown_trans hgg hgS
  refine hK.out _ _ ?_ (fun hNew => ?_)
  · have hH := hHeld
    (try dsimp only at hH)
    (try dsimp only)
    first | with_reducible exact hH | exact ⟨hgS.cell hH.1 (by simp), hgS.cell hH.2.1 (by simp), hgS.cell hH.2.2.1 (by simp), hgS.cell hH.2.2.2.1 (by simp), hgS.cell hH.2.2.2.2.1 (by simp), hgS.cell hH.2.2.2.2.2.1 (by simp), hgS.cell hH.2.2.2.2.2.2.1 (by simp), hgS.cell hH.2.2.2.2.2.2.2 (by simp)⟩
  clear hK K hHeld
  have hHeld := hNew
  clear hNew
  (try simp only [Act.put, List.setIfInBounds_toArray, List.set_cons_zero, List.set_cons_succ])
  generalize wd.heap.size = bA at *
  generalize wd.alloc _ = wy1 at *
  clear hgS
  refine wpAnyH_ready (rs := [9]) (by kernel_rfl) (by simp) ?_
  refine AllReadyH.cons (o := Oper.mk _ _ _ _ _ _) rfl (fun K hK => ?_) AllReadyH.nil
  have HXA := hid (zrd2 BA)
  (try rw [if_pos (by kernel_rfl)])
  go_simp
  go_at_call 42
  refine (sameM_any _ _ _ _ _ _ _ _ _ (hX1.out.keep hgg) HXA.out).mono ?_
  rintro e wy2 ⟨rfl, hgS⟩
  replace hgg := grown_trans hgg hgS
  replace BA := keepB BA hgS
  refine hK.out _ _ ?_ (fun hNew => ?_)
  · have hH := hHeld
    (try dsimp only at hH)
    (try dsimp only)
    first | with_reducible exact hH | exact ⟨hgS.cell hH.1 (by simp), hgS.cell hH.2.1 (by simp), hgS.cell hH.2.2.1 (by simp), hgS.cell hH.2.2.2.1 (by simp), hgS.cell hH.2.2.2.2.1 (by simp), hgS.cell hH.2.2.2.2.2.1 (by simp), hgS.cell hH.2.2.2.2.2.2.1 (by simp), hgS.cell hH.2.2.2.2.2.2.2 (by simp)⟩
  clear hK K hHeld
  have hHeld := hNew
  clear hNew
  (try simp only [Act.put, List.setIfInBounds_toArray, List.set_cons_zero, List.set_cons_succ])
  clear hgS
  refine wpAnyH_take (i := 10) (oi := Oper.mk _ _ _ _ _ _) (v := ?_) rfl (by kernel_rfl) (by kernel_rfl) (by kernel_rfl) (fun _ _ _ h => h) (Or.inl ⟨by kernel_rfl, ?_⟩) hHeld ?_
  rotate_left 1
  · intro W hSw
    (try dsimp only at hSw)
    obtain ⟨h0, h1, h2, h3, h4, h5, h6, h7⟩ := hSw
    go_simp
    (try (with_reducible rfl))
  (try simp only [Act.put, List.setIfInBounds_toArray, List.set_cons_zero, List.set_cons_succ])
  refine wpAnyH_take (i := 11) (oi := Oper.mk _ _ _ _ _ _) (v := ?_) rfl (by kernel_rfl) (by kernel_rfl) (by kernel_rfl) (fun _ _ _ h => h) (Or.inl ⟨by kernel_rfl, ?_⟩) hHeld ?_
  rotate_left 1
  · intro W hSw
    (try dsimp only at hSw)
    obtain ⟨h0, h1, h2, h3, h4, h5, h6, h7⟩ := hSw
    go_simp
    (try (with_reducible rfl))
  (try simp only [Act.put, List.setIfInBounds_toArray, List.set_cons_zero, List.set_cons_succ])
  refine wpAnyH_take (i := 12) (oi := Oper.mk _ _ _ _ _ _) (v := ?_) rfl (by kernel_rfl) (by kernel_rfl) (by kernel_rfl) (fun _ _ _ h => h) (Or.inl ⟨by kernel_rfl, ?_⟩) hHeld ?_
  rotate_left 1
  · intro W hSw
    (try dsimp only at hSw)
    obtain ⟨h0, h1, h2, h3, h4, h5, h6, h7⟩ := hSw
    go_simp
    (try (with_reducible rfl))
  (try simp only [Act.put, List.setIfInBounds_toArray, List.set_cons_zero, List.set_cons_succ])
  refine wpAnyH_take (i := 13) (oi := Oper.mk _ _ _ _ _ _) (v := ?_) rfl (by kernel_rfl) (by kernel_rfl) (by kernel_rfl) (fun _ _ _ h => h) (Or.inl ⟨by kernel_rfl, ?_⟩) hHeld ?_
  rotate_left 1
  · intro W hSw
    (try dsimp only at hSw)
    obtain ⟨h0, h1, h2, h3, h4, h5, h6, h7⟩ := hSw
    go_simp
    (try (with_reducible rfl))
  (try simp only [Act.put, List.setIfInBounds_toArray, List.set_cons_zero, List.set_cons_succ])
  refine wpAnyH_take (i := 14) (oi := Oper.mk _ _ _ _ _ _) (v := ?_) rfl (by kernel_rfl) (by kernel_rfl) (by kernel_rfl) (fun _ _ _ h => h) (Or.inl ⟨by kernel_rfl, ?_⟩) hHeld ?_
  rotate_left 1
  · intro W hSw
    (try dsimp only at hSw)
    obtain ⟨h0, h1, h2, h3, h4, h5, h6, h7⟩ := hSw
    go_simp
    (try (with_reducible rfl))
  (try simp only [Act.put, List.setIfInBounds_toArray, List.set_cons_zero, List.set_cons_succ])
  refine wpAnyH_take (i := 15) (oi := Oper.mk _ _ _ _ _ _) (v := ?_) rfl (by kernel_rfl) (by kernel_rfl) (by kernel_rfl) (fun _ _ _ h => h) (Or.inl ⟨by kernel_rfl, ?_⟩) hHeld ?_
  rotate_left 1
  · intro W hSw
    (try dsimp only at hSw)
    obtain ⟨h0, h1, h2, h3, h4, h5, h6, h7⟩ := hSw
    go_simp
    (try (with_reducible rfl))
  (try simp only [Act.put, List.setIfInBounds_toArray, List.set_cons_zero, List.set_cons_succ])
  refine wpAnyH_ready (rs := [16]) (by kernel_rfl) (by simp) ?_
  refine AllReadyH.cons (o := Oper.mk _ _ _ _ _ _) rfl (fun K hK => ?_) AllReadyH.nil
  (try rw [if_pos (by kernel_rfl)])
  go_simp
  go_at_call 55
  refine (rOf3_v (-1) (by omega) (by omega)).mono ?_
  rintro e wy3 ⟨g3, p3, n3, c3, q3, m3, d3, rfl, hV3, hn3, hm3, hgS⟩
  replace hgg := grown_trans hgg hgS
  replace BA := keepB BA hgS
  refine hK.out _ _ ?_ (fun hNew => ?_)
  · have hH := hHeld
    (try dsimp only at hH)
    (try dsimp only)
    first | with_reducible exact hH | exact ⟨hgS.cell hH.1 (by simp), hgS.cell hH.2.1 (by simp), hgS.cell hH.2.2.1 (by simp), hgS.cell hH.2.2.2.1 (by simp), hgS.cell hH.2.2.2.2.1 (by simp), hgS.cell hH.2.2.2.2.2.1 (by simp), hgS.cell hH.2.2.2.2.2.2.1 (by simp), hgS.cell hH.2.2.2.2.2.2.2 (by simp)⟩
  clear hK K hHeld
  have hHeld := hNew
  clear hNew
  (try simp only [Act.put, List.setIfInBounds_toArray, List.set_cons_zero, List.set_cons_succ])
  clear hgS
  refine wpAnyH_ready (rs := [17]) (by kernel_rfl) (by simp) ?_
  refine AllReadyH.cons (o := Oper.mk _ _ _ _ _ _) rfl (fun K hK => ?_) AllReadyH.nil
  (try rw [if_pos (by kernel_rfl)])
  go_simp
  go_at_call 54
  refine (rEqual3_v 20 (hV1.out.keep hgg).q hV3.q (by have := hL1.out; omega) (by have := hL1.out; omega) hn3 hm3 (by omega)).mono ?_
  rintro e wy4 ⟨rfl, hgS⟩
  have eE : decide ((-1 : Rat) = (((-1 : Int)) : Rat)) = true := by decide +kernel
  rw [eE]
  clear eE
  replace hgg := grown_trans hgg hgS
  replace BA := keepB BA hgS
  replace hV3 := hV3.keep hgS
  refine hK.out _ _ ?_ (fun hNew => ?_)
  · have hH := hHeld
    (try dsimp only at hH)
    (try dsimp only)
    first | with_reducible exact hH | exact ⟨hgS.cell hH.1 (by simp), hgS.cell hH.2.1 (by simp), hgS.cell hH.2.2.1 (by simp), hgS.cell hH.2.2.2.1 (by simp), hgS.cell hH.2.2.2.2.1 (by simp), hgS.cell hH.2.2.2.2.2.1 (by simp), hgS.cell hH.2.2.2.2.2.2.1 (by simp), hgS.cell hH.2.2.2.2.2.2.2 (by simp)⟩
  clear hK K hHeld
  have hHeld := hNew
  clear hNew
  (try simp only [Act.put, List.setIfInBounds_toArray, List.set_cons_zero, List.set_cons_succ])
  clear hgS
  refine wpAnyH_take (i := 18) (oi := Oper.mk _ _ _ _ _ _) (v := ?_) rfl (by kernel_rfl) (by kernel_rfl) (by kernel_rfl) (fun _ _ _ h => h) (Or.inl ⟨by kernel_rfl, ?_⟩) hHeld ?_
  rotate_left 1
  · intro W hSw
    (try dsimp only at hSw)
    obtain ⟨h0, h1, h2, h3, h4, h5, h6, h7⟩ := hSw
    go_simp
    (try (with_reducible rfl))
  (try simp only [Act.put, List.setIfInBounds_toArray, List.set_cons_zero, List.set_cons_succ])
  refine wpAnyH_take (i := 19) (oi := Oper.mk _ _ _ _ _ _) (v := ?_) rfl (by kernel_rfl) (by kernel_rfl) (by kernel_rfl) (fun _ _ _ h => h) (Or.inl ⟨by kernel_rfl, ?_⟩) hHeld ?_
  rotate_left 1
  · intro W hSw
    (try dsimp only at hSw)
    obtain ⟨h0, h1, h2, h3, h4, h5, h6, h7⟩ := hSw
    go_simp
    (try (with_reducible rfl))
  (try simp only [Act.put, List.setIfInBounds_toArray, List.set_cons_zero, List.set_cons_succ])
  refine wpAnyH_take (i := 20) (oi := Oper.mk _ _ _ _ _ _) (v := ?_) rfl (by kernel_rfl) (by kernel_rfl) (by kernel_rfl) (fun _ _ _ h => h) (Or.inl ⟨by kernel_rfl, ?_⟩) hHeld ?_
  rotate_left 1
  · intro W hSw
    (try dsimp only at hSw)
    obtain ⟨h0, h1, h2, h3, h4, h5, h6, h7⟩ := hSw
    go_simp
    (try (with_reducible rfl))
  (try simp only [Act.put, List.setIfInBounds_toArray, List.set_cons_zero, List.set_cons_succ])
  refine wpAnyH_take (i := 21) (oi := Oper.mk _ _ _ _ _ _) (v := ?_) rfl (by kernel_rfl) (by kernel_rfl) (by kernel_rfl) (fun _ _ _ h => h) (Or.inl ⟨by kernel_rfl, ?_⟩) hHeld ?_
  rotate_left 1
  · intro W hSw
    (try dsimp only at hSw)
    obtain ⟨h0, h1, h2, h3, h4, h5, h6, h7⟩ := hSw
    go_simp
    (try (with_reducible rfl))
  (try simp only [Act.put, List.setIfInBounds_toArray, List.set_cons_zero, List.set_cons_succ])
  refine wpAnyH_take (i := 22) (oi := Oper.mk _ _ _ _ _ _) (v := ?_) rfl (by kernel_rfl) (by kernel_rfl) (by kernel_rfl) (fun _ _ _ h => h) (Or.inl ⟨by kernel_rfl, ?_⟩) hHeld ?_
  rotate_left 1
  · intro W hSw
    (try dsimp only at hSw)
    obtain ⟨h0, h1, h2, h3, h4, h5, h6, h7⟩ := hSw
    go_simp
    (try (with_reducible rfl))
  (try simp only [Act.put, List.setIfInBounds_toArray, List.set_cons_zero, List.set_cons_succ])
  refine wpAnyH_take (i := 23) (oi := Oper.mk _ _ _ _ _ _) (v := ?_) rfl (by kernel_rfl) (by kernel_rfl) (by kernel_rfl) (fun _ _ _ h => h) (Or.inl ⟨by kernel_rfl, ?_⟩) hHeld ?_
  rotate_left 1
  · intro W hSw
    (try dsimp only at hSw)
    obtain ⟨h0, h1, h2, h3, h4, h5, h6, h7⟩ := hSw
    go_simp
    (try (with_reducible rfl))
  (try simp only [Act.put, List.setIfInBounds_toArray, List.set_cons_zero, List.set_cons_succ])
  refine wpAnyH_ready (rs := [24]) (by kernel_rfl) (by simp) ?_
  refine AllReadyH.cons (o := Oper.mk _ _ _ _ _ _) rfl (fun K hK => ?_) AllReadyH.nil
  (try rw [if_pos (by kernel_rfl)])
  go_simp
  have hgS := World.grownBy_alloc wy4 (.cells #[.int .i64 2] 3 (0, 0)) none
  have BB := blk0 wy4 (.cells #[.int .i64 2] 3 (0, 0))
  have hlebB := hgg.size
  replace hgg := grown_trans hgg hgS
  replace BA := keepB BA hgS
  replace hV3 := hV3.keep hgS
  refine hK.out _ _ ?_ (fun hNew => ?_)
  · have hH := hHeld
    (try dsimp only at hH)
    (try dsimp only)
    first | with_reducible exact hH | exact ⟨hgS.cell hH.1 (by simp), hgS.cell hH.2.1 (by simp), hgS.cell hH.2.2.1 (by simp), hgS.cell hH.2.2.2.1 (by simp), hgS.cell hH.2.2.2.2.1 (by simp), hgS.cell hH.2.2.2.2.2.1 (by simp), hgS.cell hH.2.2.2.2.2.2.1 (by simp), hgS.cell hH.2.2.2.2.2.2.2 (by simp)⟩
  clear hK K hHeld
  have hHeld := hNew
  clear hNew
  (try simp only [Act.put, List.setIfInBounds_toArray, List.set_cons_zero, List.set_cons_succ])
  generalize wy4.heap.size = bB at *
  generalize wy4.alloc _ = wy5 at *
  clear hgS
  refine wpAnyH_ready (rs := [25]) (by kernel_rfl) (by simp) ?_
  refine AllReadyH.cons (o := Oper.mk _ _ _ _ _ _) rfl (fun K hK => ?_) AllReadyH.nil
  have HXB := hid (zrd1 BB)
  (try rw [if_pos (by kernel_rfl)])
  go_simp
  go_at_call 42
  refine (sameM_any _ _ _ _ _ _ _ _ _ (hX2.out.keep hgg) HXB.out).mono ?_
  rintro e wy6 ⟨rfl, hgS⟩
  replace hgg := grown_trans hgg hgS
  replace BA := keepB BA hgS
  replace hV3 := hV3.keep hgS
  replace BB := keepB BB hgS
  refine hK.out _ _ ?_ (fun hNew => ?_)
  · have hH := hHeld
    (try dsimp only at hH)
    (try dsimp only)
    first | with_reducible exact hH | exact ⟨hgS.cell hH.1 (by simp), hgS.cell hH.2.1 (by simp), hgS.cell hH.2.2.1 (by simp), hgS.cell hH.2.2.2.1 (by simp), hgS.cell hH.2.2.2.2.1 (by simp), hgS.cell hH.2.2.2.2.2.1 (by simp), hgS.cell hH.2.2.2.2.2.2.1 (by simp), hgS.cell hH.2.2.2.2.2.2.2 (by simp)⟩
  clear hK K hHeld
  have hHeld := hNew
  clear hNew
  (try simp only [Act.put, List.setIfInBounds_toArray, List.set_cons_zero, List.set_cons_succ])
  clear hgS
  refine wpAnyH_take (i := 26) (oi := Oper.mk _ _ _ _ _ _) (v := ?_) rfl (by kernel_rfl) (by kernel_rfl) (by kernel_rfl) (fun _ _ _ h => h) (Or.inl ⟨by kernel_rfl, ?_⟩) hHeld ?_
  rotate_left 1
  · intro W hSw
    (try dsimp only at hSw)
    obtain ⟨h0, h1, h2, h3, h4, h5, h6, h7⟩ := hSw
    go_simp
    (try (with_reducible rfl))
  (try simp only [Act.put, List.setIfInBounds_toArray, List.set_cons_zero, List.set_cons_succ])
  refine wpAnyH_ready (rs := [27]) (by kernel_rfl) (by simp) ?_
  refine AllReadyH.cons (o := Oper.mk _ _ _ _ _ _) rfl (fun K hK => ?_) AllReadyH.nil
  (try rw [if_pos (by kernel_rfl)])
  go_simp
  refine hK.out _ _ ?_ (fun hNew => ?_)
  · have hH := hHeld
    (try dsimp only at hH)
    (try dsimp only)
    first | with_reducible exact hH | exact ⟨hgS.cell hH.1 (by simp), hgS.cell hH.2.1 (by simp), hgS.cell hH.2.2.1 (by simp), hgS.cell hH.2.2.2.1 (by simp), hgS.cell hH.2.2.2.2.1 (by simp), hgS.cell hH.2.2.2.2.2.1 (by simp), hgS.cell hH.2.2.2.2.2.2.1 (by simp), hgS.cell hH.2.2.2.2.2.2.2 (by simp)⟩
  clear hK K hHeld
  have hHeld := hNew
  clear hNew
  (try simp only [Act.put, List.setIfInBounds_toArray, List.set_cons_zero, List.set_cons_succ])
  refine wpAnyH_done (by kernel_rfl) ?_ _
  refine NoPanic.normal ?_
  clear hHeld
  go_wp2_with fail
  go_ret
  exact ⟨rfl, grown_trans hG.out hgg⟩
end Go.Proofs.YtknmdmofmcfjhaaGreatDoor

set_option linter.unusedVariables false
set_option linter.unusedSimpArgs false
namespace Go.Proofs.YtknmdmofmcfjhaaGreatDoor
open Go Go.RowKit _root_.Nm
theorem wrapI64 {x : Int} (h1 : -9223372036854775808 ≤ x) (h2 : x ≤ 9223372036854775807) : IntKind.i64.wrap x = x := by
  rw [IntWalk.i64_left]; exact Go.IntWalk.wrap64_in _ (by omega)
set_option maxHeartbeats 16000000 in
set_option maxRecDepth 100000 in
theorem rRight6_w (R : Nat → Bool) {w : World} {p : Option Addr} {n c : Nat} {P : List Tm} (hl : P.length = n) (hc : n ≤ c) (hx : c ≤ 9223372036854775807) (hQ : ∀ i (hi : i < P.length), TmQ w p i (R i) P[i]) :
    Calls Tryz.prog 15 #[.slice p n c] w fun e w' => e = .returned (.bool (goodP R P)) ∧ w.grownBy w' none := by
  have HQ := hid hQ; have HL := hid hl
  clear hQ hl
  go_enter Tryz.func15, Tryz.ntmps15
  go_wp2_with fail
  go_loopw [3] (fun x wr => ∃ (i : Nat), i ≤ n ∧ x = .int .i64 i ∧ Hid (w.grownBy wr none) ∧ Hid (∀ j, j < i → goodI R P j)) (fun x _ => n - (intOf x).toNat)
  case atStart => exact ⟨0, Nat.zero_le _, rfl, hid (grown_refl _ _), hid fun j h => absurd h (Nat.not_lt_zero j)⟩
  case round =>
    obtain ⟨i, hi, rfl, HG, HS⟩ := hrel
    by_cases hlt : i < n
    · have hil : i < P.length := by have := HL.out; omega
      obtain ⟨b, o, g, p1, n1, c1, q1, m1, d1, a, k, e, rfl, ⟨x0, x1, x2, x3⟩, hV, ⟨hn1, hm1⟩, hZ, hR, -, -⟩ := HQ.out i hil
      have HT := hid (tmI_at hil)
      have HF : Hid (¬ goodI R P i → goodP R P = false) := hid fun h => decide_eq_false fun h2 => h (h2 i hil)
      obtain ⟨t, ht⟩ : ∃ t, t = P[i] := ⟨_, rfl⟩
      rw [← ht] at hV hZ HT
      obtain ⟨zs, v⟩ := t
      dsimp only at hV hZ
      obtain ⟨r, hr⟩ : ∃ r, r = R i := ⟨_, rfl⟩
      rw [← hr] at hR
      have HR3 := hid hR
      have HSG := hid fun W (hg : w.grownBy W none) => rSign3_v 9000 (hV.keep hg) hn1 hm1 (by omega)
      have HRT := hid fun W (hg : w.grownBy W none) => rright_any a k e zs W (hZ.keep hg)
      obtain ⟨y, hy⟩ : ∃ y, y = decide (RightZ 1048576 zs) := ⟨_, rfl⟩
      rw [← hy] at HRT
      have hcb := cmpR_bound v 0
      have hz0 : cmpR v 0 = 0 ↔ v = 0 := cmpR_zero
      obtain ⟨z, hz⟩ : ∃ z, z = cmpR v 0 := ⟨_, rfl⟩
      rw [← hz] at HSG hz0
      have HZZ := hid hz0; have HY := hid hy; have HRI := hid hr
      have HZ0 := hid hZ
      have hg0 := HG.out
      replace x0 := hg0.cell x0 (by simp); replace x1 := hg0.cell x1 (by simp); replace x2 := hg0.cell x2 (by simp); replace x3 := hg0.cell x3 (by simp)
      clear hV hZ hR hr ht hy hz hcb hz0 hg0
      cases r
      · have hbad : Hid (¬ goodI R P i) := hid fun h => by have := h.1; rw [← HRI.out] at this; cases this
        go_wp2_with (first
          | (go_at_call 19; (with_reducible refine (HR3.out _ HG.out).mono ?_); rintro e w1 ⟨rfl, hg⟩; replace HG := hid (grown_trans HG.out hg); replace x0 := hg.cell x0 (by simp); replace x1 := hg.cell x1 (by simp); replace x2 := hg.cell x2 (by simp); replace x3 := hg.cell x3 (by simp); clear hg)
          | (go_at_call 66; (with_reducible refine (HSG.out _ HG.out).mono ?_); rintro e w2 ⟨rfl, hg⟩; replace HG := hid (grown_trans HG.out hg); replace x0 := hg.cell x0 (by simp); replace x1 := hg.cell x1 (by simp); replace x2 := hg.cell x2 (by simp); replace x3 := hg.cell x3 (by simp); clear hg)
          | (go_at_call 67; (with_reducible refine (HRT.out _ HG.out).mono ?_); rintro e w3 ⟨rfl, rfl⟩))
        go_ret
        exact ⟨by (rw [HF.out hbad.out]; first | done | rfl), HG.out⟩
      · by_cases hz0 : z = 0
        · subst hz0
          have hbad : Hid (¬ goodI R P i) := hid fun h => by have := h.2.1; rw [HT.out] at this; exact this (HZZ.out.1 rfl)
          go_wp2_with (first
            | (go_at_call 19; (with_reducible refine (HR3.out _ HG.out).mono ?_); rintro e w1 ⟨rfl, hg⟩; replace HG := hid (grown_trans HG.out hg); replace x0 := hg.cell x0 (by simp); replace x1 := hg.cell x1 (by simp); replace x2 := hg.cell x2 (by simp); replace x3 := hg.cell x3 (by simp); clear hg)
            | (go_at_call 66; (with_reducible refine (HSG.out _ HG.out).mono ?_); rintro e w2 ⟨rfl, hg⟩; replace HG := hid (grown_trans HG.out hg); replace x0 := hg.cell x0 (by simp); replace x1 := hg.cell x1 (by simp); replace x2 := hg.cell x2 (by simp); replace x3 := hg.cell x3 (by simp); clear hg)
            | (go_at_call 67; (with_reducible refine (HRT.out _ HG.out).mono ?_); rintro e w3 ⟨rfl, rfl⟩))
          go_ret
          exact ⟨by (rw [HF.out hbad.out]; first | done | rfl), HG.out⟩
        · cases y
          · have hbad : Hid (¬ goodI R P i) := hid fun h => by have := h.2.2.1; rw [HT.out] at this; exact of_decide_eq_false HY.out.symm this
            go_wp2_with (first
              | (go_at_call 19; (with_reducible refine (HR3.out _ HG.out).mono ?_); rintro e w1 ⟨rfl, hg⟩; replace HG := hid (grown_trans HG.out hg); replace x0 := hg.cell x0 (by simp); replace x1 := hg.cell x1 (by simp); replace x2 := hg.cell x2 (by simp); replace x3 := hg.cell x3 (by simp); clear hg)
              | (go_at_call 66; (with_reducible refine (HSG.out _ HG.out).mono ?_); rintro e w2 ⟨rfl, hg⟩; replace HG := hid (grown_trans HG.out hg); replace x0 := hg.cell x0 (by simp); replace x1 := hg.cell x1 (by simp); replace x2 := hg.cell x2 (by simp); replace x3 := hg.cell x3 (by simp); clear hg)
              | (go_at_call 67; (with_reducible refine (HRT.out _ HG.out).mono ?_); rintro e w3 ⟨rfl, rfl⟩))
            go_ret
            exact ⟨by (rw [HF.out hbad.out]; first | done | rfl), HG.out⟩
          · have HGD : Hid (R i = true ∧ (tmI P i).2 ≠ 0 ∧ RightZ 1048576 (tmI P i).1) := hid ⟨HRI.out.symm, by rw [HT.out]; exact fun h => hz0 (HZZ.out.2 h), by rw [HT.out]; exact of_decide_eq_true HY.out.symm⟩
            rcases Nat.eq_zero_or_pos i with h0 | hpos
            · subst h0
              simp only [Nat.zero_mul, Nat.add_zero] at x0 x1 x2 x3
              go_upto_region 6 with (first
                | (go_at_call 19; (with_reducible refine (HR3.out _ HG.out).mono ?_); rintro e w1 ⟨rfl, hg⟩; replace HG := hid (grown_trans HG.out hg); replace x0 := hg.cell x0 (by simp); replace x1 := hg.cell x1 (by simp); replace x2 := hg.cell x2 (by simp); replace x3 := hg.cell x3 (by simp); clear hg)
                | (go_at_call 66; (with_reducible refine (HSG.out _ HG.out).mono ?_); rintro e w2 ⟨rfl, hg⟩; replace HG := hid (grown_trans HG.out hg); replace x0 := hg.cell x0 (by simp); replace x1 := hg.cell x1 (by simp); replace x2 := hg.cell x2 (by simp); replace x3 := hg.cell x3 (by simp); clear hg)
                | (go_at_call 67; (with_reducible refine (HRT.out _ HG.out).mono ?_); rintro e w3 ⟨rfl, rfl⟩))
              refine wp_region_noPanic ?_
              refine wp_region_held_drew (S := (fun W => True)) (by kernel_rfl) ?_ (fun hHeld => ?_)
              · trivial
              refine wpAnyH_take (i := 0) (oi := Oper.mk _ _ _ _ _ _) (v := ?_) rfl (by kernel_rfl) (by kernel_rfl) (by kernel_rfl) (fun _ _ _ h => h) (Or.inl ⟨by kernel_rfl, ?_⟩) hHeld ?_
              rotate_left 1
              · intro W hSw
                (try dsimp only at hSw)
                clear hSw
                go_simp
                (try (with_reducible rfl))
              (try simp only [Act.put, List.setIfInBounds_toArray, List.set_cons_zero, List.set_cons_succ])
              refine wpAnyH_take (i := 1) (oi := Oper.mk _ _ _ _ _ _) (v := ?_) rfl (by kernel_rfl) (by kernel_rfl) (by kernel_rfl) (fun _ _ _ h => h) (Or.inl ⟨by kernel_rfl, ?_⟩) hHeld ?_
              rotate_left 1
              · intro W hSw
                (try dsimp only at hSw)
                clear hSw
                go_simp
                (try (with_reducible rfl))
              (try simp only [Act.put, List.setIfInBounds_toArray, List.set_cons_zero, List.set_cons_succ])
              refine wpAnyH_take (i := 2) (oi := Oper.mk _ _ _ _ _ _) (v := ?_) rfl (by kernel_rfl) (by kernel_rfl) (by kernel_rfl) (fun _ _ _ h => h) (Or.inl ⟨by kernel_rfl, ?_⟩) hHeld ?_
              rotate_left 1
              · intro W hSw
                (try dsimp only at hSw)
                clear hSw
                go_simp
                (try (with_reducible rfl))
              (try simp only [Act.put, List.setIfInBounds_toArray, List.set_cons_zero, List.set_cons_succ])
              refine wpAnyH_take (i := 3) (oi := Oper.mk _ _ _ _ _ _) (v := undef) rfl (by kernel_rfl) (by kernel_rfl) (by kernel_rfl) (fun _ _ _ h => h) (Or.inr ⟨by kernel_rfl, rfl⟩) hHeld ?_
              (try simp only [Act.put, List.setIfInBounds_toArray, List.set_cons_zero, List.set_cons_succ])
              refine wpAnyH_take (i := 4) (oi := Oper.mk _ _ _ _ _ _) (v := undef) rfl (by kernel_rfl) (by kernel_rfl) (by kernel_rfl) (fun _ _ _ h => h) (Or.inr ⟨by kernel_rfl, rfl⟩) hHeld ?_
              (try simp only [Act.put, List.setIfInBounds_toArray, List.set_cons_zero, List.set_cons_succ])
              refine wpAnyH_take (i := 5) (oi := Oper.mk _ _ _ _ _ _) (v := undef) rfl (by kernel_rfl) (by kernel_rfl) (by kernel_rfl) (fun _ _ _ h => h) (Or.inr ⟨by kernel_rfl, rfl⟩) hHeld ?_
              (try simp only [Act.put, List.setIfInBounds_toArray, List.set_cons_zero, List.set_cons_succ])
              refine wpAnyH_take (i := 6) (oi := Oper.mk _ _ _ _ _ _) (v := undef) rfl (by kernel_rfl) (by kernel_rfl) (by kernel_rfl) (fun _ _ _ h => h) (Or.inr ⟨by kernel_rfl, rfl⟩) hHeld ?_
              (try simp only [Act.put, List.setIfInBounds_toArray, List.set_cons_zero, List.set_cons_succ])
              refine wpAnyH_take (i := 7) (oi := Oper.mk _ _ _ _ _ _) (v := undef) rfl (by kernel_rfl) (by kernel_rfl) (by kernel_rfl) (fun _ _ _ h => h) (Or.inr ⟨by kernel_rfl, rfl⟩) hHeld ?_
              (try simp only [Act.put, List.setIfInBounds_toArray, List.set_cons_zero, List.set_cons_succ])
              refine wpAnyH_take (i := 8) (oi := Oper.mk _ _ _ _ _ _) (v := undef) rfl (by kernel_rfl) (by kernel_rfl) (by kernel_rfl) (fun _ _ _ h => h) (Or.inr ⟨by kernel_rfl, rfl⟩) hHeld ?_
              (try simp only [Act.put, List.setIfInBounds_toArray, List.set_cons_zero, List.set_cons_succ])
              refine wpAnyH_take (i := 9) (oi := Oper.mk _ _ _ _ _ _) (v := undef) rfl (by kernel_rfl) (by kernel_rfl) (by kernel_rfl) (fun _ _ _ h => h) (Or.inr ⟨by kernel_rfl, rfl⟩) hHeld ?_
              (try simp only [Act.put, List.setIfInBounds_toArray, List.set_cons_zero, List.set_cons_succ])
              refine wpAnyH_take (i := 10) (oi := Oper.mk _ _ _ _ _ _) (v := undef) rfl (by kernel_rfl) (by kernel_rfl) (by kernel_rfl) (fun _ _ _ h => h) (Or.inr ⟨by kernel_rfl, rfl⟩) hHeld ?_
              (try simp only [Act.put, List.setIfInBounds_toArray, List.set_cons_zero, List.set_cons_succ])
              refine wpAnyH_take (i := 11) (oi := Oper.mk _ _ _ _ _ _) (v := undef) rfl (by kernel_rfl) (by kernel_rfl) (by kernel_rfl) (fun _ _ _ h => h) (Or.inr ⟨by kernel_rfl, rfl⟩) hHeld ?_
              (try simp only [Act.put, List.setIfInBounds_toArray, List.set_cons_zero, List.set_cons_succ])
              refine wpAnyH_take (i := 12) (oi := Oper.mk _ _ _ _ _ _) (v := undef) rfl (by kernel_rfl) (by kernel_rfl) (by kernel_rfl) (fun _ _ _ h => h) (Or.inr ⟨by kernel_rfl, rfl⟩) hHeld ?_
              (try simp only [Act.put, List.setIfInBounds_toArray, List.set_cons_zero, List.set_cons_succ])
              refine wpAnyH_take (i := 13) (oi := Oper.mk _ _ _ _ _ _) (v := undef) rfl (by kernel_rfl) (by kernel_rfl) (by kernel_rfl) (fun _ _ _ h => h) (Or.inr ⟨by kernel_rfl, rfl⟩) hHeld ?_
              (try simp only [Act.put, List.setIfInBounds_toArray, List.set_cons_zero, List.set_cons_succ])
              refine wpAnyH_take (i := 14) (oi := Oper.mk _ _ _ _ _ _) (v := undef) rfl (by kernel_rfl) (by kernel_rfl) (by kernel_rfl) (fun _ _ _ h => h) (Or.inr ⟨by kernel_rfl, rfl⟩) hHeld ?_
              (try simp only [Act.put, List.setIfInBounds_toArray, List.set_cons_zero, List.set_cons_succ])
              refine wpAnyH_take (i := 15) (oi := Oper.mk _ _ _ _ _ _) (v := undef) rfl (by kernel_rfl) (by kernel_rfl) (by kernel_rfl) (fun _ _ _ h => h) (Or.inr ⟨by kernel_rfl, rfl⟩) hHeld ?_
              (try simp only [Act.put, List.setIfInBounds_toArray, List.set_cons_zero, List.set_cons_succ])
              refine wpAnyH_take (i := 16) (oi := Oper.mk _ _ _ _ _ _) (v := ?_) rfl (by kernel_rfl) (by kernel_rfl) (by kernel_rfl) (fun _ _ _ h => h) (Or.inl ⟨by kernel_rfl, ?_⟩) hHeld ?_
              rotate_left 1
              · intro W hSw
                (try dsimp only at hSw)
                clear hSw
                go_simp
                (try (with_reducible rfl))
              (try simp only [Act.put, List.setIfInBounds_toArray, List.set_cons_zero, List.set_cons_succ])
              refine wpAnyH_done (by kernel_rfl) ?_ _
              refine NoPanic.normal ?_
              clear hHeld
              go_wp2_with fail
              refine ⟨⟨0 + 1, by omega, by go_num, hid (grown_trans HG.out (grown_drew _ none)), hid fun j hj => ?_⟩, by simp [intOf]; omega⟩
              obtain rfl : j = 0 := by omega
              have := HGD.out
              exact ⟨this.1, this.2.1, this.2.2, .inl rfl⟩
            · obtain ⟨j, rfl⟩ : ∃ j, i = j + 1 := ⟨i - 1, by omega⟩
              have hjl : j < P.length := by omega
              obtain ⟨b', o', g', p1', n1', c1', q1', m1', d1', a2, k2, e2, hp', ⟨y0, y1, y2, y3⟩, -, -, hZ2, -, -, -⟩ := HQ.out j hjl
              cases hp'
              have HT2 := hid (tmI_at hjl)
              have hg2 := (HS.out j (by omega)).2.2.1
              obtain ⟨t2, ht2⟩ : ∃ t, t = P[j] := ⟨_, rfl⟩
              rw [← ht2] at hZ2 HT2
              rw [HT2.out] at hg2
              have hg3 := HGD.out.2.2
              rw [HT.out] at hg3
              obtain ⟨zs2, v2⟩ := t2
              dsimp only at hZ2 hg2 hg3
              have ho : ordZ 0 zs2 zs = lexL zs2 zs := by unfold ordZ; rw [if_neg (by intro h; have := h.1; omega)]
              have HCM := hid fun W (hg : w.grownBy W none) => rcmpM_any a2 a k2 k e2 e zs2 zs 0 W (hZ2.keep hg) (HZ0.out.keep hg) hg2 hg3 ⟨by omega, by omega⟩ ⟨by omega, by omega⟩
              rw [ho] at HCM
              obtain ⟨l, hl⟩ : ∃ l, l = lexL zs2 zs := ⟨_, rfl⟩
              rw [← hl] at HCM
              have HLL : Hid ((l ≤ 0 → ¬ goodI R P (j + 1)) ∧ (¬ l ≤ 0 → goodI R P (j + 1))) := hid ⟨fun h h2 => by
                rcases h2.2.2.2 with h3 | h3
                · omega
                · rw [show j + 1 - 1 = j by omega, HT2.out, HT.out] at h3
                  dsimp only at h3
                  omega, fun h => ⟨HGD.out.1, HGD.out.2.1, HGD.out.2.2, .inr (by
                    rw [show j + 1 - 1 = j by omega, HT2.out, HT.out]
                    dsimp only
                    omega)⟩⟩
              have hjn : j < n := by omega
              have hwj : IntKind.i64.wrap (j : Int) = (j : Int) := wrapI64 (by omega) (by omega)
              have Y3 := hid y3
              clear y0 y1 y2 y3 hZ2 ht2 hg2 hg3 ho hl HZ0
              go_upto_region 6 with (first
                | (go_at_call 19; (with_reducible refine (HR3.out _ HG.out).mono ?_); rintro e w1 ⟨rfl, hg⟩; replace HG := hid (grown_trans HG.out hg); replace x0 := hg.cell x0 (by simp); replace x1 := hg.cell x1 (by simp); replace x2 := hg.cell x2 (by simp); replace x3 := hg.cell x3 (by simp); clear hg)
                | (go_at_call 66; (with_reducible refine (HSG.out _ HG.out).mono ?_); rintro e w2 ⟨rfl, hg⟩; replace HG := hid (grown_trans HG.out hg); replace x0 := hg.cell x0 (by simp); replace x1 := hg.cell x1 (by simp); replace x2 := hg.cell x2 (by simp); replace x3 := hg.cell x3 (by simp); clear hg)
                | (go_at_call 67; (with_reducible refine (HRT.out _ HG.out).mono ?_); rintro e w3 ⟨rfl, rfl⟩))
              have X3 := hid x3
              replace Y3 := hid (HG.out.cell Y3.out (by simp))
              replace HCM := hid fun W hg => HCM.out W (grown_trans HG.out hg)
              clear x0 x1 x2 x3
              by_cases hl0 : l ≤ 0
              · refine wp_region_noPanic ?_
                refine wp_region_held_drew (S := (fun W => W.cell? ⟨b, o + j * 4 + 3, none⟩ = some (.slice a2 k2 e2) ∧ W.cell? ⟨b, o + (j + 1) * 4 + 3, none⟩ = some (.slice a k e))) (by kernel_rfl) ?_ (fun hHeld => ?_)
                · (try dsimp only)
                  exact ⟨(grown_drew _ none).cell Y3.out (by simp), (grown_drew _ none).cell X3.out (by simp)⟩
                have hgg := grown_drew w2 none
                generalize w2.drew = wd at *
                refine wpAnyH_take (i := 0) (oi := Oper.mk _ _ _ _ _ _) (v := ?_) rfl (by kernel_rfl) (by kernel_rfl) (by kernel_rfl) (fun _ _ _ h => h) (Or.inl ⟨by kernel_rfl, ?_⟩) hHeld ?_
                rotate_left 1
                · intro W hSw
                  (try dsimp only at hSw)
                  obtain ⟨h0, h1⟩ := hSw
                  go_simp
                  (try (with_reducible rfl))
                (try simp only [Act.put, List.setIfInBounds_toArray, List.set_cons_zero, List.set_cons_succ])
                refine wpAnyH_take (i := 1) (oi := Oper.mk _ _ _ _ _ _) (v := ?_) rfl (by kernel_rfl) (by kernel_rfl) (by kernel_rfl) (fun _ _ _ h => h) (Or.inl ⟨by kernel_rfl, ?_⟩) hHeld ?_
                rotate_left 1
                · intro W hSw
                  (try dsimp only at hSw)
                  obtain ⟨h0, h1⟩ := hSw
                  go_simp
                  (try (with_reducible rfl))
                (try simp only [Act.put, List.setIfInBounds_toArray, List.set_cons_zero, List.set_cons_succ])
                refine wpAnyH_take (i := 2) (oi := Oper.mk _ _ _ _ _ _) (v := ?_) rfl (by kernel_rfl) (by kernel_rfl) (by kernel_rfl) (fun _ _ _ h => h) (Or.inl ⟨by kernel_rfl, ?_⟩) hHeld ?_
                rotate_left 1
                · intro W hSw
                  (try dsimp only at hSw)
                  obtain ⟨h0, h1⟩ := hSw
                  go_simp
                  (try (with_reducible rfl))
                (try simp only [Act.put, List.setIfInBounds_toArray, List.set_cons_zero, List.set_cons_succ])
                refine wpAnyH_take (i := 3) (oi := Oper.mk _ _ _ _ _ _) (v := ?_) rfl (by kernel_rfl) (by kernel_rfl) (by kernel_rfl) (fun _ _ _ h => h) (Or.inl ⟨by kernel_rfl, ?_⟩) hHeld ?_
                rotate_left 1
                · intro W hSw
                  (try dsimp only at hSw)
                  obtain ⟨h0, h1⟩ := hSw
                  go_simp
                  (try (with_reducible rfl))
                (try simp only [Act.put, List.setIfInBounds_toArray, List.set_cons_zero, List.set_cons_succ])
                refine wpAnyH_take (i := 4) (oi := Oper.mk _ _ _ _ _ _) (v := ?_) rfl (by kernel_rfl) (by kernel_rfl) (by kernel_rfl) (fun _ _ _ h => h) (Or.inl ⟨by kernel_rfl, ?_⟩) hHeld ?_
                rotate_left 1
                · intro W hSw
                  (try dsimp only at hSw)
                  obtain ⟨h0, h1⟩ := hSw
                  go_simp
                  (try (with_reducible rfl))
                (try simp only [Act.put, List.setIfInBounds_toArray, List.set_cons_zero, List.set_cons_succ])
                refine wpAnyH_take (i := 5) (oi := Oper.mk _ _ _ _ _ _) (v := ?_) rfl (by kernel_rfl) (by kernel_rfl) (by kernel_rfl) (fun _ _ _ h => h) (Or.inl ⟨by kernel_rfl, ?_⟩) hHeld ?_
                rotate_left 1
                · intro W hSw
                  (try dsimp only at hSw)
                  obtain ⟨h0, h1⟩ := hSw
                  go_simp
                  (try (with_reducible rfl))
                (try simp only [Act.put, List.setIfInBounds_toArray, List.set_cons_zero, List.set_cons_succ])
                refine wpAnyH_take (i := 6) (oi := Oper.mk _ _ _ _ _ _) (v := ?_) rfl (by kernel_rfl) (by kernel_rfl) (by kernel_rfl) (fun _ _ _ h => h) (Or.inl ⟨by kernel_rfl, ?_⟩) hHeld ?_
                rotate_left 1
                · intro W hSw
                  (try dsimp only at hSw)
                  obtain ⟨h0, h1⟩ := hSw
                  go_simp
                  (try (with_reducible rfl))
                (try simp only [Act.put, List.setIfInBounds_toArray, List.set_cons_zero, List.set_cons_succ])
                refine wpAnyH_take (i := 7) (oi := Oper.mk _ _ _ _ _ _) (v := ?_) rfl (by kernel_rfl) (by kernel_rfl) (by kernel_rfl) (fun _ _ _ h => h) (Or.inl ⟨by kernel_rfl, ?_⟩) hHeld ?_
                rotate_left 1
                · intro W hSw
                  (try dsimp only at hSw)
                  obtain ⟨h0, h1⟩ := hSw
                  go_simp
                  (try (with_reducible rfl))
                (try simp only [Act.put, List.setIfInBounds_toArray, List.set_cons_zero, List.set_cons_succ])
                refine wpAnyH_take (i := 8) (oi := Oper.mk _ _ _ _ _ _) (v := ?_) rfl (by kernel_rfl) (by kernel_rfl) (by kernel_rfl) (fun _ _ _ h => h) (Or.inl ⟨by kernel_rfl, ?_⟩) hHeld ?_
                rotate_left 1
                · intro W hSw
                  (try dsimp only at hSw)
                  obtain ⟨h0, h1⟩ := hSw
                  go_simp
                  (try (with_reducible rfl))
                (try simp only [Act.put, List.setIfInBounds_toArray, List.set_cons_zero, List.set_cons_succ])
                refine wpAnyH_take (i := 9) (oi := Oper.mk _ _ _ _ _ _) (v := ?_) rfl (by kernel_rfl) (by kernel_rfl) (by kernel_rfl) (fun _ _ _ h => h) (Or.inl ⟨by kernel_rfl, ?_⟩) hHeld ?_
                rotate_left 1
                · intro W hSw
                  (try dsimp only at hSw)
                  obtain ⟨h0, h1⟩ := hSw
                  go_simp
                  (try (with_reducible rfl))
                (try simp only [Act.put, List.setIfInBounds_toArray, List.set_cons_zero, List.set_cons_succ])
                refine wpAnyH_take (i := 10) (oi := Oper.mk _ _ _ _ _ _) (v := ?_) rfl (by kernel_rfl) (by kernel_rfl) (by kernel_rfl) (fun _ _ _ h => h) (Or.inl ⟨by kernel_rfl, ?_⟩) hHeld ?_
                rotate_left 1
                · intro W hSw
                  (try dsimp only at hSw)
                  obtain ⟨h0, h1⟩ := hSw
                  go_simp
                  (try (with_reducible rfl))
                (try simp only [Act.put, List.setIfInBounds_toArray, List.set_cons_zero, List.set_cons_succ])
                refine wpAnyH_take (i := 11) (oi := Oper.mk _ _ _ _ _ _) (v := ?_) rfl (by kernel_rfl) (by kernel_rfl) (by kernel_rfl) (fun _ _ _ h => h) (Or.inl ⟨by kernel_rfl, ?_⟩) hHeld ?_
                rotate_left 1
                · intro W hSw
                  (try dsimp only at hSw)
                  obtain ⟨h0, h1⟩ := hSw
                  go_simp
                  (try (with_reducible rfl))
                (try simp only [Act.put, List.setIfInBounds_toArray, List.set_cons_zero, List.set_cons_succ])
                refine wpAnyH_take (i := 12) (oi := Oper.mk _ _ _ _ _ _) (v := ?_) rfl (by kernel_rfl) (by kernel_rfl) (by kernel_rfl) (fun _ _ _ h => h) (Or.inl ⟨by kernel_rfl, ?_⟩) hHeld ?_
                rotate_left 1
                · intro W hSw
                  (try dsimp only at hSw)
                  obtain ⟨h0, h1⟩ := hSw
                  go_simp
                  (try (with_reducible rfl))
                (try simp only [Act.put, List.setIfInBounds_toArray, List.set_cons_zero, List.set_cons_succ])
                refine wpAnyH_take (i := 13) (oi := Oper.mk _ _ _ _ _ _) (v := ?_) rfl (by kernel_rfl) (by kernel_rfl) (by kernel_rfl) (fun _ _ _ h => h) (Or.inl ⟨by kernel_rfl, ?_⟩) hHeld ?_
                rotate_left 1
                · intro W hSw
                  (try dsimp only at hSw)
                  obtain ⟨h0, h1⟩ := hSw
                  go_simp
                  (try (with_reducible rfl))
                (try simp only [Act.put, List.setIfInBounds_toArray, List.set_cons_zero, List.set_cons_succ])
                refine wpAnyH_ready (rs := [14]) (by kernel_rfl) (by simp) ?_
                refine AllReadyH.cons (o := Oper.mk _ _ _ _ _ _) rfl (fun K hK => ?_) AllReadyH.nil
                (try rw [if_pos (by kernel_rfl)])
                go_simp
                go_at_call 68
                refine (HCM.out _ hgg).mono ?_
                rintro e wy ⟨rfl, rfl⟩
                refine hK.out _ _ ?_ (fun hNew => ?_)
                · have hH := hHeld
                  (try dsimp only at hH)
                  (try dsimp only)
                  with_reducible exact hH
                clear hK K hHeld
                have hHeld := hNew
                clear hNew
                (try simp only [Act.put, List.setIfInBounds_toArray, List.set_cons_zero, List.set_cons_succ])
                refine wpAnyH_take (i := 15) (oi := Oper.mk _ _ _ _ _ _) (v := ?_) rfl (by kernel_rfl) (by kernel_rfl) (by kernel_rfl) (fun _ _ _ h => h) (Or.inl ⟨by kernel_rfl, ?_⟩) hHeld ?_
                rotate_left 1
                · intro W hSw
                  (try dsimp only at hSw)
                  obtain ⟨h0, h1⟩ := hSw
                  go_simp
                  (try (with_reducible rfl))
                (try simp only [Act.put, List.setIfInBounds_toArray, List.set_cons_zero, List.set_cons_succ])
                refine wpAnyH_take (i := 16) (oi := Oper.mk _ _ _ _ _ _) (v := ?_) rfl (by kernel_rfl) (by kernel_rfl) (by kernel_rfl) (fun _ _ _ h => h) (Or.inl ⟨by kernel_rfl, ?_⟩) hHeld ?_
                rotate_left 1
                · intro W hSw
                  (try dsimp only at hSw)
                  obtain ⟨h0, h1⟩ := hSw
                  go_simp
                  (try (with_reducible rfl))
                (try simp only [Act.put, List.setIfInBounds_toArray, List.set_cons_zero, List.set_cons_succ])
                refine wpAnyH_done (by kernel_rfl) ?_ _
                refine NoPanic.normal ?_
                clear hHeld
                go_wp2_with fail
                go_ret
                exact ⟨by (rw [HF.out (HLL.out.1 hl0)]; first | done | rfl), grown_trans HG.out hgg⟩
              · refine wp_region_noPanic ?_
                refine wp_region_held_drew (S := (fun W => W.cell? ⟨b, o + j * 4 + 3, none⟩ = some (.slice a2 k2 e2) ∧ W.cell? ⟨b, o + (j + 1) * 4 + 3, none⟩ = some (.slice a k e))) (by kernel_rfl) ?_ (fun hHeld => ?_)
                · (try dsimp only)
                  exact ⟨(grown_drew _ none).cell Y3.out (by simp), (grown_drew _ none).cell X3.out (by simp)⟩
                have hgg := grown_drew w2 none
                generalize w2.drew = wd at *
                refine wpAnyH_take (i := 0) (oi := Oper.mk _ _ _ _ _ _) (v := ?_) rfl (by kernel_rfl) (by kernel_rfl) (by kernel_rfl) (fun _ _ _ h => h) (Or.inl ⟨by kernel_rfl, ?_⟩) hHeld ?_
                rotate_left 1
                · intro W hSw
                  (try dsimp only at hSw)
                  obtain ⟨h0, h1⟩ := hSw
                  go_simp
                  (try (with_reducible rfl))
                (try simp only [Act.put, List.setIfInBounds_toArray, List.set_cons_zero, List.set_cons_succ])
                refine wpAnyH_take (i := 1) (oi := Oper.mk _ _ _ _ _ _) (v := ?_) rfl (by kernel_rfl) (by kernel_rfl) (by kernel_rfl) (fun _ _ _ h => h) (Or.inl ⟨by kernel_rfl, ?_⟩) hHeld ?_
                rotate_left 1
                · intro W hSw
                  (try dsimp only at hSw)
                  obtain ⟨h0, h1⟩ := hSw
                  go_simp
                  (try (with_reducible rfl))
                (try simp only [Act.put, List.setIfInBounds_toArray, List.set_cons_zero, List.set_cons_succ])
                refine wpAnyH_take (i := 2) (oi := Oper.mk _ _ _ _ _ _) (v := ?_) rfl (by kernel_rfl) (by kernel_rfl) (by kernel_rfl) (fun _ _ _ h => h) (Or.inl ⟨by kernel_rfl, ?_⟩) hHeld ?_
                rotate_left 1
                · intro W hSw
                  (try dsimp only at hSw)
                  obtain ⟨h0, h1⟩ := hSw
                  go_simp
                  (try (with_reducible rfl))
                (try simp only [Act.put, List.setIfInBounds_toArray, List.set_cons_zero, List.set_cons_succ])
                refine wpAnyH_take (i := 3) (oi := Oper.mk _ _ _ _ _ _) (v := ?_) rfl (by kernel_rfl) (by kernel_rfl) (by kernel_rfl) (fun _ _ _ h => h) (Or.inl ⟨by kernel_rfl, ?_⟩) hHeld ?_
                rotate_left 1
                · intro W hSw
                  (try dsimp only at hSw)
                  obtain ⟨h0, h1⟩ := hSw
                  go_simp
                  (try (with_reducible rfl))
                (try simp only [Act.put, List.setIfInBounds_toArray, List.set_cons_zero, List.set_cons_succ])
                refine wpAnyH_take (i := 4) (oi := Oper.mk _ _ _ _ _ _) (v := ?_) rfl (by kernel_rfl) (by kernel_rfl) (by kernel_rfl) (fun _ _ _ h => h) (Or.inl ⟨by kernel_rfl, ?_⟩) hHeld ?_
                rotate_left 1
                · intro W hSw
                  (try dsimp only at hSw)
                  obtain ⟨h0, h1⟩ := hSw
                  go_simp
                  (try (with_reducible rfl))
                (try simp only [Act.put, List.setIfInBounds_toArray, List.set_cons_zero, List.set_cons_succ])
                refine wpAnyH_take (i := 5) (oi := Oper.mk _ _ _ _ _ _) (v := ?_) rfl (by kernel_rfl) (by kernel_rfl) (by kernel_rfl) (fun _ _ _ h => h) (Or.inl ⟨by kernel_rfl, ?_⟩) hHeld ?_
                rotate_left 1
                · intro W hSw
                  (try dsimp only at hSw)
                  obtain ⟨h0, h1⟩ := hSw
                  go_simp
                  (try (with_reducible rfl))
                (try simp only [Act.put, List.setIfInBounds_toArray, List.set_cons_zero, List.set_cons_succ])
                refine wpAnyH_take (i := 6) (oi := Oper.mk _ _ _ _ _ _) (v := ?_) rfl (by kernel_rfl) (by kernel_rfl) (by kernel_rfl) (fun _ _ _ h => h) (Or.inl ⟨by kernel_rfl, ?_⟩) hHeld ?_
                rotate_left 1
                · intro W hSw
                  (try dsimp only at hSw)
                  obtain ⟨h0, h1⟩ := hSw
                  go_simp
                  (try (with_reducible rfl))
                (try simp only [Act.put, List.setIfInBounds_toArray, List.set_cons_zero, List.set_cons_succ])
                refine wpAnyH_take (i := 7) (oi := Oper.mk _ _ _ _ _ _) (v := ?_) rfl (by kernel_rfl) (by kernel_rfl) (by kernel_rfl) (fun _ _ _ h => h) (Or.inl ⟨by kernel_rfl, ?_⟩) hHeld ?_
                rotate_left 1
                · intro W hSw
                  (try dsimp only at hSw)
                  obtain ⟨h0, h1⟩ := hSw
                  go_simp
                  (try (with_reducible rfl))
                (try simp only [Act.put, List.setIfInBounds_toArray, List.set_cons_zero, List.set_cons_succ])
                refine wpAnyH_take (i := 8) (oi := Oper.mk _ _ _ _ _ _) (v := ?_) rfl (by kernel_rfl) (by kernel_rfl) (by kernel_rfl) (fun _ _ _ h => h) (Or.inl ⟨by kernel_rfl, ?_⟩) hHeld ?_
                rotate_left 1
                · intro W hSw
                  (try dsimp only at hSw)
                  obtain ⟨h0, h1⟩ := hSw
                  go_simp
                  (try (with_reducible rfl))
                (try simp only [Act.put, List.setIfInBounds_toArray, List.set_cons_zero, List.set_cons_succ])
                refine wpAnyH_take (i := 9) (oi := Oper.mk _ _ _ _ _ _) (v := ?_) rfl (by kernel_rfl) (by kernel_rfl) (by kernel_rfl) (fun _ _ _ h => h) (Or.inl ⟨by kernel_rfl, ?_⟩) hHeld ?_
                rotate_left 1
                · intro W hSw
                  (try dsimp only at hSw)
                  obtain ⟨h0, h1⟩ := hSw
                  go_simp
                  (try (with_reducible rfl))
                (try simp only [Act.put, List.setIfInBounds_toArray, List.set_cons_zero, List.set_cons_succ])
                refine wpAnyH_take (i := 10) (oi := Oper.mk _ _ _ _ _ _) (v := ?_) rfl (by kernel_rfl) (by kernel_rfl) (by kernel_rfl) (fun _ _ _ h => h) (Or.inl ⟨by kernel_rfl, ?_⟩) hHeld ?_
                rotate_left 1
                · intro W hSw
                  (try dsimp only at hSw)
                  obtain ⟨h0, h1⟩ := hSw
                  go_simp
                  (try (with_reducible rfl))
                (try simp only [Act.put, List.setIfInBounds_toArray, List.set_cons_zero, List.set_cons_succ])
                refine wpAnyH_take (i := 11) (oi := Oper.mk _ _ _ _ _ _) (v := ?_) rfl (by kernel_rfl) (by kernel_rfl) (by kernel_rfl) (fun _ _ _ h => h) (Or.inl ⟨by kernel_rfl, ?_⟩) hHeld ?_
                rotate_left 1
                · intro W hSw
                  (try dsimp only at hSw)
                  obtain ⟨h0, h1⟩ := hSw
                  go_simp
                  (try (with_reducible rfl))
                (try simp only [Act.put, List.setIfInBounds_toArray, List.set_cons_zero, List.set_cons_succ])
                refine wpAnyH_take (i := 12) (oi := Oper.mk _ _ _ _ _ _) (v := ?_) rfl (by kernel_rfl) (by kernel_rfl) (by kernel_rfl) (fun _ _ _ h => h) (Or.inl ⟨by kernel_rfl, ?_⟩) hHeld ?_
                rotate_left 1
                · intro W hSw
                  (try dsimp only at hSw)
                  obtain ⟨h0, h1⟩ := hSw
                  go_simp
                  (try (with_reducible rfl))
                (try simp only [Act.put, List.setIfInBounds_toArray, List.set_cons_zero, List.set_cons_succ])
                refine wpAnyH_take (i := 13) (oi := Oper.mk _ _ _ _ _ _) (v := ?_) rfl (by kernel_rfl) (by kernel_rfl) (by kernel_rfl) (fun _ _ _ h => h) (Or.inl ⟨by kernel_rfl, ?_⟩) hHeld ?_
                rotate_left 1
                · intro W hSw
                  (try dsimp only at hSw)
                  obtain ⟨h0, h1⟩ := hSw
                  go_simp
                  (try (with_reducible rfl))
                (try simp only [Act.put, List.setIfInBounds_toArray, List.set_cons_zero, List.set_cons_succ])
                refine wpAnyH_ready (rs := [14]) (by kernel_rfl) (by simp) ?_
                refine AllReadyH.cons (o := Oper.mk _ _ _ _ _ _) rfl (fun K hK => ?_) AllReadyH.nil
                (try rw [if_pos (by kernel_rfl)])
                go_simp
                go_at_call 68
                refine (HCM.out _ hgg).mono ?_
                rintro e wy ⟨rfl, rfl⟩
                refine hK.out _ _ ?_ (fun hNew => ?_)
                · have hH := hHeld
                  (try dsimp only at hH)
                  (try dsimp only)
                  with_reducible exact hH
                clear hK K hHeld
                have hHeld := hNew
                clear hNew
                (try simp only [Act.put, List.setIfInBounds_toArray, List.set_cons_zero, List.set_cons_succ])
                refine wpAnyH_take (i := 15) (oi := Oper.mk _ _ _ _ _ _) (v := ?_) rfl (by kernel_rfl) (by kernel_rfl) (by kernel_rfl) (fun _ _ _ h => h) (Or.inl ⟨by kernel_rfl, ?_⟩) hHeld ?_
                rotate_left 1
                · intro W hSw
                  (try dsimp only at hSw)
                  obtain ⟨h0, h1⟩ := hSw
                  go_simp
                  (try (with_reducible rfl))
                (try simp only [Act.put, List.setIfInBounds_toArray, List.set_cons_zero, List.set_cons_succ])
                refine wpAnyH_take (i := 16) (oi := Oper.mk _ _ _ _ _ _) (v := ?_) rfl (by kernel_rfl) (by kernel_rfl) (by kernel_rfl) (fun _ _ _ h => h) (Or.inl ⟨by kernel_rfl, ?_⟩) hHeld ?_
                rotate_left 1
                · intro W hSw
                  (try dsimp only at hSw)
                  obtain ⟨h0, h1⟩ := hSw
                  go_simp
                  (try (with_reducible rfl))
                (try simp only [Act.put, List.setIfInBounds_toArray, List.set_cons_zero, List.set_cons_succ])
                refine wpAnyH_done (by kernel_rfl) ?_ _
                refine NoPanic.normal ?_
                clear hHeld
                go_wp2_with fail
                refine ⟨⟨j + 1 + 1, by omega, by go_num, hid (grown_trans HG.out hgg), hid fun j' hj => ?_⟩, by simp [intOf]; omega⟩
                by_cases e : j' = j + 1
                · subst e; exact HLL.out.2 (by omega)
                · exact HS.out j' (by omega)
    · obtain rfl : i = n := by omega
      go_wp2_with fail
      go_ret
      have : goodP R P = true := decide_eq_true fun j hj => HS.out j (by have := HL.out; omega)
      exact ⟨by (rw [this]; first | done | rfl), HG.out⟩
end Go.Proofs.YtknmdmofmcfjhaaGreatDoor

set_option linter.unusedVariables false
set_option linter.unusedSimpArgs false
namespace Go.Proofs.YtknmdmofmcfjhaaGreatDoor
open Go Go.RowKit _root_.Nm
/-- the term i is short -/
def smI (P : List Tm) (N1 N2 : Nat → Nat) (vs es i : Nat) : Prop := (tmI P i).1.length ≤ vs ∧ N1 i ≤ 4 ∧ N2 i ≤ 4 ∧ ∀ u (hu : u < (tmI P i).1.length), (tmI P i).1[u] ≤ (es : Int)
set_option maxHeartbeats 16000000 in
set_option maxRecDepth 100000 in
theorem rSmall6_w {w : World} {p : Option Addr} {n c : Nat} {P : List Tm} {N1 N2 : Nat → Nat} (h : IsR w p n c P N1 N2) (ts vs es : Nat) (hts : ts ≤ 1000000) (hvs : vs ≤ 1000000) (hes : es ≤ 100000000) (b : Bool)
    (hb : n ≤ ts → (∀ i, i < n → smI P N1 N2 vs es i) → Calls Tryz.prog 15 #[.slice p n c] w fun e w' => e = .returned (.bool b) ∧ w.grownBy w' none)
    (hb2 : ¬ (n ≤ ts ∧ ∀ i, i < n → smI P N1 N2 vs es i) → b = false) :
    Calls Tryz.prog 33 #[.slice p n c, .int .i64 ts, .int .i64 vs, .int .i64 es] w fun e w' => e = .returned (.bool b) ∧ w.grownBy w' none := by
  have hcap := h.cap; have hmax := h.max
  have HL := hid h.len; have HR := hid h.tms; have HB := hid hb; have HB2 := hid hb2
  clear h hb hb2
  by_cases hn : n ≤ ts
  · go_enter Tryz.func33, Tryz.ntmps33
    go_wp2_with fail
    go_loop [9] (fun x => ∃ i : Nat, i ≤ n ∧ x = .int .i64 i ∧ Hid (∀ j, j < i → smI P N1 N2 vs es j)) (fun x => n - (intOf x).toNat)
    case atStart => exact ⟨0, Nat.zero_le _, rfl, hid fun j h => absurd h (Nat.not_lt_zero j)⟩
    case round =>
      obtain ⟨i, hi, rfl, HS⟩ := hrel
      by_cases hlt : i < n
      · have hil : i < P.length := by have := HL.out; omega
        obtain ⟨bb, o, cs, hp, hc, g, p1, c1, q, d, a, k, e, xs, ys, rfl, hX, hY, -, hZ, -⟩ := HR.out i hil
        subst hp
        have HT := hid (tmI_at hil)
        have HBAD : Hid (¬ smI P N1 N2 vs es i → b = false) := hid fun h => HB2.out fun h2 => h (h2.2 i hlt)
        obtain ⟨t, ht⟩ : ∃ t, t = P[i] := ⟨_, rfl⟩
        rw [← ht] at hZ HT
        obtain ⟨zs, v⟩ := t
        dsimp only at hZ
        have x0 := hc 0 (by simp); have x1 := hc 1 (by simp); have x2 := hc 2 (by simp); have x3 := hc 3 (by simp)
        simp only [List.getElem_cons_zero, List.getElem_cons_succ, Nat.add_zero] at x0 x1 x2 x3
        have hkc := hZ.cap; have hkm := hZ.max; have h1c := hX.cap; have h1m := hX.max; have h2c := hY.cap; have h2m := hY.max
        have HKL := hid hZ.len
        have HZ := hid hZ
        obtain ⟨n1, hn1⟩ : ∃ x, x = N1 i := ⟨_, rfl⟩
        obtain ⟨n2, hn2⟩ : ∃ x, x = N2 i := ⟨_, rfl⟩
        rw [← hn1] at x1 h1c
        rw [← hn2] at x2 h2c
        have HN1 := hid hn1; have HN2 := hid hn2
        clear hc ht hZ hX hY hn1 hn2
        by_cases hk : k ≤ vs
        · by_cases h1 : n1 ≤ 4
          · by_cases h2 : n2 ≤ 4
            · go_upto_region 9 with fail
              go_loop [10] (fun x => ∃ u : Nat, u ≤ k ∧ x = .int .i64 u ∧ Hid (∀ v (hv : v < zs.length), v < u → zs[v] ≤ (es : Int))) (fun x => k - (intOf x).toNat)
              case atStart => exact ⟨0, Nat.zero_le _, rfl, hid fun v _ h => absurd h (Nat.not_lt_zero v)⟩
              case round =>
                obtain ⟨u, hu, rfl, HU⟩ := hrel
                by_cases hul : u < k
                · have hul2 : u < zs.length := by have := HKL.out; omega
                  obtain ⟨b3, o3, rfl, hci⟩ := HZ.out.cel u hul2
                  obtain ⟨x, hx⟩ : ∃ x, x = zs[u] := ⟨_, rfl⟩
                  rw [← hx] at hci
                  have HX := hid hx
                  clear hx
                  by_cases hxe : x ≤ (es : Int)
                  · go_wp2_with fail
                    refine ⟨⟨u + 1, by omega, by go_num, hid fun v hv hvu => ?_⟩, by simp [intOf]; omega⟩
                    by_cases e : v = u
                    · subst e; rw [← HX.out]; exact hxe
                    · exact HU.out v hv (by omega)
                  · go_wp2_with fail
                    go_ret
                    exact ⟨by (rw [HBAD.out fun h => by have h3 := h.2.2.2; rw [HT.out] at h3; have h4 := h3 u hul2; dsimp only at h4; rw [← HX.out] at h4; omega]; first | done | rfl), grown_refl _ _⟩
                · obtain rfl : u = k := by omega
                  go_wp2_with fail
                  refine ⟨⟨i + 1, by omega, by go_num, hid fun j hj => ?_⟩, by simp [intOf]; omega⟩
                  by_cases e : j = i
                  · subst e
                    refine ⟨by rw [HT.out]; have h5 := HKL.out; show zs.length ≤ vs; omega, by rw [← HN1.out]; exact h1, by rw [← HN2.out]; exact h2, ?_⟩
                    rw [HT.out]
                    exact fun v' hv => HU.out v' hv (by have h5 : v' < zs.length := hv; have := HKL.out; omega)
                  · exact HS.out j (by omega)
            · go_wp2_with fail
              go_ret
              exact ⟨by (rw [HBAD.out fun h => by have h3 := h.2.2.1; rw [← HN2.out] at h3; omega]; first | done | rfl), grown_refl _ _⟩
          · go_wp2_with fail
            go_ret
            exact ⟨by (rw [HBAD.out fun h => by have h3 := h.2.1; rw [← HN1.out] at h3; omega]; first | done | rfl), grown_refl _ _⟩
        · go_wp2_with fail
          go_ret
          exact ⟨by (rw [HBAD.out fun h => by have h3 := h.1; rw [HT.out] at h3; have h9 := HKL.out; dsimp only at h3; omega]; first | done | rfl), grown_refl _ _⟩
      · obtain rfl : i = n := by omega
        have HC := hid (HB.out hn HS.out)
        go_wp2_with (go_at_call 15; (with_reducible refine HC.out.mono ?_); rintro e w1 ⟨rfl, hg⟩)
        go_ret
        exact ⟨rfl, hg⟩
  · go_enter Tryz.func33, Tryz.ntmps33
    go_wp2_with fail
    go_ret
    exact ⟨by (rw [HB2.out fun h => by have := h.1; omega]; first | done | rfl), grown_refl _ _⟩
/-- Small of any slice of terms -/
theorem rSmall6_v {w : World} (T : Tb w) {p : Option Addr} {n c : Nat} {P : List Tm} {N1 N2 : Nat → Nat} (h : IsR w p n c P N1 N2) (ts vs es : Nat) (hts : ts ≤ 1000000) (hvs : vs ≤ 1000000) (hes : es ≤ 1048576) :
    ∃ b : Bool, (∀ W, w.grownBy W none → Calls Tryz.prog 33 #[.slice p n c, .int .i64 ts, .int .i64 vs, .int .i64 es] W fun e w' => e = .returned (.bool b) ∧ W.grownBy w' none) ∧
      (b = true → n ≤ ts ∧ IsP w p n c P ∧ NF P ∧ ExP (es : Int) P ∧ BdP 4 P ∧ ∀ t ∈ P, t.1.length ≤ vs) := by
  by_cases hs : n ≤ ts ∧ ∀ i, i < n → smI P N1 N2 vs es i
  · obtain ⟨R, hR⟩ := h.q T (fun i hi => ⟨by have := (hs.2 i hi).2.1; omega, by have := (hs.2 i hi).2.2.1; omega⟩)
    refine ⟨goodP R P, fun W hW => rSmall6_w (h.keep hW) ts vs es hts hvs (by omega) _ (fun _ _ => rRight6_w R h.len h.cap h.max fun i hi => (hR i hi).keep hW) (fun h => absurd hs h), fun hb => ?_⟩
    obtain ⟨h1, h2, h3⟩ := goodP_out hb
    have hP := h.p hR h1
    refine ⟨hs.1, hP, h2, fun t ht => ?_, h.bd hP fun i hi => ⟨(hs.2 i hi).2.1, (hs.2 i hi).2.2.1⟩, fun t ht => ?_⟩
    · obtain ⟨i, hi, rfl⟩ := List.getElem_of_mem ht
      have h4 := h3.at hi
      have h5 := (hs.2 i (by have := h.len; omega)).2.2.2
      rw [tmI_at hi] at h5
      exact ⟨h4.len, h4.last, fun x hx => ⟨(h4.bound x hx).1, by
        obtain ⟨u, hu, rfl⟩ := List.getElem_of_mem hx
        exact h5 u hu⟩⟩
    · obtain ⟨i, hi, rfl⟩ := List.getElem_of_mem ht
      have h5 := (hs.2 i (by have := h.len; omega)).1
      rw [tmI_at hi] at h5
      exact h5
  · exact ⟨false, fun W hW => rSmall6_w (h.keep hW) ts vs es hts hvs (by omega) false (fun h1 h2 => absurd ⟨h1, h2⟩ hs) (fun _ => rfl), fun h => by cases h⟩
end Go.Proofs.YtknmdmofmcfjhaaGreatDoor

set_option linter.unusedVariables false
set_option linter.unusedSimpArgs false
namespace Go.Proofs.YtknmdmofmcfjhaaGreatDoor
open Go Go.RowKit _root_.Nm
/-- a polynomial in normal form: digits of the coefficients, exponents, number of terms -/
structure Pk (H : Nat) (B : Int) (L : Nat) (P : List Tm) : Prop where
  nf : NF P
  bd : BdP H P
  ex : ExP B P
  len : P.length ≤ L
theorem ExP.mono {B C : Int} {P : List Tm} (h : ExP B P) (k : B ≤ C) : ExP C P := fun t ht => (h t ht).mono k
theorem Pk.mono {H K L M : Nat} {B C : Int} {P : List Tm} (h : Pk H B L P) (h1 : H ≤ K) (h2 : B ≤ C) (h3 : L ≤ M) : Pk K C M P := ⟨h.nf, h.bd.mono h1, h.ex.mono h2, Nat.le_trans h.len h3⟩
theorem Pk.add {H L M : Nat} {B : Int} {P Q : List Tm} (h : Pk H B L P) (k : Pk H B M Q) : Pk (H + H + 1) B (L + M) (addP P Q) :=
  ⟨h.nf.add k.nf, h.bd.add k.bd, h.ex.add k.ex, Nat.le_trans (addP_len P Q) (by have := h.len; have := k.len; omega)⟩
theorem Pk.neg {H L : Nat} {B : Int} {P : List Tm} (h : Pk H B L P) : Pk H B L (negP P) := ⟨h.nf.neg, h.bd.neg, h.ex.neg, by rw [negP_len]; exact h.len⟩
theorem Pk.mul {H L M : Nat} {B : Int} {P Q : List Tm} (hB : 0 ≤ B) (h : Pk H B L P) (k : Pk H B M Q) : Pk (L * (H + H + 1)) (B + B) (L * M) (mulP P Q) :=
  ⟨NF.mul h.nf.nz k.nf, (BdP.mul h.bd k.bd h.nf k.nf).1.mono (Nat.mul_le_mul_right _ h.len), (BdP.mul h.bd k.bd h.nf k.nf).2 hB h.ex k.ex, Nat.le_trans (mulP_len P Q) (Nat.mul_le_mul h.len k.len)⟩
/-- the numbers of a valid polynomial are as short as its bound -/
theorem IsR.short {w : World} {p : Option Addr} {n c : Nat} {P : List Tm} {N1 N2 : Nat → Nat} (h : IsR w p n c P N1 N2) (hP : IsP w p n c P) {H : Nat} (hb : BdP H P) : ∀ i, i < n → N1 i ≤ H ∧ N2 i ≤ H := fun i hi => by
  have hi' : i < P.length := by have := h.len; omega
  obtain ⟨b, o, cs, e1, e2, g, p1, c', q, d, a, k, e, xs, ys, rfl, _⟩ := h.tms i hi'
  obtain ⟨b', o', g', p1', n1, c1, q1, m1, d1, a', k', e', h1', ⟨x0, x1, x2, x3⟩, h3, h4⟩ := (hP.tms i hi').out
  rw [e1] at h1'
  cases h1'
  have y1 := e2 1 (by simp)
  have y2 := e2 2 (by simp)
  simp only [List.getElem_cons_succ, List.getElem_cons_zero] at y1 y2
  rw [x1] at y1
  rw [x2] at y2
  cases y1
  cases y2
  exact h3.lens (hb.at hi')
end Go.Proofs.YtknmdmofmcfjhaaGreatDoor

set_option linter.unusedVariables false
set_option linter.unusedSimpArgs false
namespace Go.Proofs.YtknmdmofmcfjhaaGreatDoor
open Go.ChangeShapes Go.WideShapes Go.ChangeAt Go.RowKit _root_.Nm
theorem cellsTermP : Tryz.prog.cellsOf 33 = 4 := by kernel_rfl
theorem cellsMonoP : Tryz.prog.cellsOf 31 = 1 := by kernel_rfl
theorem cellsIntP : Tryz.prog.cellsOf 3 = 1 := by kernel_rfl
section
variable {H : Type} {enc : TypeId × Value → H} {W : World}
theorem open_monoP {fuel : Nat} {cs : List Value} {x : DataW H × List MemPlace} (hf : DataW.trod enc Tryz.prog W 0 (fun _ => true) true fuel 31 cs = some x) :
    ∃ a n c zs, cs = [.slice a n c] ∧ ZRd W .i64 a n c zs := by
  rcases open_ints Tryz.underlying31 Tryz.underlying3 cellsIntP hf with ⟨hcs, hx⟩ | ⟨a, len', cap', zs, hcs, _, hl, hm, hz, hx, hcell, hwz⟩
  · exact ⟨none, 0, 0, [], hcs, ZRd.nil W⟩
  · simp only [if_true] at hz
    refine ⟨some a, len', cap', zs.take len', hcs, ⟨by simp; omega, hl, by unfold maxLen at hm; omega, fun j hj => ?_⟩⟩
    have hj' : j < len' := by simp at hj; omega
    have hc := hcell j (by omega)
    have hg : zs.getD j 0 = zs[j]'(by omega) := by simp [List.getD, List.getElem?_eq_getElem (show j < zs.length by omega)]
    have hsp := World.cell?_spot (hcell 0 (by omega))
    have ha : ∃ b o, a = ⟨b, o, none⟩ := ⟨a.block, a.off, by
      cases a with
      | mk b o s => simp [Addr.add] at hsp; simp [hsp]⟩
    obtain ⟨b, o, rfl⟩ := ha
    refine ⟨b, o, rfl, ?_⟩
    rw [add_addr] at hc
    rw [hc, hg]
    simp
set_option maxRecDepth 100000 in
theorem open_ratP {fuel : Nat} {cs : List Value} {x : DataW H × List MemPlace} (hf : DataW.trod enc Tryz.prog W 0 (fun _ => true) true fuel 29 cs = some x) (hl : cs.length = 3) :
    ∃ g a n c xs b m e ys, cs = [.bool g, .slice a n c, .slice b m e] ∧ IRd W .u16 a n c xs ∧ IRd W .u16 b m e ys ∧ (Dg 65536 xs ∧ Dg 65536 ys) := by
  obtain ⟨y0, y1, k, hx, _, h0, h1⟩ := trod_struct2 Tryz.underlying29 hf
  rw [cellsInt] at h0
  match cs, hl with
  | [u, v, t], _ =>
    obtain ⟨g, a, n, c, xs, hs, hr, hd⟩ := open_Intcs h0 (by simp)
    obtain ⟨b, m, e, ys, hs1, hr1, hd1⟩ := open_natcs h1
    rw [cellsNat] at hs1
    simp at hs hs1
    obtain ⟨rfl, rfl⟩ := hs
    subst hs1
    exact ⟨g, a, n, c, xs, b, m, e, ys, rfl, hr, hr1, ⟨hd, hd1⟩⟩
set_option maxRecDepth 100000 in
theorem open_termP {fuel : Nat} {cs : List Value} {x : DataW H × List MemPlace} (hf : DataW.trod enc Tryz.prog W 0 (fun _ => true) true fuel 33 cs = some x) : ∃ n1 n2 t, TmR W cs n1 n2 t := by
  cases fuel with
  | zero => simp [DataW.trod] at hf
  | succ fuel =>
  obtain ⟨xs, m, hm, rfl, hl, hlen, hfs⟩ := DataW.trod_struct Tryz.underlying33 hf
  rw [cellsTermP] at hl
  match cs, hl, xs, hlen with
  | [c0, c1, c2, c3], _, [y0, y1], _ =>
    have h0 := hfs 0 _ rfl
    have h1 := hfs 1 _ rfl
    clear hfs
    simp [cellsRat, cellsMonoP] at h0 h1
    obtain ⟨g, p1, n1, c1', xs, p2, n2, c2', ys, hr, hn, hd, hdg⟩ := open_ratP h0 rfl
    obtain ⟨pa, na, ca, zs, ha, hz⟩ := open_monoP h1
    simp at ha hr
    obtain ⟨rfl, rfl, rfl⟩ := hr
    subst ha
    exact ⟨n1, n2, (zs, mkRat (sg g (V 65536 xs)) (V 65536 ys)), g, p1, c1', p2, c2', pa, na, ca, xs, ys, rfl, hn, hd, hdg, hz, rfl⟩
theorem atP {a : Addr} {n k : Nat} {C : Nat → List Value} (hC : ∀ i, i < n → W.cells? 0 (a.add (i * k)) k = some (C i)) (hk : 0 < k) (i : Nat) (hi : i < n) : ∃ (b o : Nat), a = ⟨b, o, none⟩ ∧ (C i).length = k ∧ ∀ j (hj : j < (C i).length), W.cell? ⟨b, o + i * k + j, none⟩ = some (C i)[j] := by
  have h1 := hC i hi
  obtain ⟨_, e2, e3⟩ := World.cells?_some h1
  have h1z := hC 0 (by omega)
  obtain ⟨_, z2, z3⟩ := World.cells?_some h1z
  have hc0 : W.cell? ((a.add (0 * k)).add 0) = some ((C 0)[0]'(by omega)) := by rw [z3 0 (by omega), List.getElem?_eq_getElem (by omega)]
  have hsp := World.cell?_spot hc0
  obtain ⟨b, o, rfl⟩ : ∃ b o, a = ⟨b, o, none⟩ := ⟨a.block, a.off, by
    cases a with
    | mk b o s => simp [Addr.add] at hsp; simp [hsp]⟩
  refine ⟨b, o, rfl, e2, fun j hj => ?_⟩
  have := e3 j (by omega)
  rw [add_addr, add_addr, List.getElem?_eq_getElem (by omega)] at this
  exact this
set_option maxRecDepth 100000 in
/-- a slice of terms, by its type's number and what the type is -/
theorem open_termsP {T : TypeId} (hT : Tryz.prog.underlying T = some (.slice 33)) {fuel : Nat} {cs : List Value} {x : DataW H × List MemPlace} (hf : DataW.trod enc Tryz.prog W 0 (fun _ => true) true fuel T cs = some x) :
    ∃ (p : Option Addr) (n c : Nat) (P : List Tm) (N1 N2 : Nat → Nat), cs = [.slice p n c] ∧ IsR W p n c P N1 N2 := by
  rcases DataW.trod_slice hT hf with ⟨hcs, _⟩ | ⟨a, len, cap, elems, rest, n2, _, hcs, hx0, _, hl, hcap, hel, hat, _, _⟩
  · exact ⟨none, 0, 0, [], fun _ => 0, fun _ => 0, hcs, ⟨rfl, Nat.le_refl _, by omega, fun i hi => absurd hi (Nat.not_lt_zero i)⟩⟩
  · rw [cellsTermP] at hat
    have hone : ∀ i (hi : i < len), ∃ q : List Value × Nat × Nat × Tm, W.cells? 0 (a.add (i * 4)) 4 = some q.1 ∧ TmR W q.1 q.2.1 q.2.2.1 q.2.2.2 := by
      intro i hi
      have h := hat i hi
      rw [List.getElem?_eq_getElem (by omega), Option.bind_eq_some_iff] at h
      obtain ⟨ci, hc, ht⟩ := h
      obtain ⟨n1, n2, t, hs⟩ := open_termP ht
      exact ⟨(ci, n1, n2, t), hc, hs⟩
    obtain ⟨Q, hQ⟩ : ∃ Q : Nat → List Value × Nat × Nat × Tm, ∀ i (hi : i < len), W.cells? 0 (a.add (i * 4)) 4 = some (Q i).1 ∧ TmR W (Q i).1 (Q i).2.1 (Q i).2.2.1 (Q i).2.2.2 :=
      ⟨fun i => if hi : i < len then Classical.choose (hone i hi) else ([], 0, 0, ([], 0)), fun i hi => by
        dsimp only
        rw [dif_pos hi]
        exact Classical.choose_spec (hone i hi)⟩
    refine ⟨some a, len, cap, (List.range len).map fun i => (Q i).2.2.2, fun i => (Q i).2.1, fun i => (Q i).2.2.1, hcs, ⟨by simp, hl, by unfold maxLen at hcap; omega, fun i hi => ?_⟩⟩
    have hi' : i < len := by simpa using hi
    obtain ⟨b, o, ha, _, hc⟩ := atP (n := len) (fun i hi => (hQ i hi).1) (by omega) i hi'
    exact ⟨b, o, (Q i).1, by rw [ha], hc, by simpa using (hQ i hi').2⟩
end
end Go.Proofs.YtknmdmofmcfjhaaGreatDoor
