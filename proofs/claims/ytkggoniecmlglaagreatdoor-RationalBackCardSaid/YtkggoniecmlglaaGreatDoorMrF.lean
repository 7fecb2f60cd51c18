/-
  RatF, in one text.
-/
import Derived.Test.YtkggoniecmlglaaGreatDoorMrA

set_option linter.unusedVariables false
set_option linter.unusedSimpArgs false
namespace Go.Proofs.YtkggoniecmlglaaGreatDoor
open Go.RowKit Nm

theorem wholeR_any {w : World} (p : Option Addr) (n c : Nat) :
    Calls Tryz.prog 24 #[.slice p n c] w fun e w' => e = .returned (.agg #[.bool false, .slice p n c]) ∧ w.grownBy w' none := by
  go_enter Tryz.func24, Tryz.ntmps24
  go_wp2
  exact bodyPost_ret (v := .agg #[.bool false, .slice p n c]) (by simp [results, Tryz.results24, go_sem]) rfl ⟨rfl, World.grownBy_alloc w _ none⟩

/-- what a square root says: Z / W is the root of X / Y, or there is none -/
def SqSpec (X : Int) (Y : Nat) (Z : Int) (V : Nat) (ok : Bool) : Prop :=
  (ok = true ∧ 0 ≤ Z ∧ Z * Z = X ∧ V * V = Y) ∨ (ok = false ∧ Z = 0 ∧ V = 0 ∧ ¬ ∃ R S : Nat, (R : Int) * R = X ∧ S * S = Y)
theorem sq_lt {a b : Nat} (h : a < b) : a * a < b * b := Nat.mul_lt_mul'' h h
theorem sq_inj {a b : Nat} (h : a * a = b * b) : a = b := by
  rcases Nat.lt_trichotomy a b with h1 | h1 | h1
  · have := sq_lt h1; omega
  · exact h1
  · have := sq_lt h1; omega
theorem SqSpec.unique {X : Int} {Y : Nat} {Z Z' : Int} {V V' : Nat} {ok ok' : Bool} (h : SqSpec X Y Z V ok) (k : SqSpec X Y Z' V' ok') : Z = Z' ∧ V = V' ∧ ok = ok' := by
  rcases h with ⟨rfl, h1, h2, h3⟩ | ⟨rfl, rfl, rfl, h1⟩
  · rcases k with ⟨rfl, k1, k2, k3⟩ | ⟨rfl, rfl, rfl, k1⟩
    · refine ⟨?_, sq_inj (h3.trans k3.symm), rfl⟩
      obtain ⟨a, rfl⟩ := Int.eq_ofNat_of_zero_le h1
      obtain ⟨b, rfl⟩ := Int.eq_ofNat_of_zero_le k1
      have : a * a = b * b := by
        have := h2.trans k2.symm
        exact_mod_cast this
      rw [sq_inj this]
    · obtain ⟨a, rfl⟩ := Int.eq_ofNat_of_zero_le h1
      exact absurd ⟨a, V, h2, h3⟩ k1
  · rcases k with ⟨rfl, k1, k2, k3⟩ | ⟨rfl, rfl, rfl, k1⟩
    · obtain ⟨a, rfl⟩ := Int.eq_ofNat_of_zero_le k1
      exact absurd ⟨a, V', k2, k3⟩ h1
    · exact ⟨rfl, rfl, rfl⟩
theorem root_no {A R B : Nat} (h1 : R * R ≤ A) (h2 : A < (R + 1) * (R + 1)) (h : A - R * R ≠ 0) : B * B ≠ A := by
  intro e
  have l1 : R < B := by
    rcases Nat.lt_or_ge R B with h3 | h3
    · exact h3
    · have := Nat.mul_le_mul h3 h3; omega
  have := Nat.mul_le_mul (show R + 1 ≤ B by omega) (show R + 1 ≤ B by omega)
  omega
theorem SqSpec.neg {X : Int} {Y : Nat} (h : X < 0) : SqSpec X Y 0 0 false := by
  refine .inr ⟨rfl, rfl, rfl, ?_⟩
  rintro ⟨R, S, e, _⟩
  have := Int.mul_nonneg (show (0 : Int) ≤ R by omega) (show (0 : Int) ≤ R by omega)
  omega
theorem SqSpec.no1 {X : Int} {Y R : Nat} (h0 : 0 ≤ X) (h1 : R * R ≤ X.natAbs) (h2 : X.natAbs < (R + 1) * (R + 1)) (h : X.natAbs - R * R ≠ 0) : SqSpec X Y 0 0 false := by
  refine .inr ⟨rfl, rfl, rfl, ?_⟩
  rintro ⟨B, S, e, _⟩
  refine root_no (B := B) h1 h2 h ?_
  have : ((B * B : Nat) : Int) = X := by exact_mod_cast e
  omega
theorem SqSpec.no2 {X : Int} {Y R : Nat} (h1 : R * R ≤ Y) (h2 : Y < (R + 1) * (R + 1)) (h : Y - R * R ≠ 0) : SqSpec X Y 0 0 false := by
  refine .inr ⟨rfl, rfl, rfl, ?_⟩
  rintro ⟨B, S, _, e⟩
  exact root_no (B := S) h1 h2 h e
theorem SqSpec.yes {X : Int} {Y R S : Nat} (h0 : 0 ≤ X) (h1 : R * R ≤ X.natAbs) (h2 : X.natAbs - R * R = 0) (h3 : S * S ≤ Y) (h4 : Y - S * S = 0) : SqSpec X Y (R : Int) S true := by
  refine .inl ⟨rfl, by omega, ?_, by omega⟩
  have : ((R * R : Nat) : Int) = X := by omega
  exact_mod_cast this

/-- what Sqrt returns -/
def SqPost (w : World) (X : Int) (Y : Nat) (e : Ending) (w' : World) : Prop :=
  ∃ (g : Bool) (p : Option Addr) (n c : Nat) (q : Option Addr) (m d : Nat) (Z : Int) (V : Nat) (ok : Bool), e = .returned (.tuple #[.agg #[.bool g, .slice p n c, .slice q m d], .bool ok]) ∧ IsI w' g p n c Z ∧ IsC w' q m d V ∧ SqSpec X Y Z V ok ∧ w.grownBy w' none
theorem SqPost.close {w w5 : World} {G : Nat} {x : Bool} {y z : Option Addr} {a b e f : Nat} {T : TypeId} {g : Bool} {p q : Option Addr} {n c m d : Nat} {X : Int} {Y : Nat} {Z : Int} {V : Nat} {ok : Bool}
    (hW : w5.heap[G]? = some (.cells #[.bool x, .slice y a b, .slice z e f] T (0, 0))) (hG : w.heap.size ≤ G) (hg : w.grownBy w5 none) (h1 : IsI w5 g p n c Z) (h2 : IsC w5 q m d V) (hs : SqSpec X Y Z V ok) :
    SqPost w X Y (.returned (.tuple #[.agg #[.bool g, .slice p n c, .slice q m d], .bool ok])) (((w5.setCell ⟨G, 0, none⟩ (.bool g)).setCell ⟨G, 1, none⟩ (.slice p n c)).setCell ⟨G, 2, none⟩ (.slice q m d)) := by
  have hS := set3_grown w5 G (.bool g) (.slice p n c) (.slice q m d)
  exact ⟨g, p, n, c, q, m, d, Z, V, ok, rfl, ⟨IsC.other3 h1.1 hW hS, h1.2⟩, h2.other3 hW hS, hs, grown_new hg hS (fun g e => by cases e; exact hG)⟩
theorem IsI.nat {w : World} {p : Option Addr} {n c R : Nat} (h : IsC w p n c R) : IsI w false p n c (R : Int) := ⟨by simpa using h, by simp⟩

set_option maxRecDepth 20000 in
set_option maxHeartbeats 4000000 in
theorem ratSqrt_any {w : World} (T : Tb w) {g : Bool} {p q : Option Addr} {n c m d D : Nat} {N : Int} (hA : IsZ w g p n c N) (hB : IsN w q m d D) (hn : n ≤ 9000) (hm : m ≤ 9000) :
    Calls Tryz.prog 12 #[.agg #[.bool g, .slice p n c, .slice q m d]] w (SqPost w (rn (pn N D) (pd D)) (rd (pn N D) (pd D))) := by
  have hb2 := grown_trans (World.grownBy_alloc w (.cells #[.bool g, .slice p n c, .slice q m d] 27) none) (World.grownBy_alloc _ (.cells #[.bool false, .slice none 0 0, .slice none 0 0] 27) none)
  have HP := hid (parts_any (hA.keep hb2) (hB.keep hb2) (by omega) (by omega))
  have HPP := hid (pd_pos D)
  have HT := hid T
  unfold PtPost at HP
  clear hA hB T
  go_enter Tryz.func12, Tryz.ntmps12
  go_wp2_with fail
  refine HP.out.mono ?_
  rintro ee w1 ⟨g1, p1, n1, c1, q1, m1, d1, rfl, hN, hD, hn1, hm1, hg1⟩
  generalize pn N D = N1 at *
  generalize pd D = D1 at *
  go_wp2_with fail
  refine (lowest_any (HT.out.keep (grown_trans hb2 hg1)) hN hD HPP.out (by omega) (by omega)).mono ?_
  rintro ee w2 ⟨g2, p2, n2, c2, q2, m2, d2, rfl, h1, h2, hn2, hm2, hg2⟩
  generalize rn N1 D1 = X at *
  generalize rd N1 D1 = Y at *
  clear hN hD HP
  replace hg2 := grown_trans hg1 hg2
  have hg3 := grown_trans hg2 (World.grownBy_alloc w2 (.cells #[.bool g2, .slice p2 n2 c2, .slice q2 m2 d2] 27) none)
  have hba := heap_alloc_new w2 (.cells #[.bool g2, .slice p2 n2 c2, .slice q2 m2 d2] 27)
  have k1 := h1.keep (World.grownBy_alloc w2 (.cells #[.bool g2, .slice p2 n2 c2, .slice q2 m2 d2] 27) none)
  have k2 := h2.keep (World.grownBy_alloc w2 (.cells #[.bool g2, .slice p2 n2 c2, .slice q2 m2 d2] 27) none)
  obtain ⟨hC, hsg⟩ := k1
  have hbr := (hg3.block (w.heap.size + 1) (by simp) (by simp)).trans (second w _ _)
  cases g2
  case true =>
    have hX0 : X < 0 := by simpa using hsg.symm
    have hX := hid hX0
    clear hX0 hsg
    obtain ⟨l0, l1, l2, m0, m1', m2'⟩ := ratbox_facts hbr
    go_wp2_with fail
    exact bodyPost_ret (v := .tuple #[.agg #[.bool false, .slice none 0 0, .slice none 0 0], .bool false]) (by simp [results, Tryz.results12, go_sem, l0, l1, l2, m0, m1', m2']) rfl
      (SqPost.close hbr (by omega) (grown_trans hb2 hg3) ⟨IsC.nil _, by simp⟩ (IsC.nil _) (SqSpec.neg hX.out))
  case false =>
    have hX0 : 0 ≤ X := by
      have : ¬ X < 0 := by simpa using hsg.symm
      omega
    have hX := hid hX0
    clear hX0 hsg
    go_wp2_with fail
    refine (natSqrt_n hC.isN (by omega)).mono ?_
    rintro ee w4 ⟨R, p4, n4, c4, p5, n5, c5, rfl, r1, r2, h4, h5, hn4, hn5, hg4⟩
    replace r1 := hid r1; replace r2 := hid r2
    have y0 := hg4.cell (cell_of_row _ w2.heap.size 2 _ _ _ hba) (by simp)
    simp at y0
    replace k2 := k2.keep hg4
    have hb4 := (hg4.block (w.heap.size + 1) (lt_of_block hbr) (by simp)).trans hbr
    replace hg4 := grown_trans hg3 hg4
    clear hba hbr hg1 hg2 hg3
    go_wp2_with fail
    refine (natSqrt_n k2.isN (by omega)).mono ?_
    rintro ee w6 ⟨S, p6, n6, c6, p7, n7, c7, rfl, s1, s2, h6, h7, hn6, hn7, hg6⟩
    replace s1 := hid s1; replace s2 := hid s2
    replace h4 := h4.keep hg6
    replace h5 := h5.keep hg6
    have hb6 := (hg6.block (w.heap.size + 1) (lt_of_block hb4) (by simp)).trans hb4
    replace hg6 := grown_trans hg4 hg6
    have z5 := h5.zero_len
    have z7 := h7.zero_len
    clear hb4 hg4 y0 k2 hC
    by_cases e5 : n5 = 0
    · by_cases e7 : n7 = 0
      · have q5 : X.natAbs - R * R = 0 := by rcases z5 with ⟨_, h⟩ | ⟨h, _⟩ <;> omega
        have q7 : Y - S * S = 0 := by rcases z7 with ⟨_, h⟩ | ⟨h, _⟩ <;> omega
        have HSP := hid (SqSpec.yes hX.out r1.out q5 s1.out q7)
        clear q5 q7 z5 z7
        subst e5 e7
        go_wp2_with fail
        refine (wholeR_any p4 n4 c4).mono ?_
        rintro ee w8 ⟨rfl, hg8⟩
        replace h4 := h4.keep hg8
        replace h6 := h6.keep hg8
        have hb8 := (hg8.block (w.heap.size + 1) (lt_of_block hb6) (by simp)).trans hb6
        replace hg8 := grown_trans hg6 hg8
        obtain ⟨l0, l1, l2, m0, m1', m2'⟩ := ratbox_facts hb8
        go_wp2_with fail
        exact bodyPost_ret (v := .tuple #[.agg #[.bool false, .slice p4 n4 c4, .slice p6 n6 c6], .bool true]) (by simp [results, Tryz.results12, go_sem, l0, l1, l2, m0, m1', m2']) rfl
          (SqPost.close hb8 (by omega) (grown_trans hb2 hg8) (IsI.nat h4) h6 HSP.out)
      · have HSP : Hid (SqSpec X Y 0 0 false) := SqSpec.no2 s1.out s2.out (by rcases z7 with ⟨h, _⟩ | ⟨_, h⟩ <;> omega)
        subst e5
        obtain ⟨i, rfl⟩ : ∃ i, n7 = i + 1 := ⟨n7 - 1, by omega⟩
        clear z5 z7 e7
        obtain ⟨l0, l1, l2, m0, m1', m2'⟩ := ratbox_facts hb6
        have t7 : (0 : Int) < (i : Int) + 1 := by omega
        go_wp2_with fail
        exact bodyPost_ret (v := .tuple #[.agg #[.bool false, .slice none 0 0, .slice none 0 0], .bool false]) (by simp [results, Tryz.results12, go_sem, l0, l1, l2, m0, m1', m2']) rfl
          (SqPost.close hb6 (by omega) (grown_trans hb2 hg6) ⟨IsC.nil _, by simp⟩ (IsC.nil _) HSP.out)
    · have HSP : Hid (SqSpec X Y 0 0 false) := SqSpec.no1 hX.out r1.out r2.out (by rcases z5 with ⟨h, _⟩ | ⟨_, h⟩ <;> omega)
      obtain ⟨i, rfl⟩ : ∃ i, n5 = i + 1 := ⟨n5 - 1, by omega⟩
      clear z5 z7 e5
      obtain ⟨l0, l1, l2, m0, m1', m2'⟩ := ratbox_facts hb6
      have t7 : (0 : Int) < (i : Int) + 1 := by omega
      go_wp2_with fail
      exact bodyPost_ret (v := .tuple #[.agg #[.bool false, .slice none 0 0, .slice none 0 0], .bool false]) (by simp [results, Tryz.results12, go_sem, l0, l1, l2, m0, m1', m2']) rfl
        (SqPost.close hb6 (by omega) (grown_trans hb2 hg6) ⟨IsC.nil _, by simp⟩ (IsC.nil _) HSP.out)
end Go.Proofs.YtkggoniecmlglaaGreatDoor
