/-
  RatF Shift RefRoot RatG, in one text.
-/
import Derived.Test.YtgbfjneoieadmaaGreatDoorMrA
import Derived.Test.YtgbfjneoieadmaaGreatDoorRefDiv
import Derived.Deep.RegionHeld3
import Derived.IntWalk

set_option linter.unusedVariables false
set_option linter.unusedSimpArgs false
namespace Go.Proofs.YtgbfjneoieadmaaGreatDoor
open Go.RowKit Nm

theorem wholeR_any {w : World} (p : Option Addr) (n c : Nat) :
    Calls Tryz.prog 153 #[.slice p n c] w fun e w' => e = .returned (.agg #[.bool false, .slice p n c]) ∧ w.grownBy w' none := by
  go_enter Tryz.func153, Tryz.ntmps153
  go_wp2
  exact bodyPost_ret (v := .agg #[.bool false, .slice p n c]) (by simp [results, Tryz.results153, go_sem]) rfl ⟨rfl, World.grownBy_alloc w _ none⟩

/-- what a square root says: Z / W is the root of X / Y, or there is none -/
def SqSpec (X : Int) (Y : Nat) (Z : Int) (V : Nat) (ok : Bool) : Prop :=
  (ok = true ∧ 0 ≤ Z ∧ Z * Z = X ∧ V * V = Y) ∨ (ok = false ∧ Z = 0 ∧ V = 0 ∧ ¬ ∃ R S : Nat, (R : Int) * R = X ∧ S * S = Y)
theorem sq_lt {a b : Nat} (h : a < b) : a * a < b * b := Nat.mul_lt_mul'' h h
theorem sq_inj {a b : Nat} (h : a * a = b * b) : a = b := by
  rcases Nat.lt_trichotomy a b with h1 | h1 | h1
  · have := sq_lt h1; omega
  · exact h1
  · have := sq_lt h1; omega
theorem SqSpec.unique {X : Int} {Y : Nat} {Z Z' : Int} {V V' : Nat} {ok ok' : Bool} (h : SqSpec X Y Z V ok) (k : SqSpec X Y Z' V' ok') : Z = Z' ∧ V = V' ∧ ok = ok' := by
  rcases h with ⟨rfl, h1, h2, h3⟩ | ⟨rfl, rfl, rfl, h1⟩
  · rcases k with ⟨rfl, k1, k2, k3⟩ | ⟨rfl, rfl, rfl, k1⟩
    · refine ⟨?_, sq_inj (h3.trans k3.symm), rfl⟩
      obtain ⟨a, rfl⟩ := Int.eq_ofNat_of_zero_le h1
      obtain ⟨b, rfl⟩ := Int.eq_ofNat_of_zero_le k1
      have : a * a = b * b := by
        have := h2.trans k2.symm
        exact_mod_cast this
      rw [sq_inj this]
    · obtain ⟨a, rfl⟩ := Int.eq_ofNat_of_zero_le h1
      exact absurd ⟨a, V, h2, h3⟩ k1
  · rcases k with ⟨rfl, k1, k2, k3⟩ | ⟨rfl, rfl, rfl, k1⟩
    · obtain ⟨a, rfl⟩ := Int.eq_ofNat_of_zero_le k1
      exact absurd ⟨a, V', k2, k3⟩ h1
    · exact ⟨rfl, rfl, rfl⟩
theorem root_no {A R B : Nat} (h1 : R * R ≤ A) (h2 : A < (R + 1) * (R + 1)) (h : A - R * R ≠ 0) : B * B ≠ A := by
  intro e
  have l1 : R < B := by
    rcases Nat.lt_or_ge R B with h3 | h3
    · exact h3
    · have := Nat.mul_le_mul h3 h3; omega
  have := Nat.mul_le_mul (show R + 1 ≤ B by omega) (show R + 1 ≤ B by omega)
  omega
theorem SqSpec.neg {X : Int} {Y : Nat} (h : X < 0) : SqSpec X Y 0 0 false := by
  refine .inr ⟨rfl, rfl, rfl, ?_⟩
  rintro ⟨R, S, e, _⟩
  have := Int.mul_nonneg (show (0 : Int) ≤ R by omega) (show (0 : Int) ≤ R by omega)
  omega
theorem SqSpec.no1 {X : Int} {Y R : Nat} (h0 : 0 ≤ X) (h1 : R * R ≤ X.natAbs) (h2 : X.natAbs < (R + 1) * (R + 1)) (h : X.natAbs - R * R ≠ 0) : SqSpec X Y 0 0 false := by
  refine .inr ⟨rfl, rfl, rfl, ?_⟩
  rintro ⟨B, S, e, _⟩
  refine root_no (B := B) h1 h2 h ?_
  have : ((B * B : Nat) : Int) = X := by exact_mod_cast e
  omega
theorem SqSpec.no2 {X : Int} {Y R : Nat} (h1 : R * R ≤ Y) (h2 : Y < (R + 1) * (R + 1)) (h : Y - R * R ≠ 0) : SqSpec X Y 0 0 false := by
  refine .inr ⟨rfl, rfl, rfl, ?_⟩
  rintro ⟨B, S, _, e⟩
  exact root_no (B := S) h1 h2 h e
theorem SqSpec.yes {X : Int} {Y R S : Nat} (h0 : 0 ≤ X) (h1 : R * R ≤ X.natAbs) (h2 : X.natAbs - R * R = 0) (h3 : S * S ≤ Y) (h4 : Y - S * S = 0) : SqSpec X Y (R : Int) S true := by
  refine .inl ⟨rfl, by omega, ?_, by omega⟩
  have : ((R * R : Nat) : Int) = X := by omega
  exact_mod_cast this

/-- what Sqrt returns -/
def SqPost (w : World) (X : Int) (Y : Nat) (e : Ending) (w' : World) : Prop :=
  ∃ (g : Bool) (p : Option Addr) (n c : Nat) (q : Option Addr) (m d : Nat) (Z : Int) (V : Nat) (ok : Bool), e = .returned (.tuple #[.agg #[.bool g, .slice p n c, .slice q m d], .bool ok]) ∧ IsI w' g p n c Z ∧ IsC w' q m d V ∧ SqSpec X Y Z V ok ∧ w.grownBy w' none
theorem SqPost.close {w w5 : World} {G : Nat} {x : Bool} {y z : Option Addr} {a b e f : Nat} {T : TypeId} {g : Bool} {p q : Option Addr} {n c m d : Nat} {X : Int} {Y : Nat} {Z : Int} {V : Nat} {ok : Bool}
    (hW : w5.heap[G]? = some (.cells #[.bool x, .slice y a b, .slice z e f] T (0, 0))) (hG : w.heap.size ≤ G) (hg : w.grownBy w5 none) (h1 : IsI w5 g p n c Z) (h2 : IsC w5 q m d V) (hs : SqSpec X Y Z V ok) :
    SqPost w X Y (.returned (.tuple #[.agg #[.bool g, .slice p n c, .slice q m d], .bool ok])) (((w5.setCell ⟨G, 0, none⟩ (.bool g)).setCell ⟨G, 1, none⟩ (.slice p n c)).setCell ⟨G, 2, none⟩ (.slice q m d)) := by
  have hS := set3_grown w5 G (.bool g) (.slice p n c) (.slice q m d)
  exact ⟨g, p, n, c, q, m, d, Z, V, ok, rfl, ⟨IsC.other3 h1.1 hW hS, h1.2⟩, h2.other3 hW hS, hs, grown_new hg hS (fun g e => by cases e; exact hG)⟩
theorem IsI.nat {w : World} {p : Option Addr} {n c R : Nat} (h : IsC w p n c R) : IsI w false p n c (R : Int) := ⟨by simpa using h, by simp⟩

set_option maxRecDepth 20000 in
set_option maxHeartbeats 4000000 in
theorem ratSqrt_any {w : World} (T : Tb w) {g : Bool} {p q : Option Addr} {n c m d D : Nat} {N : Int} (hA : IsZ w g p n c N) (hB : IsN w q m d D) (hn : n ≤ 9000) (hm : m ≤ 9000) :
    Calls Tryz.prog 138 #[.agg #[.bool g, .slice p n c, .slice q m d]] w (SqPost w (rn (pn N D) (pd D)) (rd (pn N D) (pd D))) := by
  have hb2 := grown_trans (World.grownBy_alloc w (.cells #[.bool g, .slice p n c, .slice q m d] 27) none) (World.grownBy_alloc _ (.cells #[.bool false, .slice none 0 0, .slice none 0 0] 27) none)
  have HP := hid (parts_any (hA.keep hb2) (hB.keep hb2) (by omega) (by omega))
  have HPP := hid (pd_pos D)
  have HT := hid T
  unfold PtPost at HP
  clear hA hB T
  go_enter Tryz.func138, Tryz.ntmps138
  go_wp2_with fail
  refine HP.out.mono ?_
  rintro ee w1 ⟨g1, p1, n1, c1, q1, m1, d1, rfl, hN, hD, hn1, hm1, hg1⟩
  generalize pn N D = N1 at *
  generalize pd D = D1 at *
  go_wp2_with fail
  refine (lowest_any (HT.out.keep (grown_trans hb2 hg1)) hN hD HPP.out (by omega) (by omega)).mono ?_
  rintro ee w2 ⟨g2, p2, n2, c2, q2, m2, d2, rfl, h1, h2, hn2, hm2, hg2⟩
  generalize rn N1 D1 = X at *
  generalize rd N1 D1 = Y at *
  clear hN hD HP
  replace hg2 := grown_trans hg1 hg2
  have hg3 := grown_trans hg2 (World.grownBy_alloc w2 (.cells #[.bool g2, .slice p2 n2 c2, .slice q2 m2 d2] 27) none)
  have hba := heap_alloc_new w2 (.cells #[.bool g2, .slice p2 n2 c2, .slice q2 m2 d2] 27)
  have k1 := h1.keep (World.grownBy_alloc w2 (.cells #[.bool g2, .slice p2 n2 c2, .slice q2 m2 d2] 27) none)
  have k2 := h2.keep (World.grownBy_alloc w2 (.cells #[.bool g2, .slice p2 n2 c2, .slice q2 m2 d2] 27) none)
  obtain ⟨hC, hsg⟩ := k1
  have hbr := (hg3.block (w.heap.size + 1) (by simp) (by simp)).trans (second w _ _)
  cases g2
  case true =>
    have hX0 : X < 0 := by simpa using hsg.symm
    have hX := hid hX0
    clear hX0 hsg
    obtain ⟨l0, l1, l2, m0, m1', m2'⟩ := ratbox_facts hbr
    go_wp2_with fail
    exact bodyPost_ret (v := .tuple #[.agg #[.bool false, .slice none 0 0, .slice none 0 0], .bool false]) (by simp [results, Tryz.results138, go_sem, l0, l1, l2, m0, m1', m2']) rfl
      (SqPost.close hbr (by omega) (grown_trans hb2 hg3) ⟨IsC.nil _, by simp⟩ (IsC.nil _) (SqSpec.neg hX.out))
  case false =>
    have hX0 : 0 ≤ X := by
      have : ¬ X < 0 := by simpa using hsg.symm
      omega
    have hX := hid hX0
    clear hX0 hsg
    go_wp2_with fail
    refine (natSqrt_n hC.isN (by omega)).mono ?_
    rintro ee w4 ⟨R, p4, n4, c4, p5, n5, c5, rfl, r1, r2, h4, h5, hn4, hn5, hg4⟩
    replace r1 := hid r1; replace r2 := hid r2
    have y0 := hg4.cell (cell_of_row _ w2.heap.size 2 _ _ _ hba) (by simp)
    simp at y0
    replace k2 := k2.keep hg4
    have hb4 := (hg4.block (w.heap.size + 1) (lt_of_block hbr) (by simp)).trans hbr
    replace hg4 := grown_trans hg3 hg4
    clear hba hbr hg1 hg2 hg3
    go_wp2_with fail
    refine (natSqrt_n k2.isN (by omega)).mono ?_
    rintro ee w6 ⟨S, p6, n6, c6, p7, n7, c7, rfl, s1, s2, h6, h7, hn6, hn7, hg6⟩
    replace s1 := hid s1; replace s2 := hid s2
    replace h4 := h4.keep hg6
    replace h5 := h5.keep hg6
    have hb6 := (hg6.block (w.heap.size + 1) (lt_of_block hb4) (by simp)).trans hb4
    replace hg6 := grown_trans hg4 hg6
    have z5 := h5.zero_len
    have z7 := h7.zero_len
    clear hb4 hg4 y0 k2 hC
    by_cases e5 : n5 = 0
    · by_cases e7 : n7 = 0
      · have q5 : X.natAbs - R * R = 0 := by rcases z5 with ⟨_, h⟩ | ⟨h, _⟩ <;> omega
        have q7 : Y - S * S = 0 := by rcases z7 with ⟨_, h⟩ | ⟨h, _⟩ <;> omega
        have HSP := hid (SqSpec.yes hX.out r1.out q5 s1.out q7)
        clear q5 q7 z5 z7
        subst e5 e7
        go_wp2_with fail
        refine (wholeR_any p4 n4 c4).mono ?_
        rintro ee w8 ⟨rfl, hg8⟩
        replace h4 := h4.keep hg8
        replace h6 := h6.keep hg8
        have hb8 := (hg8.block (w.heap.size + 1) (lt_of_block hb6) (by simp)).trans hb6
        replace hg8 := grown_trans hg6 hg8
        obtain ⟨l0, l1, l2, m0, m1', m2'⟩ := ratbox_facts hb8
        go_wp2_with fail
        exact bodyPost_ret (v := .tuple #[.agg #[.bool false, .slice p4 n4 c4, .slice p6 n6 c6], .bool true]) (by simp [results, Tryz.results138, go_sem, l0, l1, l2, m0, m1', m2']) rfl
          (SqPost.close hb8 (by omega) (grown_trans hb2 hg8) (IsI.nat h4) h6 HSP.out)
      · have HSP : Hid (SqSpec X Y 0 0 false) := SqSpec.no2 s1.out s2.out (by rcases z7 with ⟨h, _⟩ | ⟨_, h⟩ <;> omega)
        subst e5
        obtain ⟨i, rfl⟩ : ∃ i, n7 = i + 1 := ⟨n7 - 1, by omega⟩
        clear z5 z7 e7
        obtain ⟨l0, l1, l2, m0, m1', m2'⟩ := ratbox_facts hb6
        have t7 : (0 : Int) < (i : Int) + 1 := by omega
        go_wp2_with fail
        exact bodyPost_ret (v := .tuple #[.agg #[.bool false, .slice none 0 0, .slice none 0 0], .bool false]) (by simp [results, Tryz.results138, go_sem, l0, l1, l2, m0, m1', m2']) rfl
          (SqPost.close hb6 (by omega) (grown_trans hb2 hg6) ⟨IsC.nil _, by simp⟩ (IsC.nil _) HSP.out)
    · have HSP : Hid (SqSpec X Y 0 0 false) := SqSpec.no1 hX.out r1.out r2.out (by rcases z5 with ⟨h, _⟩ | ⟨_, h⟩ <;> omega)
      obtain ⟨i, rfl⟩ : ∃ i, n5 = i + 1 := ⟨n5 - 1, by omega⟩
      clear z5 z7 e5
      obtain ⟨l0, l1, l2, m0, m1', m2'⟩ := ratbox_facts hb6
      have t7 : (0 : Int) < (i : Int) + 1 := by omega
      go_wp2_with fail
      exact bodyPost_ret (v := .tuple #[.agg #[.bool false, .slice none 0 0, .slice none 0 0], .bool false]) (by simp [results, Tryz.results138, go_sem, l0, l1, l2, m0, m1', m2']) rfl
        (SqPost.close hb6 (by omega) (grown_trans hb2 hg6) ⟨IsC.nil _, by simp⟩ (IsC.nil _) HSP.out)
end Go.Proofs.YtgbfjneoieadmaaGreatDoor

set_option linter.unusedVariables false
set_option linter.unusedSimpArgs false
namespace Go.Proofs.YtgbfjneoieadmaaGreatDoor
open Go.RowKit Nm

section
variable {w : World} {p : Option Addr} {n c N : Nat}



theorem refShift_out (z : Int) (h : z < -1048576 ∨ 1048576 < z) (hz : -9223372036854775808 ≤ z ∧ z ≤ 9223372036854775807) :
    Calls Tryz.prog 199 #[.slice p n c, .int .i64 z] w fun e w' => e = .returned (.slice none 0 0) ∧ w = w' := by
  rcases h with h | h
  · have h' : ¬ 1048576 < z := by omega
    go_enter Tryz.func199, Tryz.ntmps199
    go_wp2
    go_ret
    exact ⟨rfl, rfl⟩
  · go_enter Tryz.func199, Tryz.ntmps199
    go_wp2
    go_ret
    exact ⟨rfl, rfl⟩

theorem pow16 (r : Nat) (h : r < 16) : 2 ^ r < 65536 := Nat.lt_of_le_of_lt (Nat.pow_le_pow_right (by omega) (show r ≤ 15 by omega)) (by decide)

set_option maxHeartbeats 1000000 in
theorem refShift_up (s : Nat) (hA : IsN w p n c N) (hn : n ≤ 200000) (hs : s ≤ 1048576) :
    Calls Tryz.prog 199 #[.slice p n c, .int .i64 s] w fun e w' => ∃ p' n' c', e = .returned (.slice p' n' c') ∧ IsC w' p' n' c' (N * 2 ^ s) ∧ w.grownBy w' none := by
  have h1 : ¬ ((s : Int) < -1048576) := by omega
  have h2 : ¬ ((1048576 : Int) < (s : Int)) := by omega
  have h3 : (0 : Int) ≤ (s : Int) := by omega
  obtain ⟨q, hq⟩ : ∃ q, q = s / 16 := ⟨_, rfl⟩
  obtain ⟨r, hr⟩ : ∃ r, r = s % 16 := ⟨_, rfl⟩
  have hr16 : r < 16 := by omega
  have hqi : (s : Int) / 16 = (q : Int) := by omega
  have hri : (s : Int) % 16 = (r : Int) := by omega
  have hsq := hid (show s = 16 * q + r by omega)
  have hqb : q ≤ 65536 := by omega
  have hr0 : (0 : Int) ≤ (r : Int) := by omega
  obtain ⟨P, hP⟩ : ∃ P, P = 2 ^ r := ⟨_, rfl⟩
  have hPb : P < 65536 := by rw [hP]; exact pow16 r hr16
  have e1 : (2 : Int) ^ r = (P : Int) := by rw [hP]; simp
  have e2 : IntKind.u64.wrap (P : Int) = (P : Int) := wrap_in _ (by omega)
  have HP := hid hP
  clear hq hr hP
  go_enter Tryz.func199, Tryz.ntmps199
  go_wp2_with (at_make; refine wl_make _ rfl _ _ 23 rfl 112 .u16 2 Tryz.underlying23 (by kernel_rfl) _ _ _ _ rfl rfl q (by omega) (by omega) (by omega) (by omega) ?_; intro w1 hr1 hg1)
  refine (refOf_c P (by unfold W64; omega) _).mono ?_
  rintro e w2 ⟨p2, n2, c2, rfl, hO, hn2, hg2⟩
  go_wp2_with fail
  refine (refMul_n (hA.keep (grown_trans hg1 hg2)) hO.isN (by omega) (by omega)).mono ?_
  rintro e w3 ⟨p3, n3, c3, rfl, hM, hn3, hg3⟩
  have hrow := hr1.kept (grown_trans hg2 hg3) (by simp)
  have hgw := grown_trans hg1 (grown_trans hg2 hg3)
  have hown := IOwn.ofRow (base := w.heap.size) hrow (Nat.le_refl _) (by simp; omega)
  simp only [List.length_replicate] at hown
  have hMr : IRd w3 .u16 p3 n3 c3 (dg 65536 (N * P)) := hM
  have hsz := hgw.size
  clear hr1 hrow
  go_wp2_with (with_reducible refine wl_append _ rfl (.tmp 20) (.tmp 26) 23 rfl 112 .u16 2 Tryz.underlying23 info16 w.heap.size _ _ _ _ rfl hown _ n3 c3 _ rfl hMr (by omega) (by omega) w hgw (Nat.le_refl _) hsz ?_; intro p4 c4 w4 ho4 hg4)
  have hN4 : IsN w4 p4 (q + n3) c4 (N * 2 ^ s) := by
    refine ⟨_, ho4.rd, (Dg.zeros (by omega) _).append (Can_dg (by omega) _).1, ?_⟩
    rw [V_append, V_zeros, V_dg (by omega), List.length_replicate, HP.out, hsq.out, Nat.pow_add, Nat.pow_mul, show (2 : Nat) ^ 16 = 65536 from rfl, Nat.zero_add, Nat.mul_left_comm]
  refine (refNorm_n hN4 (by omega)).mono ?_
  rintro e w5 ⟨p5, n5, c5, rfl, hq5, hn5, hg5⟩
  go_wp2_with fail
  go_ret
  exact ⟨p5, n5, c5, rfl, hq5, grown_trans hg4 hg5⟩

set_option maxHeartbeats 1000000 in
theorem refShift_down (s : Nat) (z : Int) (hz : z = -(s : Int)) (hA : IsN w p n c N) (hn : n ≤ 200000) (hs0 : 1 ≤ s) (hs : s ≤ 1048576) :
    Calls Tryz.prog 199 #[.slice p n c, .int .i64 z] w fun e w' => ∃ p' n' c', e = .returned (.slice p' n' c') ∧ IsC w' p' n' c' (N / 2 ^ s) ∧ w.grownBy w' none := by
  have h1 : ¬ (z < -1048576) := by omega
  have h2 : ¬ ((1048576 : Int) < z) := by omega
  have h3 : ¬ (0 ≤ z) := by omega
  have e1 : -z = (s : Int) := by omega
  clear hz
  obtain ⟨q, hq⟩ : ∃ q, q = s / 16 := ⟨_, rfl⟩
  obtain ⟨r, hr⟩ : ∃ r, r = s % 16 := ⟨_, rfl⟩
  have hr16 : r < 16 := by omega
  have hqi : (s : Int) / 16 = (q : Int) := by omega
  have hri : (s : Int) % 16 = (r : Int) := by omega
  have hsq := hid (show s = 16 * q + r by omega)
  have hqb : q ≤ 65536 := by omega
  have hr0 : (0 : Int) ≤ (r : Int) := by omega
  obtain ⟨P, hP⟩ : ∃ P, P = 2 ^ r := ⟨_, rfl⟩
  have hPb : P < 65536 := by rw [hP]; exact pow16 r hr16
  have hPp : 0 < P := by rw [hP]; exact Nat.pow_pos (by omega)
  have e2 : (2 : Int) ^ r = (P : Int) := by rw [hP]; simp
  have e3 : IntKind.u64.wrap (P : Int) = (P : Int) := wrap_in _ (by omega)
  have HP := hid hP
  clear hq hr hP
  obtain ⟨us, ht, hd, rfl⟩ := hA
  have hcap := ht.cap
  have hmax := ht.max
  by_cases h0 : n ≤ q
  · have h0' : (n : Int) ≤ (q : Int) := by omega
    have e0 : V 65536 us / 2 ^ s = 0 := by
      refine Nat.div_eq_of_lt (Nat.lt_of_lt_of_le hd.lt ?_)
      rw [ht.len, hsq.out, show (65536 : Nat) = 2 ^ 16 from rfl, ← Nat.pow_mul]
      exact Nat.pow_le_pow_right (by omega) (by omega)
    rw [e0]
    clear e0
    go_enter Tryz.func199, Tryz.ntmps199
    go_wp2_with fail
    go_ret
    exact ⟨none, 0, 0, rfl, IsC.nil _, grown_refl _ _⟩
  · have h0' : ¬ (n : Int) ≤ (q : Int) := by omega
    obtain ⟨b, o, rfl, _⟩ := ht.cel 0 (by rw [ht.len]; omega)
    have hcut := ht.cut q n (c - q) (by omega) (by omega) (by omega) (by omega)
    rw [List.take_of_length_le (by rw [List.length_drop, ht.len]; omega)] at hcut
    have hcq : ¬ (c = q) := by omega
    have hqn : (q : Int) ≤ (n : Int) := by omega
    have hq00 : (0 : Int) ≤ (q : Int) := by omega
    have f1 : IntKind.i64.wrap (-z) = (s : Int) := by rw [e1]; exact IntWalk.i64_in _ (by omega)
    have f5 : IntKind.i64.wrap (s : Int) = (s : Int) := IntWalk.i64_in _ (by omega)
    have f2 : (s : Int).tdiv 16 = (q : Int) := by rw [Int.tdiv_eq_ediv_of_nonneg (by omega)]; exact hqi
    have f3 : (s : Int).tmod 16 = (r : Int) := by rw [Int.tmod_eq_emod_of_nonneg (by omega)]; exact hri
    have f4 : IntKind.i64.wrap (q : Int) = (q : Int) := IntWalk.i64_in _ (by omega)
    have hnc : (n : Int) ≤ (c : Int) := by omega
    have hvv : V 65536 us / 2 ^ s = V 65536 (us.drop q) / P := by
      rw [V_drop_eq us hd q (by rw [ht.len]; omega), Nat.div_div_eq_div_mul, hsq.out, Nat.pow_add, HP.out, show (65536 : Nat) = 2 ^ 16 from rfl, ← Nat.pow_mul]
    have hN : IsN w (some ⟨b, o + q, none⟩) (n - q) (c - q) (V 65536 (us.drop q)) := ⟨_, hcut, hd.drop q, rfl⟩
    rw [hvv]
    clear hvv hcut
    generalize V 65536 (us.drop q) = Q at *
    go_enter Tryz.func199, Tryz.ntmps199
    go_wp2_with fail
    go_region_held3 (fun w' => True) (trivial) (first
      | (go_at_call 77; (with_reducible refine (refOf_c P (by unfold W64; omega) _).mono ?_); rintro e w2 ⟨p2, n2, c2, rfl, hO, hn2, hg2⟩)
      | (go_at_call 119; (refine (refDivMod_n (hN.keep (grown_trans (grown_drew w none) hg2)) hO.isN (by omega) (by omega) hPp).mono ?_); rintro e w3 ⟨p3, n3, c3, p4, n4, c4, rfl, hq3, hq4, hn3, hn4, hg3⟩))
    all_goals
      go_wp2_with fail
      go_ret
      exact ⟨p3, n3, c3, rfl, hq3, grown_trans (grown_drew w none) (grown_trans hg2 hg3)⟩
end
end Go.Proofs.YtgbfjneoieadmaaGreatDoor

set_option linter.unusedVariables false
set_option linter.unusedSimpArgs false
namespace Go.Proofs.YtgbfjneoieadmaaGreatDoor
open Go.RowKit Nm

theorem refBits_n {w : World} {p : Option Addr} {n c N : Nat} (hA : IsN w p n c N) (hn : n ≤ 1000000) :
    Calls Tryz.prog 198 #[.slice p n c] w fun e w' => ∃ b : Nat, e = .returned (.int .i64 b) ∧ Hid (IsBits N b) ∧ w.grownBy w' none := by
  obtain ⟨L, h1, h2, rfl⟩ := hA
  exact refBits_any p n c L w h1 h2 hn

set_option maxHeartbeats 1000000 in
theorem refSqrt_n {w : World} {p : Option Addr} {n c N : Nat} (hA : IsN w p n c N) (hn : n ≤ 10000) :
    Calls Tryz.prog 171 #[.slice p n c] w fun e w' => ∃ (R : Nat) (p1 : Option Addr) (n1 c1 : Nat) (p2 : Option Addr) (n2 c2 : Nat), e = .returned (.tuple #[.slice p1 n1 c1, .slice p2 n2 c2]) ∧ R * R ≤ N ∧ N < (R + 1) * (R + 1) ∧
      IsC w' p1 n1 c1 R ∧ IsC w' p2 n2 c2 (N - R * R) ∧ w.grownBy w' none := by
  have HNL := hid hA.lt
  have HB := hid (refBits_n hA (by omega))
  go_enter Tryz.func171, Tryz.ntmps171
  go_wp2_with fail
  refine HB.out.mono ?_
  rintro e w1 ⟨b, rfl, HBB, hg1⟩
  replace hA := hA.keep hg1
  obtain ⟨half, hh⟩ : ∃ half, half = (b - 1) / 2 := ⟨_, rfl⟩
  have hb16 : b ≤ 16 * n ∧ N < 2 ^ (half + 1) * 2 ^ (half + 1) := by
    rcases HBB.out with ⟨h1, h2⟩ | ⟨h1, h2, h3⟩
    · refine ⟨by omega, ?_⟩
      rw [h1]; exact Nat.mul_pos (Nat.pow_pos (by omega)) (Nat.pow_pos (by omega))
    · constructor
      · have h4 := Nat.lt_of_le_of_lt h2 HNL.out
        rw [show (65536 : Nat) = 2 ^ 16 from rfl, ← Nat.pow_mul] at h4
        have := (Nat.pow_lt_pow_iff_right (by omega : 1 < 2)).1 h4
        omega
      · rw [← Nat.pow_add]
        exact Nat.lt_of_lt_of_le h3 (Nat.pow_le_pow_right (by omega) (by omega))
  have hd : ((b : Int) - 1).tdiv 2 = (half : Int) := by
    rcases Nat.eq_zero_or_pos b with h0 | h0
    · subst h0; rw [hh]; rfl
    · rw [Int.tdiv_eq_ediv_of_nonneg (by omega)]; omega
  have hwr : IntKind.i64.wrap (half : Int) = (half : Int) := IntWalk.i64_in _ (by omega)
  have hbb : (b : Int) ≤ 160000 := by omega
  have hhb : half ≤ 80000 := by omega
  have HS := hid hb16.2
  clear hb16 hh HB HBB
  go_wp2_with fail
  go_loopw [4, 5] (fun s4 s5 wr => ∃ (k R : Nat) (pr : Option Addr) (nr cr : Nat), k ≤ half + 1 ∧ s5 = .int .i64 ((k : Int) - 1) ∧ s4 = .slice pr nr cr ∧ IsC wr pr nr cr R ∧ w1.grownBy wr none ∧ Hid (R * R ≤ N ∧ N < (R + 2 ^ k) * (R + 2 ^ k))) (fun _ s5 _ => (intOf s5 + 1).toNat)
  case atStart => exact ⟨half + 1, 0, none, 0, 0, Nat.le_refl _, by congr 1; omega, rfl, IsC.nil _, grown_refl _ _, hid ⟨by simp, by rw [Nat.zero_add]; exact HS.out⟩⟩
  case round =>
    obtain ⟨k, R, pr, nr, cr, hk, rfl, rfl, hR, hgr, HC⟩ := hrel
    have hRN : R ≤ N := by
      rcases Nat.eq_zero_or_pos R with h0 | h0
      · omega
      · exact Nat.le_trans (Nat.le_mul_of_pos_right R h0) HC.out.1
    have hnr : nr ≤ n := hR.len_le (Nat.lt_of_le_of_lt hRN HNL.out)
    have hA' := hA.keep hgr
    by_cases h0 : 0 < k
    · obtain ⟨i, rfl⟩ : ∃ i, k = i + 1 := ⟨k - 1, by omega⟩
      have HRN := hid hRN
      clear hRN
      go_wp2_with fail
      refine (refOf_c 1 (by decide) _).mono ?_
      rintro e w2 ⟨p2, n2, c2, rfl, hO, hn2, hg2⟩
      have HSH := hid (refShift_up i hO.isN (by omega) (by omega))
      go_wp2_with fail
      refine HSH.out.mono ?_
      rintro e w3 ⟨p3, n3, c3, rfl, hS, hg3⟩
      rw [Nat.one_mul] at hS
      have hn3 : n3 ≤ i + 1 := hS.len_le (Nat.lt_of_lt_of_le (Nat.pow_lt_pow_right (by omega) (Nat.lt_succ_self i)) (Nat.pow_le_pow_left (by omega) _))
      have hg23 := grown_trans hg2 hg3
      replace hR := hR.keep hg23
      replace hA' := hA'.keep hg23
      replace hgr := grown_trans hgr hg23
      clear HSH hg2 hg3 hg23
      go_wp2_with fail
      refine (refAdd_n hR.isN hS.isN (by omega) (by omega)).mono ?_
      rintro e w4 ⟨p4, n4, c4, rfl, hX, hn4, hg4⟩
      replace hR := hR.keep hg4
      replace hA' := hA'.keep hg4
      replace hgr := grown_trans hgr hg4
      obtain ⟨X, hXe⟩ : ∃ X, X = R + 2 ^ i := ⟨_, rfl⟩
      rw [← hXe] at hX
      have hup : (R + 2 ^ (i + 1)) * (R + 2 ^ (i + 1)) = (X + 2 ^ i) * (X + 2 ^ i) := by rw [hXe, Nat.pow_succ]; congr 1 <;> omega
      have HUP := hid (And.intro hXe hup)
      clear hup hXe hg4
      go_wp2_with fail
      refine (refMul_n hX.isN hX.isN (by omega) (by omega)).mono ?_
      rintro e w5 ⟨p5, n5, c5, rfl, hM, hn5, hg5⟩
      replace hR := hR.keep hg5
      replace hA' := hA'.keep hg5
      replace hX := hX.keep hg5
      replace hgr := grown_trans hgr hg5
      go_wp2_with fail
      refine (refCmp_n hM.isN hA').mono ?_
      by_cases hle : X * X ≤ N
      · have hc : cmpI ((X * X : Nat) : Int) (N : Int) = -1 ∨ cmpI ((X * X : Nat) : Int) (N : Int) = 0 := by
          rcases Nat.lt_or_ge (X * X) N with h | h
          · exact .inl (cmpI_lt h)
          · right; rw [show X * X = N by omega, cmpI_eq]
        have HLE : Hid (X * X ≤ N ∧ N < (X + 2 ^ i) * (X + 2 ^ i)) := hid ⟨hle, by rw [← HUP.out.2]; exact HC.out.2⟩
        rcases hc with hc | hc <;> rw [hc] <;> clear hc hle
        all_goals
          rintro e w6 ⟨rfl, rfl⟩
          go_wp2_with fail
          exact ⟨⟨i, X, p4, n4, c4, by omega, by congr 1, rfl, hX, hgr, HLE⟩, by simp [intOf]⟩
      · have hc : cmpI ((X * X : Nat) : Int) (N : Int) = 1 := cmpI_gt (by omega)
        have HLE : Hid (R * R ≤ N ∧ N < (R + 2 ^ i) * (R + 2 ^ i)) := hid ⟨HC.out.1, by rw [← HUP.out.1]; omega⟩
        rw [hc]
        clear hc hle
        rintro e w6 ⟨rfl, rfl⟩
        go_wp2_with fail
        exact ⟨⟨i, R, pr, nr, cr, by omega, by congr 1, rfl, hR, hgr, HLE⟩, by simp [intOf]⟩
    · obtain rfl : k = 0 := by omega
      have hfin := HC.out
      rw [Nat.pow_zero] at hfin
      have HF := hid hfin
      clear hfin
      go_wp2_with fail
      refine (refMul_n hR.isN hR.isN (by omega) (by omega)).mono ?_
      rintro e w2 ⟨p2, n2, c2, rfl, hM, hn2, hg2⟩
      go_wp2_with fail
      refine (refSub_n (hA'.keep hg2) hM.isN (by omega) HF.out.1).mono ?_
      rintro e w3 ⟨p3, n3, c3, rfl, hS, hn3, hg3⟩
      go_wp2_with fail
      go_ret2
      exact ⟨R, pr, nr, cr, p3, n3, c3, rfl, HF.out.1, HF.out.2, hR.keep (grown_trans hg2 hg3), hS, grown_trans hg1 (grown_trans hgr (grown_trans hg2 hg3))⟩
end Go.Proofs.YtgbfjneoieadmaaGreatDoor

set_option linter.unusedVariables false
set_option linter.unusedSimpArgs false
namespace Go.Proofs.YtgbfjneoieadmaaGreatDoor
open Go.RowKit Nm

theorem wholeQ_any {w : World} (p : Option Addr) (n c : Nat) :
    Calls Tryz.prog 122 #[.slice p n c] w fun e w' => e = .returned (.agg #[.bool false, .slice p n c]) ∧ w.grownBy w' none := by
  go_enter Tryz.func122, Tryz.ntmps122
  go_wp2
  exact bodyPost_ret (v := .agg #[.bool false, .slice p n c]) (by simp [results, Tryz.results122, go_sem]) rfl ⟨rfl, World.grownBy_alloc w _ none⟩

set_option maxRecDepth 20000 in
set_option maxHeartbeats 4000000 in
theorem rSqrt3_any {w : World} {g : Bool} {p q : Option Addr} {n c m d D : Nat} {N : Int} (hA : IsZ w g p n c N) (hB : IsN w q m d D) (hn : n ≤ 9000) (hm : m ≤ 9000) :
    Calls Tryz.prog 139 #[.agg #[.bool g, .slice p n c, .slice q m d]] w (SqPost w (rn (pn N D) (pd D)) (rd (pn N D) (pd D))) := by
  have hb2 := grown_trans (World.grownBy_alloc w (.cells #[.bool g, .slice p n c, .slice q m d] 27) none) (World.grownBy_alloc _ (.cells #[.bool false, .slice none 0 0, .slice none 0 0] 27) none)
  have HP := hid (norm3_any (hA.keep hb2) (hB.keep hb2) (by omega) (by omega))
  unfold LPost at HP
  generalize rn (pn N D) (pd D) = X at *
  generalize rd (pn N D) (pd D) = Y at *
  clear hA hB
  go_enter Tryz.func139, Tryz.ntmps139
  go_wp2_with fail
  refine HP.out.mono ?_
  rintro ee w1 ⟨g1, p1, n1, c1, q1, m1, d1, rfl, h1, h2, hn1, hm1, hg1⟩
  have hb0 := (hg1.block w.heap.size (by simp; omega) (by simp)).trans (first_of w _ _)
  have hbz := (hg1.block (w.heap.size + 1) (by simp) (by simp)).trans (second w _ _)
  obtain ⟨l0, l1, l2, m0, m1', m2'⟩ := ratbox_facts hb0
  have hs := set3_grown w1 w.heap.size (.bool g1) (.slice p1 n1 c1) (.slice q1 m1 d1)
  have hbr := (hs.block (w.heap.size + 1) (lt_of_block hbz) (by simp)).trans hbz
  have k1 := hid (show IsI _ g1 p1 n1 c1 X from ⟨IsC.other3 h1.1 hb0 hs, h1.2⟩)
  have k2 := h2.other3 hb0 hs
  have hg3 := grown_new (grown_trans hb2 hg1) hs (fun g e => by cases e; exact Nat.le_refl _)
  have y0 : ((((w1.setCell ⟨w.heap.size, 0, none⟩ (.bool g1)).setCell ⟨w.heap.size, 1, none⟩ (.slice p1 n1 c1)).setCell ⟨w.heap.size, 2, none⟩ (.slice q1 m1 d1))).cell? ⟨w.heap.size, 0, none⟩ = some (.bool g1) := by simp [go_sem, l0, l1, l2, m0, m1', m2']
  have y2 : ((((w1.setCell ⟨w.heap.size, 0, none⟩ (.bool g1)).setCell ⟨w.heap.size, 1, none⟩ (.slice p1 n1 c1)).setCell ⟨w.heap.size, 2, none⟩ (.slice q1 m1 d1))).cell? ⟨w.heap.size, 2, none⟩ = some (.slice q1 m1 d1) := by simp [go_sem, l0, l1, l2, m0, m1', m2']
  have lz : w.heap.size < w1.heap.size := lt_of_block hb0
  clear HP h1 h2 hs hbz hb0
  go_wp2_with fail
  generalize (((w1.setCell ⟨w.heap.size, 0, none⟩ (.bool g1)).setCell ⟨w.heap.size, 1, none⟩ (.slice p1 n1 c1)).setCell ⟨w.heap.size, 2, none⟩ (.slice q1 m1 d1)) = w3 at *
  clear l0 l1 l2 m0 m1' m2' hg1
  obtain ⟨hC, hsg⟩ := k1.out
  replace hsg := hid hsg
  refine (refSqrt_n hC.isN (by omega)).mono ?_
  rintro ee w4 ⟨R, p4, n4, c4, p5, n5, c5, rfl, r1, r2, h4, h5, hg4⟩
  replace r1 := hid r1; replace r2 := hid r2
  replace k2 := k2.keep hg4
  replace y0 := hg4.cell y0 (by simp)
  replace y2 := hg4.cell y2 (by simp)
  have hb4 := (hg4.block (w.heap.size + 1) (lt_of_block hbr) (by simp)).trans hbr
  replace hg4 := grown_trans hg3 hg4
  clear hbr hg3 hC
  go_wp2_with fail
  refine (refSqrt_n k2.isN (by omega)).mono ?_
  rintro ee w6 ⟨S, p6, n6, c6, p7, n7, c7, rfl, s1, s2, h6, h7, hg6⟩
  replace s1 := hid s1; replace s2 := hid s2
  replace h4 := h4.keep hg6
  replace h5 := h5.keep hg6
  replace y0 := hg6.cell y0 (by simp)
  replace y2 := hg6.cell y2 (by simp)
  have hb6 := (hg6.block (w.heap.size + 1) (lt_of_block hb4) (by simp)).trans hb4
  replace hg6 := grown_trans hg4 hg6
  have z5 := h5.zero_len
  have z7 := h7.zero_len
  clear hb4 hg4 k2
  obtain ⟨l0, l1, l2, m0, m1', m2'⟩ := ratbox_facts hb6
  cases g1
  case true =>
    have HSP : Hid (SqSpec X Y 0 0 false) := SqSpec.neg (by simpa using hsg.out.symm)
    clear z5 z7
    go_wp2_with fail
    exact bodyPost_ret (v := .tuple #[.agg #[.bool false, .slice none 0 0, .slice none 0 0], .bool false]) (by simp [results, Tryz.results139, go_sem, l0, l1, l2, m0, m1', m2']) rfl
      (SqPost.close hb6 (by omega) hg6 ⟨IsC.nil _, by simp⟩ (IsC.nil _) HSP.out)
  case false =>
    have hX := hid (show 0 ≤ X from by have : ¬ X < 0 := by simpa using hsg.out.symm
                                       omega)
    by_cases e5 : n5 = 0
    · by_cases e7 : n7 = 0
      · have q5 : X.natAbs - R * R = 0 := by rcases z5 with ⟨_, h⟩ | ⟨h, _⟩ <;> omega
        have q7 : Y - S * S = 0 := by rcases z7 with ⟨_, h⟩ | ⟨h, _⟩ <;> omega
        have HSP := hid (SqSpec.yes hX.out r1.out q5 s1.out q7)
        clear q5 q7 z5 z7 l0 l1 l2 m0 m1' m2'
        subst e5 e7
        go_wp2_with fail
        refine (wholeQ_any p4 n4 c4).mono ?_
        rintro ee w8 ⟨rfl, hg8⟩
        replace h4 := h4.keep hg8
        replace h6 := h6.keep hg8
        have hb8 := (hg8.block (w.heap.size + 1) (lt_of_block hb6) (by simp)).trans hb6
        replace hg8 := grown_trans hg6 hg8
        obtain ⟨l0, l1, l2, m0, m1', m2'⟩ := ratbox_facts hb8
        go_wp2_with fail
        exact bodyPost_ret (v := .tuple #[.agg #[.bool false, .slice p4 n4 c4, .slice p6 n6 c6], .bool true]) (by simp [results, Tryz.results139, go_sem, l0, l1, l2, m0, m1', m2']) rfl
          (SqPost.close hb8 (by omega) hg8 (IsI.nat h4) h6 HSP.out)
      · have HSP : Hid (SqSpec X Y 0 0 false) := SqSpec.no2 s1.out s2.out (by rcases z7 with ⟨h, _⟩ | ⟨_, h⟩ <;> omega)
        subst e5
        obtain ⟨i, rfl⟩ : ∃ i, n7 = i + 1 := ⟨n7 - 1, by omega⟩
        clear z5 z7 e7
        have t7 : (0 : Int) < (i : Int) + 1 := by omega
        go_wp2_with fail
        exact bodyPost_ret (v := .tuple #[.agg #[.bool false, .slice none 0 0, .slice none 0 0], .bool false]) (by simp [results, Tryz.results139, go_sem, l0, l1, l2, m0, m1', m2']) rfl
          (SqPost.close hb6 (by omega) hg6 ⟨IsC.nil _, by simp⟩ (IsC.nil _) HSP.out)
    · have HSP : Hid (SqSpec X Y 0 0 false) := SqSpec.no1 hX.out r1.out r2.out (by rcases z5 with ⟨h, _⟩ | ⟨_, h⟩ <;> omega)
      obtain ⟨i, rfl⟩ : ∃ i, n5 = i + 1 := ⟨n5 - 1, by omega⟩
      clear z5 z7 e5
      have t7 : (0 : Int) < (i : Int) + 1 := by omega
      go_wp2_with fail
      exact bodyPost_ret (v := .tuple #[.agg #[.bool false, .slice none 0 0, .slice none 0 0], .bool false]) (by simp [results, Tryz.results139, go_sem, l0, l1, l2, m0, m1', m2']) rfl
        (SqPost.close hb6 (by omega) hg6 ⟨IsC.nil _, by simp⟩ (IsC.nil _) HSP.out)
end Go.Proofs.YtgbfjneoieadmaaGreatDoor
