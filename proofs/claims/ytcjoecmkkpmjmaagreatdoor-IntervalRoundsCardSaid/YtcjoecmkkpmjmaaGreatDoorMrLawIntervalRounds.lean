/-
  Whatever the arguments are, the Go function IntervalRounds returns true and leaves them as they are. Condition: the table deBruijn64tab of package math/bits holds what the program's text lays (the card ties it).
-/
import Derived.Test.YtcjoecmkkpmjmaaGreatDoorMrA
import Derived.Test.YtcjoecmkkpmjmaaGreatDoorMrI
import Derived.Test.YtcjoecmkkpmjmaaGreatDoorMrX
import Derived.Test.YtcjoecmkkpmjmaaGreatDoorMrS
import Derived.Test.YtcjoecmkkpmjmaaGreatDoorMrH
import Derived.Test.YtcjoecmkkpmjmaaGreatDoorMrE

set_option linter.unusedVariables false
set_option linter.unusedSimpArgs false
namespace Go.Proofs.YtcjoecmkkpmjmaaGreatDoor
open Go.RowKit Nm

theorem wholeR_any {w : World} (p : Option Addr) (n c : Nat) :
    Calls Tryz.prog 68 #[.slice p n c] w fun e w' => e = .returned (.agg #[.bool false, .slice p n c]) ∧ w.grownBy w' none := by
  go_enter Tryz.func68, Tryz.ntmps68
  go_wp2
  exact bodyPost_ret (v := .agg #[.bool false, .slice p n c]) (by simp [results, Tryz.results68, go_sem]) rfl ⟨rfl, World.grownBy_alloc w _ none⟩

/-- what a square root says: Z / W is the root of X / Y, or there is none -/
def SqSpec (X : Int) (Y : Nat) (Z : Int) (V : Nat) (ok : Bool) : Prop :=
  (ok = true ∧ 0 ≤ Z ∧ Z * Z = X ∧ V * V = Y) ∨ (ok = false ∧ Z = 0 ∧ V = 0 ∧ ¬ ∃ R S : Nat, (R : Int) * R = X ∧ S * S = Y)
theorem sq_lt {a b : Nat} (h : a < b) : a * a < b * b := Nat.mul_lt_mul'' h h
theorem sq_inj {a b : Nat} (h : a * a = b * b) : a = b := by
  rcases Nat.lt_trichotomy a b with h1 | h1 | h1
  · have := sq_lt h1; omega
  · exact h1
  · have := sq_lt h1; omega
theorem SqSpec.unique {X : Int} {Y : Nat} {Z Z' : Int} {V V' : Nat} {ok ok' : Bool} (h : SqSpec X Y Z V ok) (k : SqSpec X Y Z' V' ok') : Z = Z' ∧ V = V' ∧ ok = ok' := by
  rcases h with ⟨rfl, h1, h2, h3⟩ | ⟨rfl, rfl, rfl, h1⟩
  · rcases k with ⟨rfl, k1, k2, k3⟩ | ⟨rfl, rfl, rfl, k1⟩
    · refine ⟨?_, sq_inj (h3.trans k3.symm), rfl⟩
      obtain ⟨a, rfl⟩ := Int.eq_ofNat_of_zero_le h1
      obtain ⟨b, rfl⟩ := Int.eq_ofNat_of_zero_le k1
      have : a * a = b * b := by
        have := h2.trans k2.symm
        exact_mod_cast this
      rw [sq_inj this]
    · obtain ⟨a, rfl⟩ := Int.eq_ofNat_of_zero_le h1
      exact absurd ⟨a, V, h2, h3⟩ k1
  · rcases k with ⟨rfl, k1, k2, k3⟩ | ⟨rfl, rfl, rfl, k1⟩
    · obtain ⟨a, rfl⟩ := Int.eq_ofNat_of_zero_le k1
      exact absurd ⟨a, V', k2, k3⟩ h1
    · exact ⟨rfl, rfl, rfl⟩
theorem root_no {A R B : Nat} (h1 : R * R ≤ A) (h2 : A < (R + 1) * (R + 1)) (h : A - R * R ≠ 0) : B * B ≠ A := by
  intro e
  have l1 : R < B := by
    rcases Nat.lt_or_ge R B with h3 | h3
    · exact h3
    · have := Nat.mul_le_mul h3 h3; omega
  have := Nat.mul_le_mul (show R + 1 ≤ B by omega) (show R + 1 ≤ B by omega)
  omega
theorem SqSpec.neg {X : Int} {Y : Nat} (h : X < 0) : SqSpec X Y 0 0 false := by
  refine .inr ⟨rfl, rfl, rfl, ?_⟩
  rintro ⟨R, S, e, _⟩
  have := Int.mul_nonneg (show (0 : Int) ≤ R by omega) (show (0 : Int) ≤ R by omega)
  omega
theorem SqSpec.no1 {X : Int} {Y R : Nat} (h0 : 0 ≤ X) (h1 : R * R ≤ X.natAbs) (h2 : X.natAbs < (R + 1) * (R + 1)) (h : X.natAbs - R * R ≠ 0) : SqSpec X Y 0 0 false := by
  refine .inr ⟨rfl, rfl, rfl, ?_⟩
  rintro ⟨B, S, e, _⟩
  refine root_no (B := B) h1 h2 h ?_
  have : ((B * B : Nat) : Int) = X := by exact_mod_cast e
  omega
theorem SqSpec.no2 {X : Int} {Y R : Nat} (h1 : R * R ≤ Y) (h2 : Y < (R + 1) * (R + 1)) (h : Y - R * R ≠ 0) : SqSpec X Y 0 0 false := by
  refine .inr ⟨rfl, rfl, rfl, ?_⟩
  rintro ⟨B, S, _, e⟩
  exact root_no (B := S) h1 h2 h e
theorem SqSpec.yes {X : Int} {Y R S : Nat} (h0 : 0 ≤ X) (h1 : R * R ≤ X.natAbs) (h2 : X.natAbs - R * R = 0) (h3 : S * S ≤ Y) (h4 : Y - S * S = 0) : SqSpec X Y (R : Int) S true := by
  refine .inl ⟨rfl, by omega, ?_, by omega⟩
  have : ((R * R : Nat) : Int) = X := by omega
  exact_mod_cast this

/-- what Sqrt returns -/
def SqPost (w : World) (X : Int) (Y : Nat) (e : Ending) (w' : World) : Prop :=
  ∃ (g : Bool) (p : Option Addr) (n c : Nat) (q : Option Addr) (m d : Nat) (Z : Int) (V : Nat) (ok : Bool), e = .returned (.tuple #[.agg #[.bool g, .slice p n c, .slice q m d], .bool ok]) ∧ IsI w' g p n c Z ∧ IsC w' q m d V ∧ SqSpec X Y Z V ok ∧ w.grownBy w' none
theorem SqPost.close {w w5 : World} {G : Nat} {x : Bool} {y z : Option Addr} {a b e f : Nat} {T : TypeId} {g : Bool} {p q : Option Addr} {n c m d : Nat} {X : Int} {Y : Nat} {Z : Int} {V : Nat} {ok : Bool}
    (hW : w5.heap[G]? = some (.cells #[.bool x, .slice y a b, .slice z e f] T (0, 0))) (hG : w.heap.size ≤ G) (hg : w.grownBy w5 none) (h1 : IsI w5 g p n c Z) (h2 : IsC w5 q m d V) (hs : SqSpec X Y Z V ok) :
    SqPost w X Y (.returned (.tuple #[.agg #[.bool g, .slice p n c, .slice q m d], .bool ok])) (((w5.setCell ⟨G, 0, none⟩ (.bool g)).setCell ⟨G, 1, none⟩ (.slice p n c)).setCell ⟨G, 2, none⟩ (.slice q m d)) := by
  have hS := set3_grown w5 G (.bool g) (.slice p n c) (.slice q m d)
  exact ⟨g, p, n, c, q, m, d, Z, V, ok, rfl, ⟨IsC.other3 h1.1 hW hS, h1.2⟩, h2.other3 hW hS, hs, grown_new hg hS (fun g e => by cases e; exact hG)⟩
theorem IsI.nat {w : World} {p : Option Addr} {n c R : Nat} (h : IsC w p n c R) : IsI w false p n c (R : Int) := ⟨by simpa using h, by simp⟩

end Go.Proofs.YtcjoecmkkpmjmaaGreatDoor

set_option linter.unusedVariables false
set_option linter.unusedSimpArgs false
namespace Go.Proofs.YtcjoecmkkpmjmaaGreatDoor
open Go.RowKit Nm

theorem refBits_n {w : World} {p : Option Addr} {n c N : Nat} (hA : IsN w p n c N) (hn : n ≤ 1000000) :
    Calls Tryz.prog 139 #[.slice p n c] w fun e w' => ∃ b : Nat, e = .returned (.int .i64 b) ∧ Hid (IsBits N b) ∧ w.grownBy w' none := by
  obtain ⟨L, h1, h2, rfl⟩ := hA
  exact refBits_any p n c L w h1 h2 hn

set_option maxHeartbeats 1000000 in
theorem refSqrt_n {w : World} {p : Option Addr} {n c N : Nat} (hA : IsN w p n c N) (hn : n ≤ 10000) :
    Calls Tryz.prog 97 #[.slice p n c] w fun e w' => ∃ (R : Nat) (p1 : Option Addr) (n1 c1 : Nat) (p2 : Option Addr) (n2 c2 : Nat), e = .returned (.tuple #[.slice p1 n1 c1, .slice p2 n2 c2]) ∧ R * R ≤ N ∧ N < (R + 1) * (R + 1) ∧
      IsC w' p1 n1 c1 R ∧ IsC w' p2 n2 c2 (N - R * R) ∧ w.grownBy w' none := by
  have HNL := hid hA.lt
  have HB := hid (refBits_n hA (by omega))
  go_enter Tryz.func97, Tryz.ntmps97
  go_wp2_with fail
  refine HB.out.mono ?_
  rintro e w1 ⟨b, rfl, HBB, hg1⟩
  replace hA := hA.keep hg1
  obtain ⟨half, hh⟩ : ∃ half, half = (b - 1) / 2 := ⟨_, rfl⟩
  have hb16 : b ≤ 16 * n ∧ N < 2 ^ (half + 1) * 2 ^ (half + 1) := by
    rcases HBB.out with ⟨h1, h2⟩ | ⟨h1, h2, h3⟩
    · refine ⟨by omega, ?_⟩
      rw [h1]; exact Nat.mul_pos (Nat.pow_pos (by omega)) (Nat.pow_pos (by omega))
    · constructor
      · have h4 := Nat.lt_of_le_of_lt h2 HNL.out
        rw [show (65536 : Nat) = 2 ^ 16 from rfl, ← Nat.pow_mul] at h4
        have := (Nat.pow_lt_pow_iff_right (by omega : 1 < 2)).1 h4
        omega
      · rw [← Nat.pow_add]
        exact Nat.lt_of_lt_of_le h3 (Nat.pow_le_pow_right (by omega) (by omega))
  have hd : ((b : Int) - 1).tdiv 2 = (half : Int) := by
    rcases Nat.eq_zero_or_pos b with h0 | h0
    · subst h0; rw [hh]; rfl
    · rw [Int.tdiv_eq_ediv_of_nonneg (by omega)]; omega
  have hwr : IntKind.i64.wrap (half : Int) = (half : Int) := IntWalk.i64_in _ (by omega)
  have hbb : (b : Int) ≤ 160000 := by omega
  have hhb : half ≤ 80000 := by omega
  have HS := hid hb16.2
  clear hb16 hh HB HBB
  go_wp2_with fail
  go_loopw [4, 5] (fun s4 s5 wr => ∃ (k R : Nat) (pr : Option Addr) (nr cr : Nat), k ≤ half + 1 ∧ s5 = .int .i64 ((k : Int) - 1) ∧ s4 = .slice pr nr cr ∧ IsC wr pr nr cr R ∧ w1.grownBy wr none ∧ Hid (R * R ≤ N ∧ N < (R + 2 ^ k) * (R + 2 ^ k))) (fun _ s5 _ => (intOf s5 + 1).toNat)
  case atStart => exact ⟨half + 1, 0, none, 0, 0, Nat.le_refl _, by congr 1; omega, rfl, IsC.nil _, grown_refl _ _, hid ⟨by simp, by rw [Nat.zero_add]; exact HS.out⟩⟩
  case round =>
    obtain ⟨k, R, pr, nr, cr, hk, rfl, rfl, hR, hgr, HC⟩ := hrel
    have hRN : R ≤ N := by
      rcases Nat.eq_zero_or_pos R with h0 | h0
      · omega
      · exact Nat.le_trans (Nat.le_mul_of_pos_right R h0) HC.out.1
    have hnr : nr ≤ n := hR.len_le (Nat.lt_of_le_of_lt hRN HNL.out)
    have hA' := hA.keep hgr
    by_cases h0 : 0 < k
    · obtain ⟨i, rfl⟩ : ∃ i, k = i + 1 := ⟨k - 1, by omega⟩
      have HRN := hid hRN
      clear hRN
      go_wp2_with fail
      refine (refOf_c 1 (by decide) _).mono ?_
      rintro e w2 ⟨p2, n2, c2, rfl, hO, hn2, hg2⟩
      have HSH := hid (refShift_up i hO.isN (by omega) (by omega))
      go_wp2_with fail
      refine HSH.out.mono ?_
      rintro e w3 ⟨p3, n3, c3, rfl, hS, hg3⟩
      rw [Nat.one_mul] at hS
      have hn3 : n3 ≤ i + 1 := hS.len_le (Nat.lt_of_lt_of_le (Nat.pow_lt_pow_right (by omega) (Nat.lt_succ_self i)) (Nat.pow_le_pow_left (by omega) _))
      have hg23 := grown_trans hg2 hg3
      replace hR := hR.keep hg23
      replace hA' := hA'.keep hg23
      replace hgr := grown_trans hgr hg23
      clear HSH hg2 hg3 hg23
      go_wp2_with fail
      refine (refAdd_n hR.isN hS.isN (by omega) (by omega)).mono ?_
      rintro e w4 ⟨p4, n4, c4, rfl, hX, hn4, hg4⟩
      replace hR := hR.keep hg4
      replace hA' := hA'.keep hg4
      replace hgr := grown_trans hgr hg4
      obtain ⟨X, hXe⟩ : ∃ X, X = R + 2 ^ i := ⟨_, rfl⟩
      rw [← hXe] at hX
      have hup : (R + 2 ^ (i + 1)) * (R + 2 ^ (i + 1)) = (X + 2 ^ i) * (X + 2 ^ i) := by rw [hXe, Nat.pow_succ]; congr 1 <;> omega
      have HUP := hid (And.intro hXe hup)
      clear hup hXe hg4
      go_wp2_with fail
      refine (refMul_n hX.isN hX.isN (by omega) (by omega)).mono ?_
      rintro e w5 ⟨p5, n5, c5, rfl, hM, hn5, hg5⟩
      replace hR := hR.keep hg5
      replace hA' := hA'.keep hg5
      replace hX := hX.keep hg5
      replace hgr := grown_trans hgr hg5
      go_wp2_with fail
      refine (refCmp_n hM.isN hA').mono ?_
      by_cases hle : X * X ≤ N
      · have hc : cmpI ((X * X : Nat) : Int) (N : Int) = -1 ∨ cmpI ((X * X : Nat) : Int) (N : Int) = 0 := by
          rcases Nat.lt_or_ge (X * X) N with h | h
          · exact .inl (cmpI_lt h)
          · right; rw [show X * X = N by omega, cmpI_eq]
        have HLE : Hid (X * X ≤ N ∧ N < (X + 2 ^ i) * (X + 2 ^ i)) := hid ⟨hle, by rw [← HUP.out.2]; exact HC.out.2⟩
        rcases hc with hc | hc <;> rw [hc] <;> clear hc hle
        all_goals
          rintro e w6 ⟨rfl, rfl⟩
          go_wp2_with fail
          exact ⟨⟨i, X, p4, n4, c4, by omega, by congr 1, rfl, hX, hgr, HLE⟩, by simp [intOf]⟩
      · have hc : cmpI ((X * X : Nat) : Int) (N : Int) = 1 := cmpI_gt (by omega)
        have HLE : Hid (R * R ≤ N ∧ N < (R + 2 ^ i) * (R + 2 ^ i)) := hid ⟨HC.out.1, by rw [← HUP.out.1]; omega⟩
        rw [hc]
        clear hc hle
        rintro e w6 ⟨rfl, rfl⟩
        go_wp2_with fail
        exact ⟨⟨i, R, pr, nr, cr, by omega, by congr 1, rfl, hR, hgr, HLE⟩, by simp [intOf]⟩
    · obtain rfl : k = 0 := by omega
      have hfin := HC.out
      rw [Nat.pow_zero] at hfin
      have HF := hid hfin
      clear hfin
      go_wp2_with fail
      refine (refMul_n hR.isN hR.isN (by omega) (by omega)).mono ?_
      rintro e w2 ⟨p2, n2, c2, rfl, hM, hn2, hg2⟩
      go_wp2_with fail
      refine (refSub_n (hA'.keep hg2) hM.isN (by omega) HF.out.1).mono ?_
      rintro e w3 ⟨p3, n3, c3, rfl, hS, hn3, hg3⟩
      go_wp2_with fail
      go_ret2
      exact ⟨R, pr, nr, cr, p3, n3, c3, rfl, HF.out.1, HF.out.2, hR.keep (grown_trans hg2 hg3), hS, grown_trans hg1 (grown_trans hgr (grown_trans hg2 hg3))⟩
end Go.Proofs.YtcjoecmkkpmjmaaGreatDoor

set_option linter.unusedVariables false
set_option linter.unusedSimpArgs false
namespace Go.Proofs.YtcjoecmkkpmjmaaGreatDoor
open Go.RowKit Nm

theorem wholeQ_any {w : World} (p : Option Addr) (n c : Nat) :
    Calls Tryz.prog 83 #[.slice p n c] w fun e w' => e = .returned (.agg #[.bool false, .slice p n c]) ∧ w.grownBy w' none := by
  go_enter Tryz.func83, Tryz.ntmps83
  go_wp2
  exact bodyPost_ret (v := .agg #[.bool false, .slice p n c]) (by simp [results, Tryz.results83, go_sem]) rfl ⟨rfl, World.grownBy_alloc w _ none⟩

end Go.Proofs.YtcjoecmkkpmjmaaGreatDoor

set_option linter.unusedVariables false
set_option linter.unusedSimpArgs false
namespace Go.Proofs.YtcjoecmkkpmjmaaGreatDoor
open Go.RowKit Nm

theorem rd_pos {N : Int} {D : Nat} (h : 0 < D) : 0 < rd N D := Nat.div_pos (Nat.le_of_dvd h (Nat.gcd_dvd_right _ _)) (Nat.gcd_pos_of_pos_right _ h)
theorem sg_mul (b : Bool) (k x : Nat) : sg b (k * x) = (k : Int) * sg b x := by
  cases b
  · simp [sg]
  · simp [sg, Int.mul_neg]
theorem rn_mul (N : Int) (D : Nat) : N = (Nat.gcd N.natAbs D : Int) * rn N D := by
  unfold rn
  rw [← sg_mul, Nat.mul_div_cancel' (Nat.gcd_dvd_left _ _), sg_self]
theorem rd_mul (N : Int) (D : Nat) : (D : Int) = (Nat.gcd N.natAbs D : Int) * (rd N D : Int) := by
  unfold rd
  rw [← Int.natCast_mul, Nat.mul_div_cancel' (Nat.gcd_dvd_right _ _)]
theorem floor_red {N : Int} {D : Nat} (h : 0 < D) : rn N D / (rd N D : Int) = N / (D : Int) := by
  have hg : 0 < Nat.gcd N.natAbs D := Nat.gcd_pos_of_pos_right _ h
  have e := Int.mul_ediv_mul_of_pos (rn N D) (rd N D : Int) (show (0 : Int) < (Nat.gcd N.natAbs D : Int) by omega)
  rw [← rn_mul, ← rd_mul] at e
  exact e.symm

set_option maxRecDepth 100000 in
set_option maxHeartbeats 8000000 in
theorem rFloor3_any {w : World} {g : Bool} {p q : Option Addr} {n c m d D : Nat} {N : Int} (hA : IsZ w g p n c N) (hB : IsN w q m d D) (hn : n ≤ 9000) (hm : m ≤ 9000) :
    Calls Tryz.prog 39 #[.agg #[.bool g, .slice p n c, .slice q m d]] w (IPost w (pn N D / (pd D : Int)) (n + 6)) := by
  have hb2 := grown_trans (World.grownBy_alloc w (.cells #[.bool g, .slice p n c, .slice q m d] 27) none) (World.grownBy_alloc _ (.cells #[.bool false, .slice none 0 0] 25) none)
  have HP := hid (norm3_any (hA.keep hb2) (hB.keep hb2) (by omega) (by omega))
  unfold LPost at HP
  have HPP := hid (rd_pos (N := pn N D) (pd_pos D))
  rw [← floor_red (pd_pos D)]
  generalize rn (pn N D) (pd D) = X at *
  generalize rd (pn N D) (pd D) = Y at *
  clear hA hB
  go_enter Tryz.func39, Tryz.ntmps39
  go_upto_region 2 with (go_at_call 81; (with_reducible refine HP.out.mono ?_); rintro ee w1 ⟨g1, p1, n1, c1, q1, m1, d1, rfl, h1, h2, hn1, hm1, hg1⟩; have hb0 := (hg1.block w.heap.size (by simp; omega) (by simp)).trans (first_of w _ _); obtain ⟨l0, l1, l2, m0, m1', m2'⟩ := ratbox_facts hb0)
  have hbz := (hg1.block (w.heap.size + 1) (by simp) (by simp)).trans (second w _ _)
  have hs := set3_grown w1 w.heap.size (.bool g1) (.slice p1 n1 c1) (.slice q1 m1 d1)
  have hbr := (hs.block (w.heap.size + 1) (lt_of_block hbz) (by simp)).trans hbz
  have k1 := hid (show IsI _ g1 p1 n1 c1 X from ⟨IsC.other3 h1.1 hb0 hs, h1.2⟩)
  have k2 := h2.other3 hb0 hs
  have hg3 := grown_new (grown_trans hb2 hg1) hs (fun g e => by cases e; exact Nat.le_refl _)
  have y0 : ((((w1.setCell ⟨w.heap.size, 0, none⟩ (.bool g1)).setCell ⟨w.heap.size, 1, none⟩ (.slice p1 n1 c1)).setCell ⟨w.heap.size, 2, none⟩ (.slice q1 m1 d1))).cell? ⟨w.heap.size, 0, none⟩ = some (.bool g1) := by simp [go_sem, l0, l1, l2, m0, m1', m2']
  have y1 : ((((w1.setCell ⟨w.heap.size, 0, none⟩ (.bool g1)).setCell ⟨w.heap.size, 1, none⟩ (.slice p1 n1 c1)).setCell ⟨w.heap.size, 2, none⟩ (.slice q1 m1 d1))).cell? ⟨w.heap.size, 1, none⟩ = some (.slice p1 n1 c1) := by simp [go_sem, l0, l1, l2, m0, m1', m2']
  have y2 : ((((w1.setCell ⟨w.heap.size, 0, none⟩ (.bool g1)).setCell ⟨w.heap.size, 1, none⟩ (.slice p1 n1 c1)).setCell ⟨w.heap.size, 2, none⟩ (.slice q1 m1 d1))).cell? ⟨w.heap.size, 2, none⟩ = some (.slice q1 m1 d1) := by simp [go_sem, l0, l1, l2, m0, m1', m2']
  have lz : w.heap.size < w1.heap.size := lt_of_block hb0
  have HG0 := hid hg3
  have hlt : w.heap.size < ((((w1.setCell ⟨w.heap.size, 0, none⟩ (.bool g1)).setCell ⟨w.heap.size, 1, none⟩ (.slice p1 n1 c1)).setCell ⟨w.heap.size, 2, none⟩ (.slice q1 m1 d1))).heap.size := by simp; exact lz
  clear HP h1 h2 hs hbz hb0 hg3 lz l0 l1 l2 m0 m1' m2' hg1
  generalize (((w1.setCell ⟨w.heap.size, 0, none⟩ (.bool g1)).setCell ⟨w.heap.size, 1, none⟩ (.slice p1 n1 c1)).setCell ⟨w.heap.size, 2, none⟩ (.slice q1 m1 d1)) = w0 at *
  obtain ⟨hC, hsg⟩ := k1.out
  have HD := (fun W (h : w0.grownBy W none) => rDivMod_any (ga := g1) (gb := false) (hC.isN.keep h) (k2.isN.keep h) HPP.out (by omega) (by omega))
  rw [qZ_floor HPP.out, ← k1.out.z.2] at HD
  replace HD := hid HD
  unfold DmI at HD
  have G0 : w0.grownBy w0.drew none := grown_drew _ _
  have G1 : ∀ o, w0.grownBy (w0.alloc o).drew none := fun o => grown_trans (World.grownBy_alloc _ _ _) (grown_drew _ _)
  have G2 : ∀ o o', w0.grownBy ((w0.alloc o).alloc o').drew none := fun o o' => grown_trans (grown_trans (World.grownBy_alloc _ _ _) (World.grownBy_alloc _ _ _)) (grown_drew _ _)
  replace hbr := hid hbr
  clear hC hsg k1 k2
  go_cut [3, 4] from 5 to 17 (fun s5 s6 wx => PairRel (X / (Y : Int)) (rZ g1 X.natAbs Y) (n + 6) (n + m + 10) w0 s5 s6 wx)
  case first =>
    go_region_held3 (fun w' => w'.cell? ⟨w.heap.size, 0, none⟩ = some (.bool g1) ∧ w'.cell? ⟨w.heap.size, 1, none⟩ = some (.slice p1 n1 c1) ∧ w'.cell? ⟨w.heap.size, 2, none⟩ = some (.slice q1 m1 d1))
      ((try go_split_ands) <;> (repeat' apply And.intro) <;> (repeat (first | (with_reducible assumption) | (with_reducible refine (grown_setCell _ _ _).cell ?_ (by simp; omega)) | (with_reducible refine (World.grownBy_alloc _ _ none).cell ?_ (by simp)) | (with_reducible refine hg2.cell ?_ (by simp)) | (with_reducible refine hg1.cell ?_ (by simp)) | (with_reducible refine (grown_drew _ none).cell ?_ (by simp)))))
      (first
        | (go_at_call 83; (with_reducible refine (wholeQ_any _ _ _).mono ?_); rintro e w1 ⟨rfl, hg1⟩; have hz1 := hg1.size; (try simp at hz1); have H1 : w0.grownBy w1 none := grown_trans (by first | exact G0 | exact G1 _ | exact G2 _ _) hg1; (try (have B0 : BoxAt w1 (w0.heap.size) := BoxAt.grown (by first | exact (BoxAt.new _).drew | exact ((BoxAt.new _).alloc _).drew) hg1; obtain ⟨B0a, B0b, B0c, B0d, B0e⟩ := B0.facts; have B0H := hid B0; clear B0)); (try (have B1 : BoxAt w1 (w0.heap.size + 1) := BoxAt.grown (by first | exact (BoxAt.new2 _ _).drew) hg1; obtain ⟨B1a, B1b, B1c, B1d, B1e⟩ := B1.facts; have B1H := hid B1; clear B1)); have k1 := fun o => gcell (World.grownBy_alloc w1 o none); have f1 := fun o => gfree (World.grownBy_alloc w1 o none))
        | (go_at_call 82; (with_reducible refine (HD.out _ (by first | exact H1 | exact grown_trans H1 (World.grownBy_alloc _ _ _) | exact grown_trans (grown_trans H1 (World.grownBy_alloc _ _ _)) (World.grownBy_alloc _ _ _))).mono ?_); rintro e w2 ⟨gq, pq, nq, cq, gr, pr, nr, cr, rfl, h1, h2, hn1q, hn2q, hg2⟩; have hz2 := hg2.size; (try simp at hz2); replace h1 := hid h1; replace h2 := hid h2; (try (have D0 : BoxAt w2 (w0.heap.size) := BoxAt.grown (by first | exact B0H.out | exact B0H.out.alloc _ | exact (B0H.out.alloc _).alloc _) hg2; obtain ⟨D0a, D0b, D0c, D0d, D0e⟩ := D0.facts; have D0H := hid D0; clear D0)); (try (have D1 : BoxAt w2 (w0.heap.size + 1) := BoxAt.grown (by first | exact B1H.out) hg2; obtain ⟨D1a, D1b, D1c, D1d, D1e⟩ := D1.facts; have D1H := hid D1; clear D1)); (try (have D2 : BoxAt w2 (w1.heap.size) := BoxAt.grown (by first | exact BoxAt.new _ | exact (BoxAt.new _).alloc _) hg2; obtain ⟨D2a, D2b, D2c, D2d, D2e⟩ := D2.facts; have D2H := hid D2; clear D2)); (try (have D3 : BoxAt w2 (w1.heap.size + 1) := BoxAt.grown (by first | exact BoxAt.new2 _ _) hg2; obtain ⟨D3a, D3b, D3c, D3d, D3e⟩ := D3.facts; have D3H := hid D3; clear D3)); clear k1 f1; have k2 := fun o => gcell (World.grownBy_alloc w2 o none); have f2 := fun o => gfree (World.grownBy_alloc w2 o none); (try have e01 : w0.heap.size ≠ w1.heap.size := by omega); (try have e10 : w1.heap.size ≠ w0.heap.size := by omega); (try have e02 : w0.heap.size ≠ w2.heap.size := by omega); (try have e12 : w1.heap.size ≠ w2.heap.size := by omega); (try have e20 : w2.heap.size ≠ w0.heap.size := by omega); (try have e21 : w2.heap.size ≠ w1.heap.size := by omega)))
    all_goals
      go_wp2_with fail
      go_meet
      have HX : w1.grownBy w2 none := by
        first
          | exact hg2
          | exact grown_trans (World.grownBy_alloc _ _ _) hg2
          | exact grown_trans (grown_trans (World.grownBy_alloc _ _ _) (World.grownBy_alloc _ _ _)) hg2
      have K1 := h1.out
      have K2 := h2.out
      have KG := grown_trans H1 HX
      have b1 : nq ≤ n + 6 := by omega
      have b2 : nr ≤ n + m + 10 := by omega
      have hz01 := H1.size
      first
        | with_reducible exact leaf_alloc K1 K2 b1 b2 KG
        | with_reducible exact leaf_alloc' K1 K2 b1 b2 KG
        | with_reducible exact leaf_set1 K1 K2 b1 b2 KG D0H.out (by omega)
        | with_reducible exact leaf_set1 K1 K2 b1 b2 KG D2H.out (by omega)
        | with_reducible exact leaf_set2 K1 K2 b1 b2 KG D0H.out (by omega)
        | with_reducible exact leaf_set2 K1 K2 b1 b2 KG D2H.out (by omega)
        | with_reducible exact leaf_sets K1 K2 b1 b2 KG D0H.out D1H.out (by omega) (by omega) (by omega)
        | with_reducible exact leaf_sets K1 K2 b1 b2 KG D1H.out D0H.out (by omega) (by omega) (by omega)
        | with_reducible exact leaf_sets K1 K2 b1 b2 KG D2H.out D3H.out (by omega) (by omega) (by omega)
        | with_reducible exact leaf_sets K1 K2 b1 b2 KG D3H.out D2H.out (by omega) (by omega) (by omega)
        | with_reducible exact leaf_sets K1 K2 b1 b2 KG D0H.out D2H.out (by omega) (by omega) (by omega)
        | with_reducible exact leaf_sets K1 K2 b1 b2 KG D2H.out D0H.out (by omega) (by omega) (by omega)
  case rest =>
    obtain ⟨u, v, ga, gb, pa, pb, na, ca, nb, cb, rfl, rfl, ya, yb, yc, yd, hQ, hR, b1, b2, hgw⟩ := hcut
    have hb8 := (hgw.block (w.heap.size + 1) (lt_of_block hbr.out) (by simp)).trans hbr.out
    obtain ⟨l0, l1, m0, m1', _⟩ := BoxAt.facts hb8
    clear HD hR yc yd G0 G1 G2
    go_wp2_with fail
    exact bodyPost_ret (v := .agg #[.bool ga, .slice pa na ca]) (by simp [results, Tryz.results39, go_sem, l0, l1, m0, m1']) rfl
      (IPost.close HG0.out hbr.out (by omega) hgw hQ b1)
end Go.Proofs.YtcjoecmkkpmjmaaGreatDoor

set_option linter.unusedVariables false
set_option linter.unusedSimpArgs false
namespace Go.Proofs.YtcjoecmkkpmjmaaGreatDoor
open Go.RowKit Nm

theorem mk1 (Z : Int) : mkRat Z 1 = (Z : Rat) := Rat.mkRat_one ..
theorem IsQ.int {w : World} {g : Bool} {p q : Option Addr} {n c m d : Nat} {Z : Int} (h : IsZ w g p n c Z) (k : IsN w q m d 1) : IsQ w g p n c q m d (Z : Rat) := ⟨_, _, h, k, (mk1 Z).symm⟩
theorem rFloor3_v (S : Nat) {w : World} {g : Bool} {p q : Option Addr} {n c m d : Nat} {v : Rat} (hA : IsQ w g p n c q m d v) (hn : n ≤ S) (hm : m ≤ S) (hS : S ≤ 9000) :
    Calls Tryz.prog 39 #[.agg #[.bool g, .slice p n c, .slice q m d]] w (IPost w v.floor (S + 6)) := by
  obtain ⟨N, D, h1, h2, rfl⟩ := hA
  have := rFloor3_any h1 h2 (by omega) (by omega)
  rw [floor_q (pd_pos D), pq] at this
  exact this.mono fun e w' ⟨g, p, n, c, h1, h2, h3, h4⟩ => ⟨g, p, n, c, h1, h2, by omega, h4⟩

set_option maxRecDepth 20000 in
set_option maxHeartbeats 4000000 in
theorem rUnit_v {w : World} (b : Nat) (hb : b ≤ 400) :
    Calls Tryz.prog 80 #[.int .i64 b] w (IPost w ((2 ^ b : Nat) : Int) 30) := by
  have HV := hid (show 1 * 2 ^ b = 2 ^ b from Nat.one_mul _)
  have HP := hid (show ∀ k : Nat, k = 30 → 1 * 2 ^ b < 65536 ^ k from fun k hk => by
    rw [Nat.one_mul, show (65536 : Nat) = 2 ^ 16 from rfl, ← Nat.pow_mul]
    exact Nat.pow_lt_pow_right (by omega) (by omega))
  have hW := (World.grownBy_alloc w (.cells #[.bool false, .slice none 0 0] 25) none)
  have bx0 : (w.alloc (.cells #[.bool false, .slice none 0 0] 25)).heap[w.heap.size]? = some (.cells #[.bool false, .slice none 0 0] 25 (0, 0)) := by
    have := heap_alloc_new w (.cells #[.bool false, .slice none 0 0] 25)
    simpa using this
  skip
  go_enter Tryz.func80, Tryz.ntmps80
  go_wp2_with fail
  generalize (w.alloc (.cells #[.bool false, .slice none 0 0] 25)) = w0 at *
  refine (refOf_c 1 (by unfold W64; omega) _).mono ?_
  rintro ee v1 ⟨p1, n1, c1, rfl, hO, hn1, hg⟩
  replace bx0 := (hg.block _ (lt_of_block bx0) (by simp)).trans bx0; replace hW := grown_trans hW hg
  clear hg
  go_wp2_with fail
  refine (refShift_up b hO.isN (by omega) (by omega)).mono ?_
  rintro ee v2 ⟨p2, n2, c2, rfl, hY, hg⟩
  replace hO := hO.keep hg; replace bx0 := (hg.block _ (lt_of_block bx0) (by simp)).trans bx0; replace hW := grown_trans hW hg
  clear hg
  have hn2 : n2 ≤ 30 := hY.len_le (HP.out 30 rfl)
  obtain ⟨l0, l1, f0, f1⟩ := intbox_facts bx0
  go_wp2_with fail
  exact bodyPost_ret (v := .agg #[.bool false, .slice p2 n2 c2]) (by simp [results, Tryz.results80, go_sem, l0, l1, f0, f1]) rfl
    (IPost.close2 bx0 (by omega) hW ⟨hY.congr (by rw [HV.out]; simp), (decide_eq_false (Int.not_lt.mpr (Int.natCast_nonneg _))).symm⟩ hn2)

set_option maxRecDepth 20000 in
set_option maxHeartbeats 4000000 in
theorem rScaled_v (S : Nat) {w : World} {g1 : Bool} {p1 q1 : Option Addr} {n1 c1 m1 d1 : Nat} {v : Rat} (hV : IsV w g1 p1 n1 c1 q1 m1 d1 v) (b : Nat) (hb : b ≤ 400) (hn1 : n1 ≤ S) (hm1 : m1 ≤ S) (hS : S ≤ 8000) :
    Calls Tryz.prog 40 #[.agg #[.bool g1, .slice p1 n1 c1, .slice q1 m1 d1], .int .i64 b] w (VPost w (v * (((2 ^ b : Nat) : Int) : Rat)) (4 * S + 200)) := by
  have hW := (grown_trans (World.grownBy_alloc w (.cells #[.bool g1, .slice p1 n1 c1, .slice q1 m1 d1] 27) none) (World.grownBy_alloc _ (.cells #[.bool false, .slice none 0 0, .slice none 0 0] 27) none))
  have bx0 : ((w.alloc (.cells #[.bool g1, .slice p1 n1 c1, .slice q1 m1 d1] 27)).alloc (.cells #[.bool false, .slice none 0 0, .slice none 0 0] 27)).heap[w.heap.size]? = some (.cells #[.bool g1, .slice p1 n1 c1, .slice q1 m1 d1] 27 (0, 0)) := by
    have h0 := heap_alloc_new w (.cells #[.bool g1, .slice p1 n1 c1, .slice q1 m1 d1] 27)
    have h1 := (World.grownBy_alloc (w.alloc (.cells #[.bool g1, .slice p1 n1 c1, .slice q1 m1 d1] 27)) (.cells #[.bool false, .slice none 0 0, .slice none 0 0] 27) none).block _ (lt_of_block h0) (by simp)
    have h2 := h1.trans h0
    simpa using h2
  obtain ⟨x0, x1, x2, _, _, _⟩ := ratbox_facts bx0
  clear bx0
  have bx1 : ((w.alloc (.cells #[.bool g1, .slice p1 n1 c1, .slice q1 m1 d1] 27)).alloc (.cells #[.bool false, .slice none 0 0, .slice none 0 0] 27)).heap[w.heap.size + 1]? = some (.cells #[.bool false, .slice none 0 0, .slice none 0 0] 27 (0, 0)) := by
    have := heap_alloc_new (w.alloc (.cells #[.bool g1, .slice p1 n1 c1, .slice q1 m1 d1] 27)) (.cells #[.bool false, .slice none 0 0, .slice none 0 0] 27)
    simpa using this
  replace hV := hV.keep hW
  go_enter Tryz.func40, Tryz.ntmps40
  go_wp2_with fail
  generalize ((w.alloc (.cells #[.bool g1, .slice p1 n1 c1, .slice q1 m1 d1] 27)).alloc (.cells #[.bool false, .slice none 0 0, .slice none 0 0] 27)) = w0 at *
  have hg := grown_drew w0 none
  replace hV := hV.keep hg; replace x0 := hg.cell x0 (by simp); replace x1 := hg.cell x1 (by simp); replace x2 := hg.cell x2 (by simp)
  replace bx1 := (hg.block _ (lt_of_block bx1) (by simp)).trans bx1; replace hW := grown_trans hW hg
  clear hg
  go_region_held3 (fun w' => w'.cell? ⟨w.heap.size, 0, none⟩ = some (.bool g1) ∧ w'.cell? ⟨w.heap.size, 1, none⟩ = some (.slice p1 n1 c1) ∧ w'.cell? ⟨w.heap.size, 2, none⟩ = some (.slice q1 m1 d1)) ((try go_split_ands) <;> (repeat' apply And.intro) <;> (repeat (first | (with_reducible assumption) | (with_reducible refine (grown_setCell _ _ _).cell ?_ (by first | (simp; omega) | simp)) | (with_reducible refine (World.grownBy_alloc _ _ none).cell ?_ (by simp)) | (with_reducible refine (grown_drew _ none).cell ?_ (by simp)))))
    (first
      | (go_at_call 80; (with_reducible refine (rUnit_v b hb).mono ?_); rintro ee v1 ⟨g3, p3, n3, c3, rfl, hP, hn3, hg⟩; replace hV := hV.keep hg; replace x0 := hg.cell x0 (by simp); replace x1 := hg.cell x1 (by simp); replace x2 := hg.cell x2 (by simp); replace bx1 := (hg.block _ (lt_of_block bx1) (by simp)).trans bx1; replace hW := grown_trans hW hg; clear hg)
      | (go_at_call 51; (with_reducible refine (rofat 1 1 rfl (by unfold W64; omega) _).mono ?_); rintro ee v2 ⟨p4, n4, c4, rfl, hO, hn4, hg⟩; replace hV := hV.keep hg; replace hP := hP.keep hg; replace x0 := hg.cell x0 (by simp); replace x1 := hg.cell x1 (by simp); replace x2 := hg.cell x2 (by simp); replace bx1 := (hg.block _ (lt_of_block bx1) (by simp)).trans bx1; replace hW := grown_trans hW hg; clear hg; have hU := IsQ.int hP.z (IsC.isN hO))
      | (go_at_call 84; (with_reducible refine (rMul3_v (S + 40) hV.q hU (by omega) (by omega) (by omega) (by omega) (by omega)).mono ?_); rintro ee v3 ⟨g5, p5, n5, c5, q5, m5, d5, rfl, hZ, hn5, hm5, hg⟩; replace hV := hV.keep hg; replace hP := hP.keep hg; replace x0 := hg.cell x0 (by simp); replace x1 := hg.cell x1 (by simp); replace x2 := hg.cell x2 (by simp); replace bx1 := (hg.block _ (lt_of_block bx1) (by simp)).trans bx1; replace hW := grown_trans hW hg; clear hg; have ff := ratbox_facts bx1; obtain ⟨l0, l1, l2, f0, f1, f2⟩ := ff))
  go_wp2_with fail
  exact bodyPost_ret (v := .agg #[.bool g5, .slice p5 n5 c5, .slice q5 m5 d5]) (by simp [results, Tryz.results40, go_sem, l0, l1, l2, f0, f1, f2]) rfl
    (VPost.close bx1 (by omega) hW hZ (by omega) (by omega))

set_option maxRecDepth 20000 in
set_option maxHeartbeats 4000000 in
theorem rCeil_v (S : Nat) {w : World} {g1 : Bool} {p1 q1 : Option Addr} {n1 c1 m1 d1 : Nat} {v : Rat} (hV : IsV w g1 p1 n1 c1 q1 m1 d1 v) (hn1 : n1 ≤ S) (hm1 : m1 ≤ S) (hS : S ≤ 8000) :
    Calls Tryz.prog 41 #[.agg #[.bool g1, .slice p1 n1 c1, .slice q1 m1 d1]] w (IPost w (-(-v).floor) (S + 20)) := by
  have hW := (grown_trans (World.grownBy_alloc w (.cells #[.bool g1, .slice p1 n1 c1, .slice q1 m1 d1] 27) none) (World.grownBy_alloc _ (.cells #[.bool false, .slice none 0 0] 25) none))
  have bx0 : ((w.alloc (.cells #[.bool g1, .slice p1 n1 c1, .slice q1 m1 d1] 27)).alloc (.cells #[.bool false, .slice none 0 0] 25)).heap[w.heap.size]? = some (.cells #[.bool g1, .slice p1 n1 c1, .slice q1 m1 d1] 27 (0, 0)) := by
    have h0 := heap_alloc_new w (.cells #[.bool g1, .slice p1 n1 c1, .slice q1 m1 d1] 27)
    have h1 := (World.grownBy_alloc (w.alloc (.cells #[.bool g1, .slice p1 n1 c1, .slice q1 m1 d1] 27)) (.cells #[.bool false, .slice none 0 0] 25) none).block _ (lt_of_block h0) (by simp)
    have h2 := h1.trans h0
    simpa using h2
  obtain ⟨x0, x1, x2, _, _, _⟩ := ratbox_facts bx0
  clear bx0
  have bx1 : ((w.alloc (.cells #[.bool g1, .slice p1 n1 c1, .slice q1 m1 d1] 27)).alloc (.cells #[.bool false, .slice none 0 0] 25)).heap[w.heap.size + 1]? = some (.cells #[.bool false, .slice none 0 0] 25 (0, 0)) := by
    have := heap_alloc_new (w.alloc (.cells #[.bool g1, .slice p1 n1 c1, .slice q1 m1 d1] 27)) (.cells #[.bool false, .slice none 0 0] 25)
    simpa using this
  replace hV := hV.keep hW
  go_enter Tryz.func41, Tryz.ntmps41
  go_wp2_with fail
  generalize ((w.alloc (.cells #[.bool g1, .slice p1 n1 c1, .slice q1 m1 d1] 27)).alloc (.cells #[.bool false, .slice none 0 0] 25)) = w0 at *
  refine (rNeg3_v S hV.q hn1 hm1 (by omega)).mono ?_
  rintro ee v1 ⟨g3, p3, n3, c3, q3, m3, d3, rfl, hX, hn3, hm3, hg⟩
  replace hV := hV.keep hg; replace x0 := hg.cell x0 (by simp); replace x1 := hg.cell x1 (by simp); replace x2 := hg.cell x2 (by simp)
  replace bx1 := (hg.block _ (lt_of_block bx1) (by simp)).trans bx1; replace hW := grown_trans hW hg
  clear hg
  go_wp2_with fail
  refine (rFloor3_v (S + 4) hX.q hn3 hm3 (by omega)).mono ?_
  rintro ee v2 ⟨g4, p4, n4, c4, rfl, hY, hn4, hg⟩
  replace hV := hV.keep hg; replace hX := hX.keep hg; replace x0 := hg.cell x0 (by simp); replace x1 := hg.cell x1 (by simp)
  replace x2 := hg.cell x2 (by simp); replace bx1 := (hg.block _ (lt_of_block bx1) (by simp)).trans bx1; replace hW := grown_trans hW hg
  clear hg
  go_wp2_with fail
  refine (rNeg_any hY.z (by omega)).mono ?_
  rintro ee v3 ⟨g5, p5, n5, c5, rfl, hZ, hn5, hg⟩
  replace hV := hV.keep hg; replace hX := hX.keep hg; replace hY := hY.keep hg; replace x0 := hg.cell x0 (by simp)
  replace x1 := hg.cell x1 (by simp); replace x2 := hg.cell x2 (by simp); replace bx1 := (hg.block _ (lt_of_block bx1) (by simp)).trans bx1; replace hW := grown_trans hW hg
  clear hg
  obtain ⟨l0, l1, f0, f1⟩ := intbox_facts bx1
  go_wp2_with fail
  exact bodyPost_ret (v := .agg #[.bool g5, .slice p5 n5 c5]) (by simp [results, Tryz.results41, go_sem, l0, l1, f0, f1]) rfl
    (IPost.close2 bx1 (by omega) hW hZ (by omega))

set_option maxRecDepth 20000 in
set_option maxHeartbeats 8000000 in
theorem rGrid_v (S : Nat) {w : World} {g1 : Bool} {p1 : Option Addr} {n1 c1 : Nat} {Z : Int} (hA : IsZ w g1 p1 n1 c1 Z) (b : Nat) (hb : b ≤ 400) (hn1 : n1 ≤ S) (hS : S ≤ 8000) :
    Calls Tryz.prog 38 #[.agg #[.bool g1, .slice p1 n1 c1], .int .i64 b] w (VPost w ((Z : Rat) / (((2 ^ b : Nat) : Int) : Rat)) (4 * S + 200)) := by
  have HN := hid (show ((2 ^ b : Nat) : Int) ≠ 0 by have := Nat.pow_pos (n := b) (show 0 < 2 by omega); omega)
  have hW := (grown_trans (World.grownBy_alloc w (.cells #[.bool g1, .slice p1 n1 c1] 25) none) (World.grownBy_alloc _ (.cells #[.bool false, .slice none 0 0, .slice none 0 0] 27) none))
  have bx0 : ((w.alloc (.cells #[.bool g1, .slice p1 n1 c1] 25)).alloc (.cells #[.bool false, .slice none 0 0, .slice none 0 0] 27)).heap[w.heap.size]? = some (.cells #[.bool g1, .slice p1 n1 c1] 25 (0, 0)) := by
    have h0 := heap_alloc_new w (.cells #[.bool g1, .slice p1 n1 c1] 25)
    have h1 := (World.grownBy_alloc (w.alloc (.cells #[.bool g1, .slice p1 n1 c1] 25)) (.cells #[.bool false, .slice none 0 0, .slice none 0 0] 27) none).block _ (lt_of_block h0) (by simp)
    have h2 := h1.trans h0
    simpa using h2
  obtain ⟨x0, x1, _, _⟩ := intbox_facts bx0
  clear bx0
  have bx1 : ((w.alloc (.cells #[.bool g1, .slice p1 n1 c1] 25)).alloc (.cells #[.bool false, .slice none 0 0, .slice none 0 0] 27)).heap[w.heap.size + 1]? = some (.cells #[.bool false, .slice none 0 0, .slice none 0 0] 27 (0, 0)) := by
    have := heap_alloc_new (w.alloc (.cells #[.bool g1, .slice p1 n1 c1] 25)) (.cells #[.bool false, .slice none 0 0, .slice none 0 0] 27)
    simpa using this
  replace hA := hA.keep hW
  go_enter Tryz.func38, Tryz.ntmps38
  go_upto_region 1 with fail
  generalize ((w.alloc (.cells #[.bool g1, .slice p1 n1 c1] 25)).alloc (.cells #[.bool false, .slice none 0 0, .slice none 0 0] 27)) = w0 at *
  have hlt0 := lt_of_block bx1
  have HA := hid (fun W (h : w0.grownBy W none) => hA.keep h)
  have G0 : w0.grownBy w0.drew none := grown_drew _ _
  have G1 : ∀ o, w0.grownBy (w0.alloc o).drew none := fun o => grown_trans (World.grownBy_alloc _ _ _) (grown_drew _ _)
  go_cut [5, 6] from 7 to 13 (fun s5 s6 wx => ROne ((Z : Rat) / (((2 ^ b : Nat) : Int) : Rat)) (4 * S + 200) w0 s5 wx)
  case first =>
    go_region_held3 (fun w' => w'.cell? ⟨w.heap.size, 0, none⟩ = some (.bool g1) ∧ w'.cell? ⟨w.heap.size, 1, none⟩ = some (.slice p1 n1 c1)) ((try go_split_ands) <;> (repeat' apply And.intro) <;> (repeat (first | (with_reducible assumption) | (with_reducible refine (grown_setCell _ _ _).cell ?_ (by simp; omega)) | (with_reducible refine (World.grownBy_alloc _ _ none).cell ?_ (by simp)) | (with_reducible refine hg2.cell ?_ (by simp)) | (with_reducible refine hg1.cell ?_ (by simp)) | (with_reducible refine (grown_drew _ none).cell ?_ (by simp)))))
      (first
        | (go_at_call 80; (with_reducible refine (rUnit_v b hb).mono ?_); rintro e w1 ⟨g11, p11, n11, c11, rfl, h1, hn11, hg1⟩; have hz1 := hg1.size; (try simp at hz1); have H1 : w0.grownBy w1 none := grown_trans (by first | exact G0 | exact G1 _) hg1; have hs1 := H1.size; (try (have B0 : RBoxAt w1 (w0.heap.size) := RBoxAt.grown (by first | exact (RBoxAt.new _).drew | exact (RBoxAt.new _)) hg1; obtain ⟨B0a, B0b, B0c, B0d, B0e, B0f, B0g⟩ := B0.facts; have B0H := hid B0; clear B0)); have k1 := fun o => gcell (World.grownBy_alloc w1 o none); have f1 := fun o => gfree (World.grownBy_alloc w1 o none))
        | (go_at_call 75; (with_reducible refine (rMake_v (S + 40) (HA.out _ H1) h1.z HN.out rfl (by omega) (by omega) (by omega)).mono ?_); rintro e w2 ⟨g12, p12, n12, c12, q12, m12, d12, rfl, h2, hn12, hm12, hg2⟩; have hz2 := hg2.size; (try simp at hz2); (try (have D0 : RBoxAt w2 (w0.heap.size) := RBoxAt.grown (by first | exact B0H.out | exact B0H.out.alloc _) hg2; obtain ⟨D0a, D0b, D0c, D0d, D0e, D0f, D0g⟩ := D0.facts; have D0H := hid D0; clear D0)); (try (have D2 : RBoxAt w2 (w1.heap.size) := RBoxAt.grown (by first | exact RBoxAt.new _) hg2; obtain ⟨D2a, D2b, D2c, D2d, D2e, D2f, D2g⟩ := D2.facts; have D2H := hid D2; clear D2)); clear k1 f1)
        | (go_at_call 75; (with_reducible refine (rMake_v (S + 40) (HA.out _ (grown_trans H1 (World.grownBy_alloc _ _ _))) (h1.keep (World.grownBy_alloc _ _ _)).z HN.out rfl (by omega) (by omega) (by omega)).mono ?_); rintro e w2 ⟨g12, p12, n12, c12, q12, m12, d12, rfl, h2, hn12, hm12, hg2⟩; have hz2 := hg2.size; (try simp at hz2); (try (have D0 : RBoxAt w2 (w0.heap.size) := RBoxAt.grown (by first | exact B0H.out | exact B0H.out.alloc _) hg2; obtain ⟨D0a, D0b, D0c, D0d, D0e, D0f, D0g⟩ := D0.facts; have D0H := hid D0; clear D0)); (try (have D2 : RBoxAt w2 (w1.heap.size) := RBoxAt.grown (by first | exact RBoxAt.new _) hg2; obtain ⟨D2a, D2b, D2c, D2d, D2e, D2f, D2g⟩ := D2.facts; have D2H := hid D2; clear D2)); clear k1 f1))
    all_goals
      go_wp2_with fail
      go_meet
      have HX : w1.grownBy w2 none := by
        first
          | exact hg2
          | exact grown_trans (World.grownBy_alloc _ _ _) hg2
      have KG := grown_trans H1 HX
      have b1 : n12 ≤ 4 * S + 200 ∧ m12 ≤ 4 * S + 200 := ⟨by omega, by omega⟩
      have hz01 := H1.size
      first
        | with_reducible exact rone_alloc h2 b1 KG
        | with_reducible exact rone_set h2 b1 KG D0H.out (by omega)
        | with_reducible exact rone_set h2 b1 KG D2H.out (by omega)
  case rest =>
    obtain ⟨u, g2, p2, n2, c2, q2, m2, d2, rfl, y0, y1, y2, hQ, ⟨hn2, hm2⟩, hg⟩ := hcut
    clear HA G0 G1
    replace bx1 := (hg.block _ (lt_of_block bx1) (by simp)).trans bx1; replace hW := grown_trans hW hg
    have ff := ratbox_facts bx1; obtain ⟨l0, l1, l2, f0, f1, f2⟩ := ff
    go_wp2_with fail
    exact bodyPost_ret (v := .agg #[.bool g2, .slice p2 n2 c2, .slice q2 m2 d2]) (by simp [results, Tryz.results38, go_sem, l0, l1, l2, f0, f1, f2]) rfl
      (VPost.close bx1 (by omega) hW hQ hn2 hm2)

set_option maxRecDepth 20000 in
set_option maxHeartbeats 8000000 in
theorem rIvRound_v (S : Nat) {w : World} {g1 g2 : Bool} {p1 q1 p2 q2 : Option Addr} {n1 c1 m1 d1 n2 c2 m2 d2 : Nat} {A B : Rat} (hA : IsV w g1 p1 n1 c1 q1 m1 d1 A) (hB : IsV w g2 p2 n2 c2 q2 m2 d2 B) (b : Nat) (hb : b ≤ 200) (hn1 : n1 ≤ S) (hm1 : m1 ≤ S) (hn2 : n2 ≤ S) (hm2 : m2 ≤ S) (hS : S ≤ 100) :
    Calls Tryz.prog 9 #[.agg #[.bool g1, .slice p1 n1 c1, .slice q1 m1 d1, .bool g2, .slice p2 n2 c2, .slice q2 m2 d2], .int .i64 b] w (WTPost w (rdLo A b) (rdHi B b) (16 * S + 2000)) := by
  have E1 := hid (show (((A * (((2 ^ b : Nat) : Int) : Rat)).floor : Int) : Rat) / (((2 ^ b : Nat) : Int) : Rat) = rdLo A b by unfold rdLo; rw [unit_cast])
  have E2 := hid (show (((-(-(B * (((2 ^ b : Nat) : Int) : Rat))).floor : Int)) : Rat) / (((2 ^ b : Nat) : Int) : Rat) = rdHi B b by
    unfold rdHi
    rw [unit_cast, show -(B * (((2 ^ b : Nat) : Int) : Rat)) = -B * (((2 ^ b : Nat) : Int) : Rat) by grind])
  have hW := (grown_trans (World.grownBy_alloc w (.cells #[.bool g1, .slice p1 n1 c1, .slice q1 m1 d1, .bool g2, .slice p2 n2 c2, .slice q2 m2 d2] 29) none) (World.grownBy_alloc _ (.cells #[.bool false, .slice none 0 0, .slice none 0 0, .bool false, .slice none 0 0, .slice none 0 0] 29) none))
  have bx0 : ((w.alloc (.cells #[.bool g1, .slice p1 n1 c1, .slice q1 m1 d1, .bool g2, .slice p2 n2 c2, .slice q2 m2 d2] 29)).alloc (.cells #[.bool false, .slice none 0 0, .slice none 0 0, .bool false, .slice none 0 0, .slice none 0 0] 29)).heap[w.heap.size]? = some (.cells #[.bool g1, .slice p1 n1 c1, .slice q1 m1 d1, .bool g2, .slice p2 n2 c2, .slice q2 m2 d2] 29 (0, 0)) := by
    have h0 := heap_alloc_new w (.cells #[.bool g1, .slice p1 n1 c1, .slice q1 m1 d1, .bool g2, .slice p2 n2 c2, .slice q2 m2 d2] 29)
    have h1 := (World.grownBy_alloc (w.alloc (.cells #[.bool g1, .slice p1 n1 c1, .slice q1 m1 d1, .bool g2, .slice p2 n2 c2, .slice q2 m2 d2] 29)) (.cells #[.bool false, .slice none 0 0, .slice none 0 0, .bool false, .slice none 0 0, .slice none 0 0] 29) none).block _ (lt_of_block h0) (by simp)
    have h2 := h1.trans h0
    simpa using h2
  have bx1 : ((w.alloc (.cells #[.bool g1, .slice p1 n1 c1, .slice q1 m1 d1, .bool g2, .slice p2 n2 c2, .slice q2 m2 d2] 29)).alloc (.cells #[.bool false, .slice none 0 0, .slice none 0 0, .bool false, .slice none 0 0, .slice none 0 0] 29)).heap[w.heap.size + 1]? = some (.cells #[.bool false, .slice none 0 0, .slice none 0 0, .bool false, .slice none 0 0, .slice none 0 0] 29 (0, 0)) := by
    have := heap_alloc_new (w.alloc (.cells #[.bool g1, .slice p1 n1 c1, .slice q1 m1 d1, .bool g2, .slice p2 n2 c2, .slice q2 m2 d2] 29)) (.cells #[.bool false, .slice none 0 0, .slice none 0 0, .bool false, .slice none 0 0, .slice none 0 0] 29)
    simpa using this
  replace hA := hA.keep hW; replace hB := hB.keep hW
  obtain ⟨⟨x0, x1, x2, x3, x4, x5⟩, _⟩ := ivbox_facts bx0
  clear bx0
  go_enter Tryz.func9, Tryz.ntmps9
  have hz1 : ¬ ((b : Int) < 0) := by omega
  have hz2 : ¬ ((200 : Int) < (b : Int)) := by omega
  go_upto_region 3 with fail
  generalize ((w.alloc (.cells #[.bool g1, .slice p1 n1 c1, .slice q1 m1 d1, .bool g2, .slice p2 n2 c2, .slice q2 m2 d2] 29)).alloc (.cells #[.bool false, .slice none 0 0, .slice none 0 0, .bool false, .slice none 0 0, .slice none 0 0] 29)) = w0 at *
  have hg := grown_drew w0 none
  replace hA := hA.keep hg; replace hB := hB.keep hg; replace x0 := hg.cell x0 (by simp); replace x1 := hg.cell x1 (by simp)
  replace x2 := hg.cell x2 (by simp); replace x3 := hg.cell x3 (by simp); replace x4 := hg.cell x4 (by simp); replace x5 := hg.cell x5 (by simp)
  replace bx1 := (hg.block _ (lt_of_block bx1) (by simp)).trans bx1; replace hW := grown_trans hW hg
  clear hg
  go_region_held3 (fun w' => w'.cell? ⟨w.heap.size, 0, none⟩ = some (.bool g1) ∧ w'.cell? ⟨w.heap.size, 1, none⟩ = some (.slice p1 n1 c1) ∧ w'.cell? ⟨w.heap.size, 2, none⟩ = some (.slice q1 m1 d1) ∧ w'.cell? ⟨w.heap.size, 3, none⟩ = some (.bool g2) ∧ w'.cell? ⟨w.heap.size, 4, none⟩ = some (.slice p2 n2 c2) ∧ w'.cell? ⟨w.heap.size, 5, none⟩ = some (.slice q2 m2 d2)) ((try go_split_ands) <;> (repeat' apply And.intro) <;> (repeat (first | (with_reducible assumption) | (with_reducible refine (grown_setCell _ _ _).cell ?_ (by first | (simp; omega) | simp)) | (with_reducible refine (World.grownBy_alloc _ _ none).cell ?_ (by simp)) | (with_reducible refine (grown_drew _ none).cell ?_ (by simp)))))
    (first
      | (go_at_call 40; (with_reducible refine (rScaled_v S hA b (by omega) hn1 hm1 (by omega)).mono ?_); rintro ee v1 ⟨g3, p3, n3, c3, q3, m3, d3, rfl, hP, hn3, hm3, hg⟩; replace hA := hA.keep hg; replace hB := hB.keep hg; replace x0 := hg.cell x0 (by simp); replace x1 := hg.cell x1 (by simp); replace x2 := hg.cell x2 (by simp); replace x3 := hg.cell x3 (by simp); replace x4 := hg.cell x4 (by simp); replace x5 := hg.cell x5 (by simp); replace bx1 := (hg.block _ (lt_of_block bx1) (by simp)).trans bx1; replace hW := grown_trans hW hg; clear hg)
      | (go_at_call 39; (with_reducible refine (rFloor3_v (4 * S + 200) hP.q hn3 hm3 (by omega)).mono ?_); rintro ee v2 ⟨g4, p4, n4, c4, rfl, hF, hn4, hg⟩; replace hA := hA.keep hg; replace hB := hB.keep hg; replace hP := hP.keep hg; replace x0 := hg.cell x0 (by simp); replace x1 := hg.cell x1 (by simp); replace x2 := hg.cell x2 (by simp); replace x3 := hg.cell x3 (by simp); replace x4 := hg.cell x4 (by simp); replace x5 := hg.cell x5 (by simp); replace bx1 := (hg.block _ (lt_of_block bx1) (by simp)).trans bx1; replace hW := grown_trans hW hg; clear hg)
      | (go_at_call 38; (with_reducible refine (rGrid_v (4 * S + 300) hF.z b (by omega) (by omega) (by omega)).mono ?_); rintro ee v3 ⟨g5, p5, n5, c5, q5, m5, d5, rfl, hR, hn5, hm5, hg⟩; replace hA := hA.keep hg; replace hB := hB.keep hg; replace hP := hP.keep hg; replace hF := hF.keep hg; replace x0 := hg.cell x0 (by simp); replace x1 := hg.cell x1 (by simp); replace x2 := hg.cell x2 (by simp); replace x3 := hg.cell x3 (by simp); replace x4 := hg.cell x4 (by simp); replace x5 := hg.cell x5 (by simp); replace bx1 := (hg.block _ (lt_of_block bx1) (by simp)).trans bx1; replace hW := grown_trans hW hg; clear hg)
      | (go_at_call 40; (with_reducible refine (rScaled_v S hB b (by omega) hn2 hm2 (by omega)).mono ?_); rintro ee v4 ⟨g6, p6, n6, c6, q6, m6, d6, rfl, hQ, hn6, hm6, hg⟩; replace hA := hA.keep hg; replace hB := hB.keep hg; replace hP := hP.keep hg; replace hF := hF.keep hg; replace hR := hR.keep hg; replace x0 := hg.cell x0 (by simp); replace x1 := hg.cell x1 (by simp); replace x2 := hg.cell x2 (by simp); replace x3 := hg.cell x3 (by simp); replace x4 := hg.cell x4 (by simp); replace x5 := hg.cell x5 (by simp); replace bx1 := (hg.block _ (lt_of_block bx1) (by simp)).trans bx1; replace hW := grown_trans hW hg; clear hg)
      | (go_at_call 41; (with_reducible refine (rCeil_v (4 * S + 200) hQ hn6 hm6 (by omega)).mono ?_); rintro ee v5 ⟨g7, p7, n7, c7, rfl, hC, hn7, hg⟩; replace hA := hA.keep hg; replace hB := hB.keep hg; replace hP := hP.keep hg; replace hF := hF.keep hg; replace hR := hR.keep hg; replace hQ := hQ.keep hg; replace x0 := hg.cell x0 (by simp); replace x1 := hg.cell x1 (by simp); replace x2 := hg.cell x2 (by simp); replace x3 := hg.cell x3 (by simp); replace x4 := hg.cell x4 (by simp); replace x5 := hg.cell x5 (by simp); replace bx1 := (hg.block _ (lt_of_block bx1) (by simp)).trans bx1; replace hW := grown_trans hW hg; clear hg)
      | (go_at_call 38; (with_reducible refine (rGrid_v (4 * S + 300) hC.z b (by omega) (by omega) (by omega)).mono ?_); rintro ee v6 ⟨g8, p8, n8, c8, q8, m8, d8, rfl, hT, hn8, hm8, hg⟩; replace hA := hA.keep hg; replace hB := hB.keep hg; replace hP := hP.keep hg; replace hF := hF.keep hg; replace hR := hR.keep hg; replace hQ := hQ.keep hg; replace hC := hC.keep hg; replace x0 := hg.cell x0 (by simp); replace x1 := hg.cell x1 (by simp); replace x2 := hg.cell x2 (by simp); replace x3 := hg.cell x3 (by simp); replace x4 := hg.cell x4 (by simp); replace x5 := hg.cell x5 (by simp); replace bx1 := (hg.block _ (lt_of_block bx1) (by simp)).trans bx1; replace hW := grown_trans hW hg; clear hg; have ff := ivbox_facts bx1; obtain ⟨⟨l0, l1, l2, l3, l4, l5⟩, f0, f1, f2, f3, f4, f5⟩ := ff))
  rw [E1.out] at hR; rw [E2.out] at hT
  go_wp2_with fail
  exact bodyPost_ret (v := .tuple #[.agg #[.bool g5, .slice p5 n5 c5, .slice q5 m5 d5, .bool g8, .slice p8 n8 c8, .slice q8 m8 d8], .int .i64 0]) (by simp [results, Tryz.results9, go_sem, l0, l1, l2, l3, l4, l5, f0, f1, f2, f3, f4, f5]) rfl
    (WTPost.close bx1 (by omega) hW hR hT ⟨by omega, by omega⟩ ⟨by omega, by omega⟩)
end Go.Proofs.YtcjoecmkkpmjmaaGreatDoor

set_option linter.unusedVariables false
set_option linter.unusedSimpArgs false
namespace Go.Proofs.YtcjoecmkkpmjmaaGreatDoor
open Go.RowKit Nm

/-- the root of N in a new Int -/
def RtIPost (w : World) (N B : Nat) (e : Ending) (w' : World) : Prop := ∃ R : Nat, (R * R ≤ N ∧ N < (R + 1) * (R + 1)) ∧ IPost w (R : Int) B e w'
theorem root_size {w : World} {p q : Option Addr} {n c m d N R : Nat} (h : IsN w p n c N) (k : IsC w q m d R) (hR : R * R ≤ N) : m ≤ n := by
  refine k.len_le (Nat.lt_of_le_of_lt ?_ h.lt)
  rcases Nat.eq_zero_or_pos R with rfl | hp
  · exact Nat.zero_le _
  · exact Nat.le_trans (by simpa using Nat.mul_le_mul (Nat.le_refl R) hp) hR

set_option maxRecDepth 20000 in
set_option maxHeartbeats 4000000 in
theorem rRoot_v (S : Nat) {w : World} {g1 : Bool} {p1 q1 : Option Addr} {n1 c1 m1 d1 : Nat} {v : Rat} (hV : IsV w g1 p1 n1 c1 q1 m1 d1 v) (hn1 : n1 ≤ S) (hm1 : m1 ≤ S) (hS : S ≤ 8000) :
    Calls Tryz.prog 48 #[.agg #[.bool g1, .slice p1 n1 c1, .slice q1 m1 d1]] w (RtIPost w v.floor.natAbs (S + 6)) := by
  have hfd : ∀ (w : World) (g : Bool) (p : Option Addr) (n c : Nat), (Instr.field 25 (.agg #[.bool g, .slice p n c]) 1).run Tryz.prog w = .ok (.slice p n c) w := fun _ _ _ _ _ => by kernel_rfl
  have hW := (grown_trans (World.grownBy_alloc w (.cells #[.bool g1, .slice p1 n1 c1, .slice q1 m1 d1] 27) none) (World.grownBy_alloc _ (.cells #[.bool false, .slice none 0 0] 25) none))
  have bx0 : ((w.alloc (.cells #[.bool g1, .slice p1 n1 c1, .slice q1 m1 d1] 27)).alloc (.cells #[.bool false, .slice none 0 0] 25)).heap[w.heap.size]? = some (.cells #[.bool g1, .slice p1 n1 c1, .slice q1 m1 d1] 27 (0, 0)) := by
    have h0 := heap_alloc_new w (.cells #[.bool g1, .slice p1 n1 c1, .slice q1 m1 d1] 27)
    have h1 := (World.grownBy_alloc (w.alloc (.cells #[.bool g1, .slice p1 n1 c1, .slice q1 m1 d1] 27)) (.cells #[.bool false, .slice none 0 0] 25) none).block _ (lt_of_block h0) (by simp)
    have h2 := h1.trans h0
    simpa using h2
  obtain ⟨x0, x1, x2, _, _, _⟩ := ratbox_facts bx0
  clear bx0
  have bx1 : ((w.alloc (.cells #[.bool g1, .slice p1 n1 c1, .slice q1 m1 d1] 27)).alloc (.cells #[.bool false, .slice none 0 0] 25)).heap[w.heap.size + 1]? = some (.cells #[.bool false, .slice none 0 0] 25 (0, 0)) := by
    have := heap_alloc_new (w.alloc (.cells #[.bool g1, .slice p1 n1 c1, .slice q1 m1 d1] 27)) (.cells #[.bool false, .slice none 0 0] 25)
    simpa using this
  replace hV := hV.keep hW
  go_enter Tryz.func48, Tryz.ntmps48
  go_wp2_with fail
  generalize ((w.alloc (.cells #[.bool g1, .slice p1 n1 c1, .slice q1 m1 d1] 27)).alloc (.cells #[.bool false, .slice none 0 0] 25)) = w0 at *
  refine (rFloor3_v S hV.q hn1 hm1 (by omega)).mono ?_
  rintro ee v1 ⟨g3, p3, n3, c3, rfl, hF, hn3, hg⟩
  replace hV := hV.keep hg; replace x0 := hg.cell x0 (by simp); replace x1 := hg.cell x1 (by simp); replace x2 := hg.cell x2 (by simp)
  replace bx1 := (hg.block _ (lt_of_block bx1) (by simp)).trans bx1; replace hW := grown_trans hW hg
  clear hg
  go_wp2_with fail
  refine (refSqrt_n hF.abs.isN (by omega)).mono ?_
  rintro ee v2 ⟨R, p5, n5, c5, p6, n6, c6, rfl, hR1, hR2, hR, hR3, hg⟩
  replace hV := hV.keep hg; replace hF := hF.keep hg; replace x0 := hg.cell x0 (by simp); replace x1 := hg.cell x1 (by simp)
  replace x2 := hg.cell x2 (by simp); replace bx1 := (hg.block _ (lt_of_block bx1) (by simp)).trans bx1; replace hW := grown_trans hW hg
  clear hg
  have hs := root_size hF.abs.isN hR hR1
  replace hR1 := hid hR1; replace hR2 := hid hR2; clear hR3
  obtain ⟨l0, l1, f0, f1⟩ := intbox_facts bx1
  go_wp2_with fail
  exact bodyPost_ret (v := .agg #[.bool false, .slice p5 n5 c5]) (by simp [results, Tryz.results48, go_sem, l0, l1, f0, f1]) rfl
    ⟨R, ⟨hR1.out, hR2.out⟩, IPost.close2 bx1 (by omega) hW ⟨hR.congr (by simp), (decide_eq_false (Int.not_lt.mpr (Int.natCast_nonneg _))).symm⟩ (by omega)⟩

/-- a new struct that holds a number, as a block -/
def RBk (V : Rat) (b : Nat) (w0 : World) (s : Value) (wx : World) : Prop :=
  ∃ (u : Nat) (g : Bool) (p : Option Addr) (n c : Nat) (q : Option Addr) (m d : Nat), s = .pointer (some ⟨u, 0, none⟩) ∧
    wx.heap[u]? = some (.cells #[.bool g, .slice p n c, .slice q m d] 27 (0, 0)) ∧ IsV wx g p n c q m d V ∧ (n ≤ b ∧ m ≤ b) ∧ w0.heap.size ≤ u ∧ w0.grownBy wx none
section
variable {A : Rat} {b : Nat} {w0 w2 : World} {g1 : Bool} {p1 q1 : Option Addr} {n1 c1 m1 d1 u : Nat}
theorem rbk_alloc (h1 : IsV w2 g1 p1 n1 c1 q1 m1 d1 A) (b1 : n1 ≤ b ∧ m1 ≤ b) (hg : w0.grownBy w2 none) :
    RBk A b w0 (.pointer (some ⟨w2.heap.size, 0, none⟩)) (w2.alloc (.cells #[.bool g1, .slice p1 n1 c1, .slice q1 m1 d1] 27)) := by
  have hA := World.grownBy_alloc w2 (.cells #[.bool g1, .slice p1 n1 c1, .slice q1 m1 d1] 27) none
  exact ⟨_, g1, p1, n1, c1, q1, m1, d1, rfl, heap_alloc_new w2 _, h1.keep hA, b1, hg.size, grown_trans hg hA⟩
theorem rbk_set (h1 : IsV w2 g1 p1 n1 c1 q1 m1 d1 A) (b1 : n1 ≤ b ∧ m1 ≤ b) (hg : w0.grownBy w2 none) (hb : RBoxAt w2 u) (hu : w0.heap.size ≤ u) :
    RBk A b w0 (.pointer (some ⟨u, 0, none⟩)) (((w2.setCell ⟨u, 0, none⟩ (.bool g1)).setCell ⟨u, 1, none⟩ (.slice p1 n1 c1)).setCell ⟨u, 2, none⟩ (.slice q1 m1 d1)) := by
  have k := rbox_set hb g1 p1 n1 c1 q1 m1 d1
  have hG := grown_new hg k.1 (fun g e => by cases e; exact hu)
  exact ⟨_, g1, p1, n1, c1, q1, m1, d1, rfl, set3_block hb g1 p1 n1 c1 q1 m1 d1, h1.other hb k.1, b1, hu, hG⟩
end
theorem IsV.o2 {w w' : World} {g : Bool} {p q : Option Addr} {n c m d G : Nat} {v : Rat} {x : Bool} {y : Option Addr} {a b : Nat} {T : TypeId} (h : IsV w g p n c q m d v) (hb : w.heap[G]? = some (.cells #[.bool x, .slice y a b] T (0, 0))) (hg : w.grownBy w' (some G)) : IsV w' g p n c q m d v :=
  ⟨⟨h.1.1.other2 hb hg, h.1.2⟩, h.2.other2 hb hg⟩
theorem rScaled_z (S : Nat) {w : World} {g1 : Bool} {p1 q1 : Option Addr} {n1 c1 m1 d1 : Nat} {v : Rat} (hV : IsV w g1 p1 n1 c1 q1 m1 d1 v) (b : Nat) (z : Int) (hz : z = (b : Int)) (hb : b ≤ 400) (hn1 : n1 ≤ S) (hm1 : m1 ≤ S) (hS : S ≤ 8000) :
    Calls Tryz.prog 40 #[.agg #[.bool g1, .slice p1 n1 c1, .slice q1 m1 d1], .int .i64 z] w (VPost w (v * (((2 ^ b : Nat) : Int) : Rat)) (4 * S + 200)) := by
  subst hz; exact rScaled_v S hV b hb hn1 hm1 hS
/-- the reference's square root of an interval on the grid -/
def RSqtPost (w : World) (A B : Rat) (b S : Nat) (e : Ending) (w' : World) : Prop :=
  ∃ r q t : Nat, (r * r ≤ (maxR A [((0 : Int) : Rat)] * (((2 ^ (2 * b) : Nat) : Int) : Rat)).floor.natAbs ∧ (maxR A [((0 : Int) : Rat)] * (((2 ^ (2 * b) : Nat) : Int) : Rat)).floor.natAbs < (r + 1) * (r + 1)) ∧
    (q * q ≤ (B * (((2 ^ (2 * b) : Nat) : Int) : Rat)).floor.natAbs ∧ (B * (((2 ^ (2 * b) : Nat) : Int) : Rat)).floor.natAbs < (q + 1) * (q + 1)) ∧
    (t = if cmpR (((q : Int) * (q : Int) : Int) : Rat) (B * (((2 ^ (2 * b) : Nat) : Int) : Rat)) < 0 then q + 1 else q) ∧
    WTPost w (((r : Int) : Rat) / (((2 ^ b : Nat) : Int) : Rat)) (((t : Int) : Rat) / (((2 ^ b : Nat) : Int) : Rat)) (16 * S + 3000) e w'

set_option maxRecDepth 100000 in
set_option maxHeartbeats 8000000 in
theorem rSqrt_v (S : Nat) {w : World} {g1 g2 : Bool} {p1 q1 p2 q2 : Option Addr} {n1 c1 m1 d1 n2 c2 m2 d2 : Nat} {A B : Rat} (hA : IsV w g1 p1 n1 c1 q1 m1 d1 A) (hB : IsV w g2 p2 n2 c2 q2 m2 d2 B) (b : Nat) (hb : b ≤ 200) (h0 : 0 ≤ B) (hn1 : n1 ≤ S) (hm1 : m1 ≤ S) (hn2 : n2 ≤ S) (hm2 : m2 ≤ S) (hS : S ≤ 100) :
    Calls Tryz.prog 11 #[.agg #[.bool g1, .slice p1 n1 c1, .slice q1 m1 d1, .bool g2, .slice p2 n2 c2, .slice q2 m2 d2], .int .i64 b] w (RSqtPost w A B b S) := by
  have hc : ¬ (cmpR B 0 < 0) := cmpR_nn (by grind)
  have hz1 : ¬ ((b : Int) < 0) := by omega
  have hz2 : ¬ ((200 : Int) < (b : Int)) := by omega
  have hw2 := wrap_2b hb
  clear h0
  have hW := (grown_trans (World.grownBy_alloc w (.cells #[.bool g1, .slice p1 n1 c1, .slice q1 m1 d1, .bool g2, .slice p2 n2 c2, .slice q2 m2 d2] 29) none) (World.grownBy_alloc _ (.cells #[.bool false, .slice none 0 0, .slice none 0 0, .bool false, .slice none 0 0, .slice none 0 0] 29) none))
  have bx0 : ((w.alloc (.cells #[.bool g1, .slice p1 n1 c1, .slice q1 m1 d1, .bool g2, .slice p2 n2 c2, .slice q2 m2 d2] 29)).alloc (.cells #[.bool false, .slice none 0 0, .slice none 0 0, .bool false, .slice none 0 0, .slice none 0 0] 29)).heap[w.heap.size]? = some (.cells #[.bool g1, .slice p1 n1 c1, .slice q1 m1 d1, .bool g2, .slice p2 n2 c2, .slice q2 m2 d2] 29 (0, 0)) := by
    have h0 := heap_alloc_new w (.cells #[.bool g1, .slice p1 n1 c1, .slice q1 m1 d1, .bool g2, .slice p2 n2 c2, .slice q2 m2 d2] 29)
    have h1 := (World.grownBy_alloc (w.alloc (.cells #[.bool g1, .slice p1 n1 c1, .slice q1 m1 d1, .bool g2, .slice p2 n2 c2, .slice q2 m2 d2] 29)) (.cells #[.bool false, .slice none 0 0, .slice none 0 0, .bool false, .slice none 0 0, .slice none 0 0] 29) none).block _ (lt_of_block h0) (by simp)
    have h2 := h1.trans h0
    simpa using h2
  have bx1 : ((w.alloc (.cells #[.bool g1, .slice p1 n1 c1, .slice q1 m1 d1, .bool g2, .slice p2 n2 c2, .slice q2 m2 d2] 29)).alloc (.cells #[.bool false, .slice none 0 0, .slice none 0 0, .bool false, .slice none 0 0, .slice none 0 0] 29)).heap[w.heap.size + 1]? = some (.cells #[.bool false, .slice none 0 0, .slice none 0 0, .bool false, .slice none 0 0, .slice none 0 0] 29 (0, 0)) := by
    have := heap_alloc_new (w.alloc (.cells #[.bool g1, .slice p1 n1 c1, .slice q1 m1 d1, .bool g2, .slice p2 n2 c2, .slice q2 m2 d2] 29)) (.cells #[.bool false, .slice none 0 0, .slice none 0 0, .bool false, .slice none 0 0, .slice none 0 0] 29)
    simpa using this
  replace hA := hA.keep hW; replace hB := hB.keep hW
  obtain ⟨⟨x0, x1, x2, x3, x4, x5⟩, _⟩ := ivbox_facts bx0
  clear bx0
  go_enter Tryz.func11, Tryz.ntmps11
  go_wp2_with fail
  generalize ((w.alloc (.cells #[.bool g1, .slice p1 n1 c1, .slice q1 m1 d1, .bool g2, .slice p2 n2 c2, .slice q2 m2 d2] 29)).alloc (.cells #[.bool false, .slice none 0 0, .slice none 0 0, .bool false, .slice none 0 0, .slice none 0 0] 29)) = w0 at *
  refine (rSign3_v S hB.q hn2 hm2 (by omega)).mono ?_
  rintro ee v1 ⟨rfl, hg⟩
  replace hA := hA.keep hg; replace hB := hB.keep hg; replace x0 := hg.cell x0 (by simp); replace x1 := hg.cell x1 (by simp)
  replace x2 := hg.cell x2 (by simp); replace x3 := hg.cell x3 (by simp); replace x4 := hg.cell x4 (by simp); replace x5 := hg.cell x5 (by simp)
  replace bx1 := (hg.block _ (lt_of_block bx1) (by simp)).trans bx1; replace hW := grown_trans hW hg
  clear hg
  go_upto_region 3 with fail
  have hlt0 := lt_of_block bx1
  have HA := hid (fun W (h : v1.grownBy W none) => hA.keep h)
  have HC := hid (fun W G (g11 : Bool) (p11 q11 : Option Addr) (n11 c11 m11 d11 : Nat) (hn : n11 ≤ S + 20) (hm : m11 ≤ S + 20) (hl : RVs W G [⟨g1, p1, n1, c1, q1, m1, d1, A⟩, ⟨g11, p11, n11, c11, q11, m11, d11, ((0 : Int) : Rat)⟩]) (hG : G < W.heap.size) => rGreatest_v (cp := 2) (S + 20) ⟨g1, p1, n1, c1, q1, m1, d1, A⟩ [⟨g11, p11, n11, c11, q11, m11, d11, ((0 : Int) : Rat)⟩] 2 rfl hl hG (two_sz (And.intro (Nat.le_trans hn1 (Nat.le_add_right S 20)) (Nat.le_trans hm1 (Nat.le_add_right S 20))) ⟨hn, hm⟩) (by omega) (by omega))
  unfold VPost at HC
  simp only [List.map_cons, List.map_nil] at HC
  have G0 : v1.grownBy v1.drew none := grown_drew _ _
  have G1 : ∀ o, v1.grownBy (v1.alloc o).drew none := fun o => grown_trans (World.grownBy_alloc _ _ _) (grown_drew _ _)
  go_cut [6] from 22 to 27 (fun s6 wx => RBk (maxR A [((0 : Int) : Rat)]) (S + 20) v1 s6 wx)
  case first =>
    go_region_held3 (fun w' => w'.cell? ⟨w.heap.size, 0, none⟩ = some (.bool g1) ∧ w'.cell? ⟨w.heap.size, 1, none⟩ = some (.slice p1 n1 c1) ∧ w'.cell? ⟨w.heap.size, 2, none⟩ = some (.slice q1 m1 d1) ∧ w'.cell? ⟨w.heap.size, 3, none⟩ = some (.bool g2) ∧ w'.cell? ⟨w.heap.size, 4, none⟩ = some (.slice p2 n2 c2) ∧ w'.cell? ⟨w.heap.size, 5, none⟩ = some (.slice q2 m2 d2)) ((try go_split_ands) <;> (repeat' apply And.intro) <;> (repeat (first | (with_reducible assumption) | (with_reducible refine (grown_setCell _ _ _).cell ?_ (by simp; omega)) | (with_reducible refine (World.grownBy_alloc _ _ none).cell ?_ (by simp)) | (with_reducible refine hg2.cell ?_ (by simp)) | (with_reducible refine hg1.cell ?_ (by simp)) | (with_reducible refine (grown_drew _ none).cell ?_ (by simp)))))
      (first
        | (go_at_call 32; (with_reducible refine (rOf3_v 0 (by omega) (by omega)).mono ?_); rintro e w1 ⟨g11, p11, n11, c11, q11, m11, d11, rfl, h1, hn11, hm11, hg1⟩; have hz1 := hg1.size; (try simp at hz1); have H1 : v1.grownBy w1 none := grown_trans (by first | exact G0 | exact G1 _) hg1; have hs1 := H1.size; (try (have B0 : RBoxAt w1 (v1.heap.size) := RBoxAt.grown (by first | exact (RBoxAt.new _).drew | exact (RBoxAt.new _)) hg1; obtain ⟨B0a, B0b, B0c, B0d, B0e, B0f, B0g⟩ := B0.facts; have B0H := hid B0; clear B0)); have k1 := fun o => gcell (World.grownBy_alloc w1 o none); have f1 := fun o => gfree (World.grownBy_alloc w1 o none))
        | (go_at_call 47; have hst : w1.grownBy (w1.alloc (.cells #[.bool g1, .slice p1 n1 c1, .slice q1 m1 d1, .bool g11, .slice p11 n11 c11, .slice q11 m11 d11] 27)) none := World.grownBy_alloc _ _ _; have hbk : (w1.alloc (.cells #[.bool g1, .slice p1 n1 c1, .slice q1 m1 d1, .bool g11, .slice p11 n11 c11, .slice q11 m11 d11] 27)).heap[w1.heap.size]? = some (.cells #[.bool g1, .slice p1 n1 c1, .slice q1 m1 d1, .bool g11, .slice p11 n11 c11, .slice q11 m11 d11] 27 (0, 0)) := heap_alloc_new _ _; have hl : RVs (w1.alloc (.cells #[.bool g1, .slice p1 n1 c1, .slice q1 m1 d1, .bool g11, .slice p11 n11 c11, .slice q11 m11 d11] 27)) (w1.heap.size) [⟨g1, p1, n1, c1, q1, m1, d1, A⟩, ⟨g11, p11, n11, c11, q11, m11, d11, ((0 : Int) : Rat)⟩] := rvs2 (a := ⟨g1, p1, n1, c1, q1, m1, d1, A⟩) (b := ⟨g11, p11, n11, c11, q11, m11, d11, ((0 : Int) : Rat)⟩) hbk (HA.out _ (grown_trans H1 hst)) (h1.keep hst); (with_reducible refine (HC.out _ _ _ _ _ _ _ _ _ (by omega) (by omega) hl (lt_of_block hbk)).mono ?_); rintro e w2 ⟨g12, p12, n12, c12, q12, m12, d12, rfl, h2, hn12, hm12, hg2⟩; have KG := grown_trans H1 (grown_trans hst hg2); have hz2 := hg2.size; (try simp at hz2); (try (have D0 : RBoxAt w2 (v1.heap.size) := RBoxAt.grown (by first | exact B0H.out.grown hst) hg2; obtain ⟨D0a, D0b, D0c, D0d, D0e, D0f, D0g⟩ := D0.facts; have D0H := hid D0; clear D0)); (try (have D2 : RBoxAt w2 (w1.heap.size) := RBoxAt.grown (by first | exact RBoxAt.grown (RBoxAt.new _) (World.grownBy_alloc _ _ _)) hg2; obtain ⟨D2a, D2b, D2c, D2d, D2e, D2f, D2g⟩ := D2.facts; have D2H := hid D2; clear D2)); (try (have D3 : RBoxAt w2 (w1.heap.size + 1) := RBoxAt.grown (by first | exact RBoxAt.new2 _ _) hg2; obtain ⟨D3a, D3b, D3c, D3d, D3e, D3f, D3g⟩ := D3.facts; have D3H := hid D3; clear D3)); clear hst hbk hl k1 f1)
        | (go_at_call 47; have hst : w1.grownBy ((w1.alloc (.cells #[.bool g1, .slice p1 n1 c1, .slice q1 m1 d1, .bool g11, .slice p11 n11 c11, .slice q11 m11 d11] 27)).alloc RZ) none := grown_trans (World.grownBy_alloc _ _ _) (World.grownBy_alloc _ _ _); have hbk : ((w1.alloc (.cells #[.bool g1, .slice p1 n1 c1, .slice q1 m1 d1, .bool g11, .slice p11 n11 c11, .slice q11 m11 d11] 27)).alloc RZ).heap[w1.heap.size]? = some (.cells #[.bool g1, .slice p1 n1 c1, .slice q1 m1 d1, .bool g11, .slice p11 n11 c11, .slice q11 m11 d11] 27 (0, 0)) := ((World.grownBy_alloc _ _ none).block _ (lt_of_block (heap_alloc_new _ _)) (by simp)).trans (heap_alloc_new _ _); have hl : RVs ((w1.alloc (.cells #[.bool g1, .slice p1 n1 c1, .slice q1 m1 d1, .bool g11, .slice p11 n11 c11, .slice q11 m11 d11] 27)).alloc RZ) (w1.heap.size) [⟨g1, p1, n1, c1, q1, m1, d1, A⟩, ⟨g11, p11, n11, c11, q11, m11, d11, ((0 : Int) : Rat)⟩] := rvs2 (a := ⟨g1, p1, n1, c1, q1, m1, d1, A⟩) (b := ⟨g11, p11, n11, c11, q11, m11, d11, ((0 : Int) : Rat)⟩) hbk (HA.out _ (grown_trans H1 hst)) (h1.keep hst); (with_reducible refine (HC.out _ _ _ _ _ _ _ _ _ (by omega) (by omega) hl (lt_of_block hbk)).mono ?_); rintro e w2 ⟨g12, p12, n12, c12, q12, m12, d12, rfl, h2, hn12, hm12, hg2⟩; have KG := grown_trans H1 (grown_trans hst hg2); have hz2 := hg2.size; (try simp at hz2); (try (have D0 : RBoxAt w2 (v1.heap.size) := RBoxAt.grown (by first | exact B0H.out.grown hst) hg2; obtain ⟨D0a, D0b, D0c, D0d, D0e, D0f, D0g⟩ := D0.facts; have D0H := hid D0; clear D0)); (try (have D2 : RBoxAt w2 (w1.heap.size) := RBoxAt.grown (by first | exact RBoxAt.grown (RBoxAt.new _) (World.grownBy_alloc _ _ _)) hg2; obtain ⟨D2a, D2b, D2c, D2d, D2e, D2f, D2g⟩ := D2.facts; have D2H := hid D2; clear D2)); (try (have D3 : RBoxAt w2 (w1.heap.size + 1) := RBoxAt.grown (by first | exact RBoxAt.new2 _ _) hg2; obtain ⟨D3a, D3b, D3c, D3d, D3e, D3f, D3g⟩ := D3.facts; have D3H := hid D3; clear D3)); clear hst hbk hl k1 f1)
        | (go_at_call 47; have hst : w1.grownBy ((w1.alloc RZ).alloc (.cells #[.bool g1, .slice p1 n1 c1, .slice q1 m1 d1, .bool g11, .slice p11 n11 c11, .slice q11 m11 d11] 27)) none := grown_trans (World.grownBy_alloc _ _ _) (World.grownBy_alloc _ _ _); have hbk : ((w1.alloc RZ).alloc (.cells #[.bool g1, .slice p1 n1 c1, .slice q1 m1 d1, .bool g11, .slice p11 n11 c11, .slice q11 m11 d11] 27)).heap[w1.heap.size + 1]? = some (.cells #[.bool g1, .slice p1 n1 c1, .slice q1 m1 d1, .bool g11, .slice p11 n11 c11, .slice q11 m11 d11] 27 (0, 0)) := (by have := heap_alloc_new (w1.alloc RZ) (.cells #[.bool g1, .slice p1 n1 c1, .slice q1 m1 d1, .bool g11, .slice p11 n11 c11, .slice q11 m11 d11] 27); simpa using this); have hl : RVs ((w1.alloc RZ).alloc (.cells #[.bool g1, .slice p1 n1 c1, .slice q1 m1 d1, .bool g11, .slice p11 n11 c11, .slice q11 m11 d11] 27)) (w1.heap.size + 1) [⟨g1, p1, n1, c1, q1, m1, d1, A⟩, ⟨g11, p11, n11, c11, q11, m11, d11, ((0 : Int) : Rat)⟩] := rvs2 (a := ⟨g1, p1, n1, c1, q1, m1, d1, A⟩) (b := ⟨g11, p11, n11, c11, q11, m11, d11, ((0 : Int) : Rat)⟩) hbk (HA.out _ (grown_trans H1 hst)) (h1.keep hst); (with_reducible refine (HC.out _ _ _ _ _ _ _ _ _ (by omega) (by omega) hl (lt_of_block hbk)).mono ?_); rintro e w2 ⟨g12, p12, n12, c12, q12, m12, d12, rfl, h2, hn12, hm12, hg2⟩; have KG := grown_trans H1 (grown_trans hst hg2); have hz2 := hg2.size; (try simp at hz2); (try (have D0 : RBoxAt w2 (v1.heap.size) := RBoxAt.grown (by first | exact B0H.out.grown hst) hg2; obtain ⟨D0a, D0b, D0c, D0d, D0e, D0f, D0g⟩ := D0.facts; have D0H := hid D0; clear D0)); (try (have D2 : RBoxAt w2 (w1.heap.size) := RBoxAt.grown (by first | exact RBoxAt.grown (RBoxAt.new _) (World.grownBy_alloc _ _ _)) hg2; obtain ⟨D2a, D2b, D2c, D2d, D2e, D2f, D2g⟩ := D2.facts; have D2H := hid D2; clear D2)); (try (have D3 : RBoxAt w2 (w1.heap.size + 1) := RBoxAt.grown (by first | exact RBoxAt.new2 _ _) hg2; obtain ⟨D3a, D3b, D3c, D3d, D3e, D3f, D3g⟩ := D3.facts; have D3H := hid D3; clear D3)); clear hst hbk hl k1 f1))
    all_goals
      go_wp2_with fail
      go_meet
      have b1 : n12 ≤ S + 20 ∧ m12 ≤ S + 20 := ⟨by omega, by omega⟩
      have hz01 := H1.size
      first
        | with_reducible exact rbk_alloc h2 b1 KG
        | with_reducible exact rbk_set h2 b1 KG D0H.out (by omega)
        | with_reducible exact rbk_set h2 b1 KG D2H.out (by omega)
        | with_reducible exact rbk_set h2 b1 KG D3H.out (by omega)
  case rest =>
    obtain ⟨u, g3, p3, n3, c3, q3, m3, d3, rfl, bu, hM, ⟨hn3, hm3⟩, hu, hg⟩ := hcut
    clear HA HC G0 G1
    replace hA := hA.keep hg; replace hB := hB.keep hg; replace x0 := hg.cell x0 (by simp); replace x1 := hg.cell x1 (by simp)
    replace x2 := hg.cell x2 (by simp); replace x3 := hg.cell x3 (by simp); replace x4 := hg.cell x4 (by simp); replace x5 := hg.cell x5 (by simp)
    replace bx1 := (hg.block _ (lt_of_block bx1) (by simp)).trans bx1; replace hW := grown_trans hW hg
    clear hg
    obtain ⟨y0, y1, y2, _, _, _⟩ := ratbox_facts bu
    go_wp2_with fail
    refine (rScaled_z S hB (2 * b) _ (by omega) (by omega) hn2 hm2 (by omega)).mono ?_
    rintro ee v4 ⟨g4, p4, n4, c4, q4, m4, d4, rfl, hH, hn4, hm4, hg⟩
    replace hA := hA.keep hg; replace hB := hB.keep hg; replace hM := hM.keep hg; replace x0 := hg.cell x0 (by simp)
    replace x1 := hg.cell x1 (by simp); replace x2 := hg.cell x2 (by simp); replace x3 := hg.cell x3 (by simp); replace x4 := hg.cell x4 (by simp)
    replace x5 := hg.cell x5 (by simp); replace y0 := hg.cell y0 (by simp); replace y1 := hg.cell y1 (by simp); replace y2 := hg.cell y2 (by simp)
    replace bx1 := (hg.block _ (lt_of_block bx1) (by simp)).trans bx1; replace bu := (hg.block _ (lt_of_block bu) (by simp)).trans bu; replace hW := grown_trans hW hg
    clear hg
    have hg := World.grownBy_alloc v4 (.cells #[.bool g4, .slice p4 n4 c4, .slice q4 m4 d4] 27) none
    have hb := heap_alloc_new v4 (.cells #[.bool g4, .slice p4 n4 c4, .slice q4 m4 d4] 27)
    replace hA := hA.keep hg; replace hB := hB.keep hg; replace hM := hM.keep hg; replace hH := hH.keep hg
    replace x0 := hg.cell x0 (by simp); replace x1 := hg.cell x1 (by simp); replace x2 := hg.cell x2 (by simp); replace x3 := hg.cell x3 (by simp)
    replace x4 := hg.cell x4 (by simp); replace x5 := hg.cell x5 (by simp); replace y0 := hg.cell y0 (by simp); replace y1 := hg.cell y1 (by simp)
    replace y2 := hg.cell y2 (by simp); replace bx1 := (hg.block _ (lt_of_block bx1) (by simp)).trans bx1; replace bu := (hg.block _ (lt_of_block bu) (by simp)).trans bu; replace hW := grown_trans hW hg
    obtain ⟨h0, h1, h2, _, _, _⟩ := ratbox_facts hb
    clear hg hb
    go_wp2_with fail
    generalize v4.alloc (.cells #[.bool g4, .slice p4 n4 c4, .slice q4 m4 d4] 27) = u4 at *
    generalize v4.heap.size = K4 at *
    refine (rRoot_v (4 * S + 200) hH hn4 hm4 (by omega)).mono ?_
    rintro ee v5 ⟨R, ⟨hR1, hR2⟩, g5, p5, n5, c5, rfl, hR, hn5, hg⟩
    replace hR1 := hid hR1; replace hR2 := hid hR2
    replace hA := hA.keep hg; replace hB := hB.keep hg; replace hM := hM.keep hg; replace hH := hH.keep hg
    replace x0 := hg.cell x0 (by simp); replace x1 := hg.cell x1 (by simp); replace x2 := hg.cell x2 (by simp); replace x3 := hg.cell x3 (by simp)
    replace x4 := hg.cell x4 (by simp); replace x5 := hg.cell x5 (by simp); replace y0 := hg.cell y0 (by simp); replace y1 := hg.cell y1 (by simp)
    replace y2 := hg.cell y2 (by simp); replace h0 := hg.cell h0 (by simp); replace h1 := hg.cell h1 (by simp); replace h2 := hg.cell h2 (by simp)
    replace bx1 := (hg.block _ (lt_of_block bx1) (by simp)).trans bx1; replace bu := (hg.block _ (lt_of_block bu) (by simp)).trans bu; replace hW := grown_trans hW hg
    clear hg
    have hl1 := lt_of_block bx1; have hl2 := lt_of_block bu
    have hg := World.grownBy_alloc v5 (.cells #[.bool g5, .slice p5 n5 c5] 25) none
    have bt := heap_alloc_new v5 (.cells #[.bool g5, .slice p5 n5 c5] 25)
    replace hA := hA.keep hg; replace hB := hB.keep hg; replace hM := hM.keep hg; replace hH := hH.keep hg
    replace hR := hR.keep hg; replace x0 := hg.cell x0 (by simp); replace x1 := hg.cell x1 (by simp); replace x2 := hg.cell x2 (by simp)
    replace x3 := hg.cell x3 (by simp); replace x4 := hg.cell x4 (by simp); replace x5 := hg.cell x5 (by simp); replace y0 := hg.cell y0 (by simp)
    replace y1 := hg.cell y1 (by simp); replace y2 := hg.cell y2 (by simp); replace h0 := hg.cell h0 (by simp); replace h1 := hg.cell h1 (by simp)
    replace h2 := hg.cell h2 (by simp); replace bx1 := (hg.block _ (lt_of_block bx1) (by simp)).trans bx1; replace bu := (hg.block _ (lt_of_block bu) (by simp)).trans bu; replace hW := grown_trans hW hg
    clear hg
    obtain ⟨t0, t1, _, _⟩ := intbox_facts bt
    obtain ⟨cc, HC0⟩ : ∃ cc, cc = cmpR (((R : Int) * (R : Int) : Int) : Rat) (B * (((2 ^ (2 * b) : Nat) : Int) : Rat)) := ⟨_, rfl⟩
    have HCC := hid HC0.symm
    clear HC0
    go_wp2_with fail
    generalize v5.alloc (.cells #[.bool g5, .slice p5 n5 c5] 25) = u5 at *
    generalize v5.heap.size = K5 at *
    have hg := grown_drew u5 none
    replace hA := hA.keep hg; replace hB := hB.keep hg; replace hM := hM.keep hg; replace hH := hH.keep hg
    replace hR := hR.keep hg; replace x0 := hg.cell x0 (by simp); replace x1 := hg.cell x1 (by simp); replace x2 := hg.cell x2 (by simp)
    replace x3 := hg.cell x3 (by simp); replace x4 := hg.cell x4 (by simp); replace x5 := hg.cell x5 (by simp); replace y0 := hg.cell y0 (by simp)
    replace y1 := hg.cell y1 (by simp); replace y2 := hg.cell y2 (by simp); replace h0 := hg.cell h0 (by simp); replace h1 := hg.cell h1 (by simp)
    replace h2 := hg.cell h2 (by simp); replace t0 := hg.cell t0 (by simp); replace t1 := hg.cell t1 (by simp); replace bx1 := (hg.block _ (lt_of_block bx1) (by simp)).trans bx1
    replace bu := (hg.block _ (lt_of_block bu) (by simp)).trans bu; replace bt := (hg.block _ (lt_of_block bt) (by simp)).trans bt; replace hW := grown_trans hW hg
    clear hg
    go_region_held3 (fun w' => w'.cell? ⟨K4, 0, none⟩ = some (.bool g4) ∧ w'.cell? ⟨K4, 1, none⟩ = some (.slice p4 n4 c4) ∧ w'.cell? ⟨K4, 2, none⟩ = some (.slice q4 m4 d4) ∧ w'.cell? ⟨K5, 0, none⟩ = some (.bool g5) ∧ w'.cell? ⟨K5, 1, none⟩ = some (.slice p5 n5 c5)) ((try go_split_ands) <;> (repeat' apply And.intro) <;> (repeat (first | (with_reducible assumption) | (with_reducible refine (grown_setCell _ _ _).cell ?_ (by first | (simp; omega) | simp)) | (with_reducible refine (World.grownBy_alloc _ _ none).cell ?_ (by simp)) | (with_reducible refine (grown_drew _ none).cell ?_ (by simp)))))
      (first
        | (go_at_call 50; (with_reducible refine (rMul_any hR.z hR.z (by omega) (by omega)).mono ?_); rintro ee v6 ⟨g6, p6, n6, c6, rfl, hP, hn6, hg⟩; replace hA := hA.keep hg; replace hB := hB.keep hg; replace hM := hM.keep hg; replace hH := hH.keep hg; replace hR := hR.keep hg; replace x0 := hg.cell x0 (by simp); replace x1 := hg.cell x1 (by simp); replace x2 := hg.cell x2 (by simp); replace x3 := hg.cell x3 (by simp); replace x4 := hg.cell x4 (by simp); replace x5 := hg.cell x5 (by simp); replace y0 := hg.cell y0 (by simp); replace y1 := hg.cell y1 (by simp); replace y2 := hg.cell y2 (by simp); replace h0 := hg.cell h0 (by simp); replace h1 := hg.cell h1 (by simp); replace h2 := hg.cell h2 (by simp); replace t0 := hg.cell t0 (by simp); replace t1 := hg.cell t1 (by simp); replace bx1 := (hg.block _ (lt_of_block bx1) (by simp)).trans bx1; replace bu := (hg.block _ (lt_of_block bu) (by simp)).trans bu; replace bt := (hg.block _ (lt_of_block bt) (by simp)).trans bt; replace hW := grown_trans hW hg; clear hg)
        | (go_at_call 51; (with_reducible refine (rofat 1 1 rfl (by unfold W64; omega) _).mono ?_); rintro ee v7 ⟨p7, n7, c7, rfl, hO, hn7, hg⟩; replace hA := hA.keep hg; replace hB := hB.keep hg; replace hM := hM.keep hg; replace hH := hH.keep hg; replace hR := hR.keep hg; replace hP := hP.keep hg; replace x0 := hg.cell x0 (by simp); replace x1 := hg.cell x1 (by simp); replace x2 := hg.cell x2 (by simp); replace x3 := hg.cell x3 (by simp); replace x4 := hg.cell x4 (by simp); replace x5 := hg.cell x5 (by simp); replace y0 := hg.cell y0 (by simp); replace y1 := hg.cell y1 (by simp); replace y2 := hg.cell y2 (by simp); replace h0 := hg.cell h0 (by simp); replace h1 := hg.cell h1 (by simp); replace h2 := hg.cell h2 (by simp); replace t0 := hg.cell t0 (by simp); replace t1 := hg.cell t1 (by simp); replace bx1 := (hg.block _ (lt_of_block bx1) (by simp)).trans bx1; replace bu := (hg.block _ (lt_of_block bu) (by simp)).trans bu; replace bt := (hg.block _ (lt_of_block bt) (by simp)).trans bt; replace hW := grown_trans hW hg; clear hg; have hU := IsQ.int hP.z (IsC.isN hO); clear hO hP)
        | (go_at_call 49; (with_reducible refine (rCmp3_v (8 * S + 500) hU hH.q (by omega) (by omega) (by omega) (by omega) (by omega)).mono ?_); rintro ee v8 ⟨rfl, hg⟩; rw [HCC.out]; replace hA := hA.keep hg; replace hB := hB.keep hg; replace hM := hM.keep hg; replace hH := hH.keep hg; replace hR := hR.keep hg; replace hU := hU.keep hg; replace x0 := hg.cell x0 (by simp); replace x1 := hg.cell x1 (by simp); replace x2 := hg.cell x2 (by simp); replace x3 := hg.cell x3 (by simp); replace x4 := hg.cell x4 (by simp); replace x5 := hg.cell x5 (by simp); replace y0 := hg.cell y0 (by simp); replace y1 := hg.cell y1 (by simp); replace y2 := hg.cell y2 (by simp); replace h0 := hg.cell h0 (by simp); replace h1 := hg.cell h1 (by simp); replace h2 := hg.cell h2 (by simp); replace t0 := hg.cell t0 (by simp); replace t1 := hg.cell t1 (by simp); replace bx1 := (hg.block _ (lt_of_block bx1) (by simp)).trans bx1; replace bu := (hg.block _ (lt_of_block bu) (by simp)).trans bu; replace bt := (hg.block _ (lt_of_block bt) (by simp)).trans bt; replace hW := grown_trans hW hg; clear hg))
    clear hU hH hA hB h0 h1 h2 x0 x1 x2 x3 x4 x5
    by_cases hlt : cc < 0
    · have HLT := hid hlt
      go_wp2_with fail
      clear hlt
      have hg := grown_drew v8 none
      replace hM := hM.keep hg; replace hR := hR.keep hg; replace y0 := hg.cell y0 (by simp); replace y1 := hg.cell y1 (by simp)
      replace y2 := hg.cell y2 (by simp); replace t0 := hg.cell t0 (by simp); replace t1 := hg.cell t1 (by simp); replace bx1 := (hg.block _ (lt_of_block bx1) (by simp)).trans bx1
      replace bu := (hg.block _ (lt_of_block bu) (by simp)).trans bu; replace bt := (hg.block _ (lt_of_block bt) (by simp)).trans bt; replace hW := grown_trans hW hg
      clear hg
      go_region_with (first
          | (go_at_call 53; (with_reducible refine (rOfI 1 _ (by omega) (by omega)).mono ?_); rintro ee v9 ⟨g9, p9, n9, c9, rfl, hE, hn9, hg⟩; replace hM := hM.keep hg; replace hR := hR.keep hg; replace y0 := hg.cell y0 (by simp); replace y1 := hg.cell y1 (by simp); replace y2 := hg.cell y2 (by simp); replace t0 := hg.cell t0 (by simp); replace t1 := hg.cell t1 (by simp); replace bx1 := (hg.block _ (lt_of_block bx1) (by simp)).trans bx1; replace bu := (hg.block _ (lt_of_block bu) (by simp)).trans bu; replace bt := (hg.block _ (lt_of_block bt) (by simp)).trans bt; replace hW := grown_trans hW hg; clear hg)
          | (go_at_call 52; (with_reducible refine (rAdd_any hR.z hE.z (by omega) (by omega)).mono ?_); rintro ee v10 ⟨g10, p10, n10, c10, rfl, hT, hn10, hg⟩; replace hM := hM.keep hg; replace hR := hR.keep hg; replace hE := hE.keep hg; replace y0 := hg.cell y0 (by simp); replace y1 := hg.cell y1 (by simp); replace y2 := hg.cell y2 (by simp); replace t0 := hg.cell t0 (by simp); replace t1 := hg.cell t1 (by simp); replace bx1 := (hg.block _ (lt_of_block bx1) (by simp)).trans bx1; replace bu := (hg.block _ (lt_of_block bu) (by simp)).trans bu; replace bt := (hg.block _ (lt_of_block bt) (by simp)).trans bt; replace hW := grown_trans hW hg; clear hg; obtain ⟨_, _, fz0, fz1⟩ := intbox_facts bt; have ltK := lt_of_block bt))
      all_goals
        rw [show (R : Int) + 1 = ((R + 1 : Nat) : Int) by omega] at hT
        have hs := set2_grown v10 K5 (.bool g10) (.slice p10 n10 c10)
        have bt2 := set2_block bt g10 p10 n10 c10
        replace hM := IsV.o2 hM bt hs; replace hT : IsI _ _ _ _ _ _ := ⟨hT.1.other2 bt hs, hT.2⟩
        replace y0 := hs.cell y0 (by simp; omega); replace y1 := hs.cell y1 (by simp; omega); replace y2 := hs.cell y2 (by simp; omega)
        replace bx1 := (hs.block _ (lt_of_block bx1) (by simp; omega)).trans bx1
        replace hW := grown_new hW hs (fun g e => by cases e; omega)
        clear hs bt bu t0 t1 hE hR
        obtain ⟨t0, t1, _, _⟩ := intbox_facts bt2
        go_wp2_with fail
        generalize ((v10.setCell ⟨K5, 0, none⟩ (.bool g10)).setCell ⟨K5, 1, none⟩ (.slice p10 n10 c10)) = w9 at *
        have hg := grown_drew w9 none
        replace hM := hM.keep hg; replace hT := hT.keep hg; replace y0 := hg.cell y0 (by simp); replace y1 := hg.cell y1 (by simp)
        replace y2 := hg.cell y2 (by simp); replace t0 := hg.cell t0 (by simp); replace t1 := hg.cell t1 (by simp); replace bx1 := (hg.block _ (lt_of_block bx1) (by simp)).trans bx1
        replace hW := grown_trans hW hg
        clear hg
        go_region_held3 (fun w' => w'.cell? ⟨u, 0, none⟩ = some (.bool g3) ∧ w'.cell? ⟨u, 1, none⟩ = some (.slice p3 n3 c3) ∧ w'.cell? ⟨u, 2, none⟩ = some (.slice q3 m3 d3) ∧ w'.cell? ⟨K5, 0, none⟩ = some (.bool g10) ∧ w'.cell? ⟨K5, 1, none⟩ = some (.slice p10 n10 c10)) ((try go_split_ands) <;> (repeat' apply And.intro) <;> (repeat (first | (with_reducible assumption) | (with_reducible refine (grown_setCell _ _ _).cell ?_ (by first | (simp; omega) | simp)) | (with_reducible refine (World.grownBy_alloc _ _ none).cell ?_ (by simp)) | (with_reducible refine (grown_drew _ none).cell ?_ (by simp)))))
          (first
            | (go_at_call 40; (with_reducible refine (rScaled_z (S + 20) hM (2 * b) _ (by omega) (by omega) (by omega) (by omega) (by omega)).mono ?_); rintro ee v21 ⟨g21, p21, n21, c21, q21, m21, d21, rfl, hX, hn21, hm21, hg⟩; replace hM := hM.keep hg; replace hT := hT.keep hg; replace y0 := hg.cell y0 (by simp); replace y1 := hg.cell y1 (by simp); replace y2 := hg.cell y2 (by simp); replace t0 := hg.cell t0 (by simp); replace t1 := hg.cell t1 (by simp); replace bx1 := (hg.block _ (lt_of_block bx1) (by simp)).trans bx1; replace hW := grown_trans hW hg; clear hg)
            | (go_at_call 48; (with_reducible refine (rRoot_v (4 * S + 280) hX (by omega) (by omega) (by omega)).mono ?_); rintro ee v22 ⟨Q, ⟨hQ1, hQ2⟩, g22, p22, n22, c22, rfl, hQ, hn22, hg⟩; replace hM := hM.keep hg; replace hT := hT.keep hg; replace hX := hX.keep hg; replace y0 := hg.cell y0 (by simp); replace y1 := hg.cell y1 (by simp); replace y2 := hg.cell y2 (by simp); replace t0 := hg.cell t0 (by simp); replace t1 := hg.cell t1 (by simp); replace bx1 := (hg.block _ (lt_of_block bx1) (by simp)).trans bx1; replace hW := grown_trans hW hg; clear hg; replace hQ1 := hid hQ1; replace hQ2 := hid hQ2)
            | (go_at_call 38; (with_reducible refine (rGrid_v (4 * S + 300) hQ.z b (by omega) (by omega) (by omega)).mono ?_); rintro ee v23 ⟨g23, p23, n23, c23, q23, m23, d23, rfl, hL, hn23, hm23, hg⟩; replace hM := hM.keep hg; replace hT := hT.keep hg; replace hX := hX.keep hg; replace hQ := hQ.keep hg; replace y0 := hg.cell y0 (by simp); replace y1 := hg.cell y1 (by simp); replace y2 := hg.cell y2 (by simp); replace t0 := hg.cell t0 (by simp); replace t1 := hg.cell t1 (by simp); replace bx1 := (hg.block _ (lt_of_block bx1) (by simp)).trans bx1; replace hW := grown_trans hW hg; clear hg)
            | (go_at_call 38; (with_reducible refine (rGrid_v (4 * S + 300) hT.z b (by omega) (by omega) (by omega)).mono ?_); rintro ee v24 ⟨g24, p24, n24, c24, q24, m24, d24, rfl, hZ, hn24, hm24, hg⟩; replace hM := hM.keep hg; replace hT := hT.keep hg; replace hX := hX.keep hg; replace hQ := hQ.keep hg; replace hL := hL.keep hg; replace y0 := hg.cell y0 (by simp); replace y1 := hg.cell y1 (by simp); replace y2 := hg.cell y2 (by simp); replace t0 := hg.cell t0 (by simp); replace t1 := hg.cell t1 (by simp); replace bx1 := (hg.block _ (lt_of_block bx1) (by simp)).trans bx1; replace hW := grown_trans hW hg; clear hg; have ff := ivbox_facts bx1; obtain ⟨⟨l0, l1, l2, l3, l4, l5⟩, f0, f1, f2, f3, f4, f5⟩ := ff))
        go_wp2_with fail
        exact bodyPost_ret (v := .tuple #[.agg #[.bool g23, .slice p23 n23 c23, .slice q23 m23 d23, .bool g24, .slice p24 n24 c24, .slice q24 m24 d24], .int .i64 0]) (by simp [results, Tryz.results11, go_sem, l0, l1, l2, l3, l4, l5, f0, f1, f2, f3, f4, f5]) rfl
          ⟨Q, R, R + 1, ⟨hQ1.out, hQ2.out⟩, ⟨hR1.out, hR2.out⟩, by rw [HCC.out, if_pos (by have := HLT.out; omega)], WTPost.close bx1 (by omega) hW hL hZ ⟨by omega, by omega⟩ ⟨by omega, by omega⟩⟩
    · have HLT := hid hlt
      go_wp2_with fail
      clear hlt
      have hg := grown_drew v8 none
      replace hM := hM.keep hg; replace hR := hR.keep hg; replace y0 := hg.cell y0 (by simp); replace y1 := hg.cell y1 (by simp)
      replace y2 := hg.cell y2 (by simp); replace t0 := hg.cell t0 (by simp); replace t1 := hg.cell t1 (by simp); replace bx1 := (hg.block _ (lt_of_block bx1) (by simp)).trans bx1
      replace bu := (hg.block _ (lt_of_block bu) (by simp)).trans bu; replace bt := (hg.block _ (lt_of_block bt) (by simp)).trans bt; replace hW := grown_trans hW hg
      clear hg
      go_region_held3 (fun w' => w'.cell? ⟨u, 0, none⟩ = some (.bool g3) ∧ w'.cell? ⟨u, 1, none⟩ = some (.slice p3 n3 c3) ∧ w'.cell? ⟨u, 2, none⟩ = some (.slice q3 m3 d3) ∧ w'.cell? ⟨K5, 0, none⟩ = some (.bool g5) ∧ w'.cell? ⟨K5, 1, none⟩ = some (.slice p5 n5 c5)) ((try go_split_ands) <;> (repeat' apply And.intro) <;> (repeat (first | (with_reducible assumption) | (with_reducible refine (grown_setCell _ _ _).cell ?_ (by first | (simp; omega) | simp)) | (with_reducible refine (World.grownBy_alloc _ _ none).cell ?_ (by simp)) | (with_reducible refine (grown_drew _ none).cell ?_ (by simp)))))
        (first
          | (go_at_call 40; (with_reducible refine (rScaled_z (S + 20) hM (2 * b) _ (by omega) (by omega) (by omega) (by omega) (by omega)).mono ?_); rintro ee v21 ⟨g21, p21, n21, c21, q21, m21, d21, rfl, hX, hn21, hm21, hg⟩; replace hM := hM.keep hg; replace hR := hR.keep hg; replace y0 := hg.cell y0 (by simp); replace y1 := hg.cell y1 (by simp); replace y2 := hg.cell y2 (by simp); replace t0 := hg.cell t0 (by simp); replace t1 := hg.cell t1 (by simp); replace bx1 := (hg.block _ (lt_of_block bx1) (by simp)).trans bx1; replace bu := (hg.block _ (lt_of_block bu) (by simp)).trans bu; replace bt := (hg.block _ (lt_of_block bt) (by simp)).trans bt; replace hW := grown_trans hW hg; clear hg)
          | (go_at_call 48; (with_reducible refine (rRoot_v (4 * S + 280) hX (by omega) (by omega) (by omega)).mono ?_); rintro ee v22 ⟨Q, ⟨hQ1, hQ2⟩, g22, p22, n22, c22, rfl, hQ, hn22, hg⟩; replace hM := hM.keep hg; replace hR := hR.keep hg; replace hX := hX.keep hg; replace y0 := hg.cell y0 (by simp); replace y1 := hg.cell y1 (by simp); replace y2 := hg.cell y2 (by simp); replace t0 := hg.cell t0 (by simp); replace t1 := hg.cell t1 (by simp); replace bx1 := (hg.block _ (lt_of_block bx1) (by simp)).trans bx1; replace bu := (hg.block _ (lt_of_block bu) (by simp)).trans bu; replace bt := (hg.block _ (lt_of_block bt) (by simp)).trans bt; replace hW := grown_trans hW hg; clear hg; replace hQ1 := hid hQ1; replace hQ2 := hid hQ2)
          | (go_at_call 38; (with_reducible refine (rGrid_v (4 * S + 300) hQ.z b (by omega) (by omega) (by omega)).mono ?_); rintro ee v23 ⟨g23, p23, n23, c23, q23, m23, d23, rfl, hL, hn23, hm23, hg⟩; replace hM := hM.keep hg; replace hR := hR.keep hg; replace hX := hX.keep hg; replace hQ := hQ.keep hg; replace y0 := hg.cell y0 (by simp); replace y1 := hg.cell y1 (by simp); replace y2 := hg.cell y2 (by simp); replace t0 := hg.cell t0 (by simp); replace t1 := hg.cell t1 (by simp); replace bx1 := (hg.block _ (lt_of_block bx1) (by simp)).trans bx1; replace bu := (hg.block _ (lt_of_block bu) (by simp)).trans bu; replace bt := (hg.block _ (lt_of_block bt) (by simp)).trans bt; replace hW := grown_trans hW hg; clear hg)
          | (go_at_call 38; (with_reducible refine (rGrid_v (4 * S + 300) hR.z b (by omega) (by omega) (by omega)).mono ?_); rintro ee v24 ⟨g24, p24, n24, c24, q24, m24, d24, rfl, hZ, hn24, hm24, hg⟩; replace hM := hM.keep hg; replace hR := hR.keep hg; replace hX := hX.keep hg; replace hQ := hQ.keep hg; replace hL := hL.keep hg; replace y0 := hg.cell y0 (by simp); replace y1 := hg.cell y1 (by simp); replace y2 := hg.cell y2 (by simp); replace t0 := hg.cell t0 (by simp); replace t1 := hg.cell t1 (by simp); replace bx1 := (hg.block _ (lt_of_block bx1) (by simp)).trans bx1; replace bu := (hg.block _ (lt_of_block bu) (by simp)).trans bu; replace bt := (hg.block _ (lt_of_block bt) (by simp)).trans bt; replace hW := grown_trans hW hg; clear hg; have ff := ivbox_facts bx1; obtain ⟨⟨l0, l1, l2, l3, l4, l5⟩, f0, f1, f2, f3, f4, f5⟩ := ff))
      go_wp2_with fail
      exact bodyPost_ret (v := .tuple #[.agg #[.bool g23, .slice p23 n23 c23, .slice q23 m23 d23, .bool g24, .slice p24 n24 c24, .slice q24 m24 d24], .int .i64 0]) (by simp [results, Tryz.results11, go_sem, l0, l1, l2, l3, l4, l5, f0, f1, f2, f3, f4, f5]) rfl
        ⟨Q, R, R, ⟨hQ1.out, hQ2.out⟩, ⟨hR1.out, hR2.out⟩, by rw [HCC.out, if_neg (by have := HLT.out; omega)], WTPost.close bx1 (by omega) hW hL hZ ⟨by omega, by omega⟩ ⟨by omega, by omega⟩⟩
end Go.Proofs.YtcjoecmkkpmjmaaGreatDoor

set_option linter.unusedVariables false
set_option linter.unusedSimpArgs false
namespace Go.Proofs.YtcjoecmkkpmjmaaGreatDoor
open Go.RowKit Nm
open Go

theorem isGrid_out {w : World} (z : Int) (h : z < 0 ∨ 200 < z) :
    Calls Tryz.prog 34 #[.int .i64 z] w fun e w' => e = .returned (.bool false) ∧ w = w' := by
  by_cases h0 : 0 ≤ z
  · have h1 : ¬ z ≤ 200 := by omega
    have h2 : 200 < z := by omega
    clear h
    go_enter Tryz.func34, Tryz.ntmps34
    go_wp2
    go_ret
    exact ⟨rfl, rfl⟩
  · have h1 : z < 0 := by omega
    clear h
    go_enter Tryz.func34, Tryz.ntmps34
    go_wp2
    go_ret
    exact ⟨rfl, rfl⟩

set_option maxRecDepth 20000 in
set_option maxHeartbeats 4000000 in
theorem ivRound_e (w : World) (g1 g2 : Bool) (p1 q1 p2 q2 : Option Addr) (n1 c1 m1 d1 n2 c2 m2 d2 : Nat) (z : Int) (hz : z < 0 ∨ 200 < z) :
    Calls Tryz.prog 8 #[.agg #[.bool g1, .slice p1 n1 c1, .slice q1 m1 d1, .bool g2, .slice p2 n2 c2, .slice q2 m2 d2], .int .i64 z] w (WEPost w 2) := by
  have hW := (grown_trans (World.grownBy_alloc w (.cells #[.bool g1, .slice p1 n1 c1, .slice q1 m1 d1, .bool g2, .slice p2 n2 c2, .slice q2 m2 d2] 29) none) (World.grownBy_alloc _ (.cells #[.bool false, .slice none 0 0, .slice none 0 0, .bool false, .slice none 0 0, .slice none 0 0] 29) none))
  have bx0 : ((w.alloc (.cells #[.bool g1, .slice p1 n1 c1, .slice q1 m1 d1, .bool g2, .slice p2 n2 c2, .slice q2 m2 d2] 29)).alloc (.cells #[.bool false, .slice none 0 0, .slice none 0 0, .bool false, .slice none 0 0, .slice none 0 0] 29)).heap[w.heap.size]? = some (.cells #[.bool g1, .slice p1 n1 c1, .slice q1 m1 d1, .bool g2, .slice p2 n2 c2, .slice q2 m2 d2] 29 (0, 0)) := by
    have h0 := heap_alloc_new w (.cells #[.bool g1, .slice p1 n1 c1, .slice q1 m1 d1, .bool g2, .slice p2 n2 c2, .slice q2 m2 d2] 29)
    have h1 := (World.grownBy_alloc (w.alloc (.cells #[.bool g1, .slice p1 n1 c1, .slice q1 m1 d1, .bool g2, .slice p2 n2 c2, .slice q2 m2 d2] 29)) (.cells #[.bool false, .slice none 0 0, .slice none 0 0, .bool false, .slice none 0 0, .slice none 0 0] 29) none).block _ (lt_of_block h0) (by simp)
    have h2 := h1.trans h0
    simpa using h2
  have bx1 : ((w.alloc (.cells #[.bool g1, .slice p1 n1 c1, .slice q1 m1 d1, .bool g2, .slice p2 n2 c2, .slice q2 m2 d2] 29)).alloc (.cells #[.bool false, .slice none 0 0, .slice none 0 0, .bool false, .slice none 0 0, .slice none 0 0] 29)).heap[w.heap.size + 1]? = some (.cells #[.bool false, .slice none 0 0, .slice none 0 0, .bool false, .slice none 0 0, .slice none 0 0] 29 (0, 0)) := by
    have := heap_alloc_new (w.alloc (.cells #[.bool g1, .slice p1 n1 c1, .slice q1 m1 d1, .bool g2, .slice p2 n2 c2, .slice q2 m2 d2] 29)) (.cells #[.bool false, .slice none 0 0, .slice none 0 0, .bool false, .slice none 0 0, .slice none 0 0] 29)
    simpa using this
  skip
  obtain ⟨⟨x0, x1, x2, x3, x4, x5⟩, _⟩ := ivbox_facts bx0
  clear bx0
  go_enter Tryz.func8, Tryz.ntmps8
  go_wp2_with fail
  generalize ((w.alloc (.cells #[.bool g1, .slice p1 n1 c1, .slice q1 m1 d1, .bool g2, .slice p2 n2 c2, .slice q2 m2 d2] 29)).alloc (.cells #[.bool false, .slice none 0 0, .slice none 0 0, .bool false, .slice none 0 0, .slice none 0 0] 29)) = w0 at *
  refine (isGrid_out z hz).mono ?_
  rintro ee v1 ⟨rfl, rfl⟩
  have ff := ivbox_facts bx1; obtain ⟨⟨l0, l1, l2, l3, l4, l5⟩, f0, f1, f2, f3, f4, f5⟩ := ff
  go_wp2_with fail
  exact bodyPost_ret (v := .tuple #[.agg #[.bool false, .slice none 0 0, .slice none 0 0, .bool false, .slice none 0 0, .slice none 0 0], .int .i64 2]) (by simp [results, Tryz.results8, go_sem, l0, l1, l2, l3, l4, l5, f0, f1, f2, f3, f4, f5]) rfl
    (WEPost.close (by omega) hW _ _ _ _ _ _ _)

set_option maxRecDepth 20000 in
set_option maxHeartbeats 4000000 in
theorem ivSqrt_out (w : World) (g1 g2 : Bool) (p1 q1 p2 q2 : Option Addr) (n1 c1 m1 d1 n2 c2 m2 d2 : Nat) (z : Int) (hz : z < 0 ∨ 200 < z) :
    Calls Tryz.prog 10 #[.agg #[.bool g1, .slice p1 n1 c1, .slice q1 m1 d1, .bool g2, .slice p2 n2 c2, .slice q2 m2 d2], .int .i64 z] w (WEPost w 2) := by
  have hW := (grown_trans (World.grownBy_alloc w (.cells #[.bool g1, .slice p1 n1 c1, .slice q1 m1 d1, .bool g2, .slice p2 n2 c2, .slice q2 m2 d2] 29) none) (World.grownBy_alloc _ (.cells #[.bool false, .slice none 0 0, .slice none 0 0, .bool false, .slice none 0 0, .slice none 0 0] 29) none))
  have bx0 : ((w.alloc (.cells #[.bool g1, .slice p1 n1 c1, .slice q1 m1 d1, .bool g2, .slice p2 n2 c2, .slice q2 m2 d2] 29)).alloc (.cells #[.bool false, .slice none 0 0, .slice none 0 0, .bool false, .slice none 0 0, .slice none 0 0] 29)).heap[w.heap.size]? = some (.cells #[.bool g1, .slice p1 n1 c1, .slice q1 m1 d1, .bool g2, .slice p2 n2 c2, .slice q2 m2 d2] 29 (0, 0)) := by
    have h0 := heap_alloc_new w (.cells #[.bool g1, .slice p1 n1 c1, .slice q1 m1 d1, .bool g2, .slice p2 n2 c2, .slice q2 m2 d2] 29)
    have h1 := (World.grownBy_alloc (w.alloc (.cells #[.bool g1, .slice p1 n1 c1, .slice q1 m1 d1, .bool g2, .slice p2 n2 c2, .slice q2 m2 d2] 29)) (.cells #[.bool false, .slice none 0 0, .slice none 0 0, .bool false, .slice none 0 0, .slice none 0 0] 29) none).block _ (lt_of_block h0) (by simp)
    have h2 := h1.trans h0
    simpa using h2
  have bx1 : ((w.alloc (.cells #[.bool g1, .slice p1 n1 c1, .slice q1 m1 d1, .bool g2, .slice p2 n2 c2, .slice q2 m2 d2] 29)).alloc (.cells #[.bool false, .slice none 0 0, .slice none 0 0, .bool false, .slice none 0 0, .slice none 0 0] 29)).heap[w.heap.size + 1]? = some (.cells #[.bool false, .slice none 0 0, .slice none 0 0, .bool false, .slice none 0 0, .slice none 0 0] 29 (0, 0)) := by
    have := heap_alloc_new (w.alloc (.cells #[.bool g1, .slice p1 n1 c1, .slice q1 m1 d1, .bool g2, .slice p2 n2 c2, .slice q2 m2 d2] 29)) (.cells #[.bool false, .slice none 0 0, .slice none 0 0, .bool false, .slice none 0 0, .slice none 0 0] 29)
    simpa using this
  skip
  obtain ⟨⟨x0, x1, x2, x3, x4, x5⟩, _⟩ := ivbox_facts bx0
  clear bx0
  go_enter Tryz.func10, Tryz.ntmps10
  go_wp2_with fail
  generalize ((w.alloc (.cells #[.bool g1, .slice p1 n1 c1, .slice q1 m1 d1, .bool g2, .slice p2 n2 c2, .slice q2 m2 d2] 29)).alloc (.cells #[.bool false, .slice none 0 0, .slice none 0 0, .bool false, .slice none 0 0, .slice none 0 0] 29)) = w0 at *
  refine (isGrid_out z hz).mono ?_
  rintro ee v1 ⟨rfl, rfl⟩
  have ff := ivbox_facts bx1; obtain ⟨⟨l0, l1, l2, l3, l4, l5⟩, f0, f1, f2, f3, f4, f5⟩ := ff
  go_wp2_with fail
  exact bodyPost_ret (v := .tuple #[.agg #[.bool false, .slice none 0 0, .slice none 0 0, .bool false, .slice none 0 0, .slice none 0 0], .int .i64 2]) (by simp [results, Tryz.results10, go_sem, l0, l1, l2, l3, l4, l5, f0, f1, f2, f3, f4, f5]) rfl
    (WEPost.close (by omega) hW _ _ _ _ _ _ _)

set_option maxRecDepth 20000 in
set_option maxHeartbeats 4000000 in
theorem ivSqrt_neg (S : Nat) {w : World} {g1 g2 : Bool} {p1 q1 p2 q2 : Option Addr} {n1 c1 m1 d1 n2 c2 m2 d2 : Nat} {B : Rat} (hB : IsV w g2 p2 n2 c2 q2 m2 d2 B) (hb : B < 0) (hn2 : n2 ≤ S) (hm2 : m2 ≤ S) (hS : S ≤ 1000) (z : Int) (h0 : 0 ≤ z) (h1 : z ≤ 200) :
    Calls Tryz.prog 10 #[.agg #[.bool g1, .slice p1 n1 c1, .slice q1 m1 d1, .bool g2, .slice p2 n2 c2, .slice q2 m2 d2], .int .i64 z] w (WEPost w 2) := by
  have hc : cmpR B 0 < 0 := by rw [cmpR_lt hb]; omega
  have hW := (grown_trans (World.grownBy_alloc w (.cells #[.bool g1, .slice p1 n1 c1, .slice q1 m1 d1, .bool g2, .slice p2 n2 c2, .slice q2 m2 d2] 29) none) (World.grownBy_alloc _ (.cells #[.bool false, .slice none 0 0, .slice none 0 0, .bool false, .slice none 0 0, .slice none 0 0] 29) none))
  have bx0 : ((w.alloc (.cells #[.bool g1, .slice p1 n1 c1, .slice q1 m1 d1, .bool g2, .slice p2 n2 c2, .slice q2 m2 d2] 29)).alloc (.cells #[.bool false, .slice none 0 0, .slice none 0 0, .bool false, .slice none 0 0, .slice none 0 0] 29)).heap[w.heap.size]? = some (.cells #[.bool g1, .slice p1 n1 c1, .slice q1 m1 d1, .bool g2, .slice p2 n2 c2, .slice q2 m2 d2] 29 (0, 0)) := by
    have h0 := heap_alloc_new w (.cells #[.bool g1, .slice p1 n1 c1, .slice q1 m1 d1, .bool g2, .slice p2 n2 c2, .slice q2 m2 d2] 29)
    have h1 := (World.grownBy_alloc (w.alloc (.cells #[.bool g1, .slice p1 n1 c1, .slice q1 m1 d1, .bool g2, .slice p2 n2 c2, .slice q2 m2 d2] 29)) (.cells #[.bool false, .slice none 0 0, .slice none 0 0, .bool false, .slice none 0 0, .slice none 0 0] 29) none).block _ (lt_of_block h0) (by simp)
    have h2 := h1.trans h0
    simpa using h2
  have bx1 : ((w.alloc (.cells #[.bool g1, .slice p1 n1 c1, .slice q1 m1 d1, .bool g2, .slice p2 n2 c2, .slice q2 m2 d2] 29)).alloc (.cells #[.bool false, .slice none 0 0, .slice none 0 0, .bool false, .slice none 0 0, .slice none 0 0] 29)).heap[w.heap.size + 1]? = some (.cells #[.bool false, .slice none 0 0, .slice none 0 0, .bool false, .slice none 0 0, .slice none 0 0] 29 (0, 0)) := by
    have := heap_alloc_new (w.alloc (.cells #[.bool g1, .slice p1 n1 c1, .slice q1 m1 d1, .bool g2, .slice p2 n2 c2, .slice q2 m2 d2] 29)) (.cells #[.bool false, .slice none 0 0, .slice none 0 0, .bool false, .slice none 0 0, .slice none 0 0] 29)
    simpa using this
  replace hB := hB.keep hW
  obtain ⟨⟨x0, x1, x2, x3, x4, x5⟩, _⟩ := ivbox_facts bx0
  clear bx0
  go_enter Tryz.func10, Tryz.ntmps10
  go_wp2_with fail
  generalize ((w.alloc (.cells #[.bool g1, .slice p1 n1 c1, .slice q1 m1 d1, .bool g2, .slice p2 n2 c2, .slice q2 m2 d2] 29)).alloc (.cells #[.bool false, .slice none 0 0, .slice none 0 0, .bool false, .slice none 0 0, .slice none 0 0] 29)) = w0 at *
  refine (isGrid_in z h0 h1).mono ?_
  rintro ee v1 ⟨rfl, rfl⟩
  go_wp2_with fail
  refine (ratSign_v S hB.q hn2 hm2 (by omega)).mono ?_
  rintro ee v2 ⟨rfl, hg⟩
  replace hB := hB.keep hg; replace x0 := hg.cell x0 (by simp); replace x1 := hg.cell x1 (by simp); replace x2 := hg.cell x2 (by simp)
  replace x3 := hg.cell x3 (by simp); replace x4 := hg.cell x4 (by simp); replace x5 := hg.cell x5 (by simp); replace bx1 := (hg.block _ (lt_of_block bx1) (by simp)).trans bx1
  replace hW := grown_trans hW hg
  clear hg
  have ff := ivbox_facts bx1; obtain ⟨⟨l0, l1, l2, l3, l4, l5⟩, f0, f1, f2, f3, f4, f5⟩ := ff
  go_wp2_with fail
  exact bodyPost_ret (v := .tuple #[.agg #[.bool false, .slice none 0 0, .slice none 0 0, .bool false, .slice none 0 0, .slice none 0 0], .int .i64 2]) (by simp [results, Tryz.results10, go_sem, l0, l1, l2, l3, l4, l5, f0, f1, f2, f3, f4, f5]) rfl
    (WEPost.close (by omega) hW _ _ _ _ _ _ _)

set_option maxRecDepth 20000 in
set_option maxHeartbeats 4000000 in
theorem rIvRound_e (w : World) (g1 g2 : Bool) (p1 q1 p2 q2 : Option Addr) (n1 c1 m1 d1 n2 c2 m2 d2 : Nat) (z : Int) (hz : z < 0 ∨ 200 < z) :
    Calls Tryz.prog 9 #[.agg #[.bool g1, .slice p1 n1 c1, .slice q1 m1 d1, .bool g2, .slice p2 n2 c2, .slice q2 m2 d2], .int .i64 z] w (WEPost w 2) := by
  have hW := (grown_trans (World.grownBy_alloc w (.cells #[.bool g1, .slice p1 n1 c1, .slice q1 m1 d1, .bool g2, .slice p2 n2 c2, .slice q2 m2 d2] 29) none) (World.grownBy_alloc _ (.cells #[.bool false, .slice none 0 0, .slice none 0 0, .bool false, .slice none 0 0, .slice none 0 0] 29) none))
  have bx0 : ((w.alloc (.cells #[.bool g1, .slice p1 n1 c1, .slice q1 m1 d1, .bool g2, .slice p2 n2 c2, .slice q2 m2 d2] 29)).alloc (.cells #[.bool false, .slice none 0 0, .slice none 0 0, .bool false, .slice none 0 0, .slice none 0 0] 29)).heap[w.heap.size]? = some (.cells #[.bool g1, .slice p1 n1 c1, .slice q1 m1 d1, .bool g2, .slice p2 n2 c2, .slice q2 m2 d2] 29 (0, 0)) := by
    have h0 := heap_alloc_new w (.cells #[.bool g1, .slice p1 n1 c1, .slice q1 m1 d1, .bool g2, .slice p2 n2 c2, .slice q2 m2 d2] 29)
    have h1 := (World.grownBy_alloc (w.alloc (.cells #[.bool g1, .slice p1 n1 c1, .slice q1 m1 d1, .bool g2, .slice p2 n2 c2, .slice q2 m2 d2] 29)) (.cells #[.bool false, .slice none 0 0, .slice none 0 0, .bool false, .slice none 0 0, .slice none 0 0] 29) none).block _ (lt_of_block h0) (by simp)
    have h2 := h1.trans h0
    simpa using h2
  have bx1 : ((w.alloc (.cells #[.bool g1, .slice p1 n1 c1, .slice q1 m1 d1, .bool g2, .slice p2 n2 c2, .slice q2 m2 d2] 29)).alloc (.cells #[.bool false, .slice none 0 0, .slice none 0 0, .bool false, .slice none 0 0, .slice none 0 0] 29)).heap[w.heap.size + 1]? = some (.cells #[.bool false, .slice none 0 0, .slice none 0 0, .bool false, .slice none 0 0, .slice none 0 0] 29 (0, 0)) := by
    have := heap_alloc_new (w.alloc (.cells #[.bool g1, .slice p1 n1 c1, .slice q1 m1 d1, .bool g2, .slice p2 n2 c2, .slice q2 m2 d2] 29)) (.cells #[.bool false, .slice none 0 0, .slice none 0 0, .bool false, .slice none 0 0, .slice none 0 0] 29)
    simpa using this
  skip
  obtain ⟨⟨x0, x1, x2, x3, x4, x5⟩, _⟩ := ivbox_facts bx0
  clear bx0
  go_enter Tryz.func9, Tryz.ntmps9
  go_upto_region 1 with fail
  generalize ((w.alloc (.cells #[.bool g1, .slice p1 n1 c1, .slice q1 m1 d1, .bool g2, .slice p2 n2 c2, .slice q2 m2 d2] 29)).alloc (.cells #[.bool false, .slice none 0 0, .slice none 0 0, .bool false, .slice none 0 0, .slice none 0 0] 29)) = w0 at *
  by_cases hz0 : z < 0
  · have ff := ivbox_facts bx1; obtain ⟨⟨l0, l1, l2, l3, l4, l5⟩, f0, f1, f2, f3, f4, f5⟩ := ff
    go_wp2_with fail
    exact bodyPost_ret (v := .tuple #[.agg #[.bool false, .slice none 0 0, .slice none 0 0, .bool false, .slice none 0 0, .slice none 0 0], .int .i64 2]) (by simp [results, Tryz.results9, go_sem, l0, l1, l2, l3, l4, l5, f0, f1, f2, f3, f4, f5]) rfl
      (WEPost.close (by omega) hW _ _ _ _ _ _ _)
  · have hz1 : 200 < z := by omega
    have ff := ivbox_facts bx1; obtain ⟨⟨l0, l1, l2, l3, l4, l5⟩, f0, f1, f2, f3, f4, f5⟩ := ff
    go_wp2_with fail
    exact bodyPost_ret (v := .tuple #[.agg #[.bool false, .slice none 0 0, .slice none 0 0, .bool false, .slice none 0 0, .slice none 0 0], .int .i64 2]) (by simp [results, Tryz.results9, go_sem, l0, l1, l2, l3, l4, l5, f0, f1, f2, f3, f4, f5]) rfl
      (WEPost.close (by omega) hW _ _ _ _ _ _ _)

set_option maxRecDepth 20000 in
set_option maxHeartbeats 4000000 in
theorem rSqrt_e (S : Nat) {w : World} {g1 g2 : Bool} {p1 q1 p2 q2 : Option Addr} {n1 c1 m1 d1 n2 c2 m2 d2 : Nat} {B : Rat} (hB : IsV w g2 p2 n2 c2 q2 m2 d2 B) (hn2 : n2 ≤ S) (hm2 : m2 ≤ S) (hS : S ≤ 1000) (z : Int) (hz : B < 0 ∨ z < 0 ∨ 200 < z) :
    Calls Tryz.prog 11 #[.agg #[.bool g1, .slice p1 n1 c1, .slice q1 m1 d1, .bool g2, .slice p2 n2 c2, .slice q2 m2 d2], .int .i64 z] w (WEPost w 2) := by
  have hW := (grown_trans (World.grownBy_alloc w (.cells #[.bool g1, .slice p1 n1 c1, .slice q1 m1 d1, .bool g2, .slice p2 n2 c2, .slice q2 m2 d2] 29) none) (World.grownBy_alloc _ (.cells #[.bool false, .slice none 0 0, .slice none 0 0, .bool false, .slice none 0 0, .slice none 0 0] 29) none))
  have bx0 : ((w.alloc (.cells #[.bool g1, .slice p1 n1 c1, .slice q1 m1 d1, .bool g2, .slice p2 n2 c2, .slice q2 m2 d2] 29)).alloc (.cells #[.bool false, .slice none 0 0, .slice none 0 0, .bool false, .slice none 0 0, .slice none 0 0] 29)).heap[w.heap.size]? = some (.cells #[.bool g1, .slice p1 n1 c1, .slice q1 m1 d1, .bool g2, .slice p2 n2 c2, .slice q2 m2 d2] 29 (0, 0)) := by
    have h0 := heap_alloc_new w (.cells #[.bool g1, .slice p1 n1 c1, .slice q1 m1 d1, .bool g2, .slice p2 n2 c2, .slice q2 m2 d2] 29)
    have h1 := (World.grownBy_alloc (w.alloc (.cells #[.bool g1, .slice p1 n1 c1, .slice q1 m1 d1, .bool g2, .slice p2 n2 c2, .slice q2 m2 d2] 29)) (.cells #[.bool false, .slice none 0 0, .slice none 0 0, .bool false, .slice none 0 0, .slice none 0 0] 29) none).block _ (lt_of_block h0) (by simp)
    have h2 := h1.trans h0
    simpa using h2
  have bx1 : ((w.alloc (.cells #[.bool g1, .slice p1 n1 c1, .slice q1 m1 d1, .bool g2, .slice p2 n2 c2, .slice q2 m2 d2] 29)).alloc (.cells #[.bool false, .slice none 0 0, .slice none 0 0, .bool false, .slice none 0 0, .slice none 0 0] 29)).heap[w.heap.size + 1]? = some (.cells #[.bool false, .slice none 0 0, .slice none 0 0, .bool false, .slice none 0 0, .slice none 0 0] 29 (0, 0)) := by
    have := heap_alloc_new (w.alloc (.cells #[.bool g1, .slice p1 n1 c1, .slice q1 m1 d1, .bool g2, .slice p2 n2 c2, .slice q2 m2 d2] 29)) (.cells #[.bool false, .slice none 0 0, .slice none 0 0, .bool false, .slice none 0 0, .slice none 0 0] 29)
    simpa using this
  replace hB := hB.keep hW
  obtain ⟨⟨x0, x1, x2, x3, x4, x5⟩, _⟩ := ivbox_facts bx0
  clear bx0
  go_enter Tryz.func11, Tryz.ntmps11
  go_wp2_with fail
  generalize ((w.alloc (.cells #[.bool g1, .slice p1 n1 c1, .slice q1 m1 d1, .bool g2, .slice p2 n2 c2, .slice q2 m2 d2] 29)).alloc (.cells #[.bool false, .slice none 0 0, .slice none 0 0, .bool false, .slice none 0 0, .slice none 0 0] 29)) = w0 at *
  refine (rSign3_v S hB.q hn2 hm2 (by omega)).mono ?_
  rintro ee v2 ⟨rfl, hg⟩
  replace hB := hB.keep hg; replace x0 := hg.cell x0 (by simp); replace x1 := hg.cell x1 (by simp); replace x2 := hg.cell x2 (by simp)
  replace x3 := hg.cell x3 (by simp); replace x4 := hg.cell x4 (by simp); replace x5 := hg.cell x5 (by simp); replace bx1 := (hg.block _ (lt_of_block bx1) (by simp)).trans bx1
  replace hW := grown_trans hW hg
  clear hg
  by_cases hb : B < 0
  · have hc : cmpR B 0 < 0 := by rw [cmpR_lt hb]; omega
    have ff := ivbox_facts bx1; obtain ⟨⟨l0, l1, l2, l3, l4, l5⟩, f0, f1, f2, f3, f4, f5⟩ := ff
    go_wp2_with fail
    exact bodyPost_ret (v := .tuple #[.agg #[.bool false, .slice none 0 0, .slice none 0 0, .bool false, .slice none 0 0, .slice none 0 0], .int .i64 2]) (by simp [results, Tryz.results11, go_sem, l0, l1, l2, l3, l4, l5, f0, f1, f2, f3, f4, f5]) rfl
      (WEPost.close (by omega) hW _ _ _ _ _ _ _)
  · by_cases hz0 : z < 0
    · have hc : ¬ cmpR B 0 < 0 := cmpR_nn hb
      have hz0 : z < 0 := by assumption
      have ff := ivbox_facts bx1; obtain ⟨⟨l0, l1, l2, l3, l4, l5⟩, f0, f1, f2, f3, f4, f5⟩ := ff
      go_wp2_with fail
      exact bodyPost_ret (v := .tuple #[.agg #[.bool false, .slice none 0 0, .slice none 0 0, .bool false, .slice none 0 0, .slice none 0 0], .int .i64 2]) (by simp [results, Tryz.results11, go_sem, l0, l1, l2, l3, l4, l5, f0, f1, f2, f3, f4, f5]) rfl
        (WEPost.close (by omega) hW _ _ _ _ _ _ _)
    · have hc : ¬ cmpR B 0 < 0 := cmpR_nn hb
      have hz1 : 200 < z := hz.elim (fun h => absurd h hb) (fun h => h.elim (fun h => absurd h hz0) id)
      have ff := ivbox_facts bx1; obtain ⟨⟨l0, l1, l2, l3, l4, l5⟩, f0, f1, f2, f3, f4, f5⟩ := ff
      go_wp2_with fail
      exact bodyPost_ret (v := .tuple #[.agg #[.bool false, .slice none 0 0, .slice none 0 0, .bool false, .slice none 0 0, .slice none 0 0], .int .i64 2]) (by simp [results, Tryz.results11, go_sem, l0, l1, l2, l3, l4, l5, f0, f1, f2, f3, f4, f5]) rfl
        (WEPost.close (by omega) hW _ _ _ _ _ _ _)
end Go.Proofs.YtcjoecmkkpmjmaaGreatDoor

set_option linter.unusedVariables false
set_option linter.unusedSimpArgs false
namespace Go.Proofs.YtcjoecmkkpmjmaaGreatDoor
open Go.RowKit Nm

theorem root_lt {s r N : Nat} (h1 : N < (s + 1) * (s + 1)) (h2 : r * r ≤ N) : r ≤ s := by
  by_cases h : r ≤ s
  · exact h
  · have := Nat.mul_le_mul (show s + 1 ≤ r by omega) (show s + 1 ≤ r by omega)
    omega
theorem up_same {x : Rat} (h0 : 0 ≤ x) {s t r : Nat} (hs : s * s ≤ (-(-x).floor).natAbs) (hs2 : (-(-x).floor).natAbs < (s + 1) * (s + 1))
    (ht : t = if (-(-x).floor).natAbs - s * s = 0 then s else s + 1) (hr : r * r ≤ x.floor.natAbs) (hr2 : x.floor.natAbs < (r + 1) * (r + 1)) :
    t = if (((r * r : Nat) : Int) : Rat) < x then r + 1 else r := by
  have m1 := Rat.floor_le x
  have m2 := Rat.lt_floor_add_one x
  have f1 := Rat.floor_le (-x)
  have f2 := Rat.lt_floor_add_one (-x)
  have hM0 : 0 ≤ x.floor := Rat.le_floor_iff.2 (by exact_mod_cast h0)
  generalize hM : x.floor = M at *
  generalize hG : (-x).floor = G at *
  have c1 : M ≤ -G := by
    have : (M : Rat) ≤ ((-G : Int) : Rat) := by rw [Rat.intCast_neg]; grind
    exact_mod_cast this
  have c2 : -G < M + 2 := by
    have : ((-G : Int) : Rat) < ((M + 2 : Int) : Rat) := by
      have e : ((M + 2 : Int) : Rat) = (M : Rat) + 2 := by rw [Rat.intCast_add]; rfl
      rw [e, Rat.intCast_neg]; grind
    exact_mod_cast this
  obtain ⟨K, hK⟩ : ∃ K : Nat, M = (K : Int) := ⟨M.toNat, by omega⟩
  subst hK
  have eM : (K : Int).natAbs = K := Int.natAbs_natCast K
  rw [eM] at hr hr2
  rcases (show -G = (K : Int) ∨ -G = ((K + 1 : Nat) : Int) by omega) with e | e
  · rw [e, eM] at hs hs2 ht
    have hx : x = ((K : Int) : Rat) := by
      have : (G : Rat) = -(((K : Int)) : Rat) := by
        have : G = -(K : Int) := by omega
        rw [this, Rat.intCast_neg]
      grind
    have esr : s = r := Nat.le_antisymm (root_lt hr2 hs) (root_lt hs2 hr)
    subst esr
    rw [ht, hx]
    by_cases hz : K - s * s = 0
    · have : ¬ ((((s * s : Nat) : Int) : Rat) < ((K : Int) : Rat)) := fun h => by
        have : ((s * s : Nat) : Int) < (K : Int) := by exact_mod_cast h
        omega
      rw [if_pos hz, if_neg this]
    · have : (((s * s : Nat) : Int) : Rat) < ((K : Int) : Rat) := by
        have : ((s * s : Nat) : Int) < (K : Int) := by omega
        exact_mod_cast this
      rw [if_neg hz, if_pos this]
  · have eN : (((K + 1 : Nat) : Int)).natAbs = K + 1 := Int.natAbs_natCast _
    rw [e, eN] at hs hs2 ht
    have hlt : ((K : Int) : Rat) < x := by
      have : (G : Rat) = -((((K + 1 : Nat)) : Int) : Rat) := by
        have : G = -((K + 1 : Nat) : Int) := by omega
        rw [this, Rat.intCast_neg]
      have e2 : ((((K + 1 : Nat)) : Int) : Rat) = ((K : Int) : Rat) + 1 := by
        have : (((K + 1 : Nat)) : Int) = (K : Int) + 1 := by omega
        rw [this, Rat.intCast_add]; rfl
      grind
    have hlt2 : (((r * r : Nat) : Int) : Rat) < x := by
      have : (((r * r : Nat) : Int) : Rat) ≤ ((K : Int) : Rat) := by
        have : ((r * r : Nat) : Int) ≤ (K : Int) := by omega
        exact_mod_cast this
      grind
    rw [if_pos hlt2, ht]
    have hrs : r ≤ s := root_lt hs2 (by omega)
    by_cases hz : K + 1 - s * s = 0
    · rw [if_pos hz]
      have h1 : s ≤ r + 1 := by
        by_cases h : s ≤ r + 1
        · exact h
        · have := Nat.mul_le_mul (show r + 1 + 1 ≤ s by omega) (show r + 1 + 1 ≤ s by omega)
          have e3 : (r + 1 + 1) * (r + 1 + 1) = (r + 1) * (r + 1) + 2 * (r + 1) + 1 := by grind
          omega
      have h2 : s ≠ r := fun h => by subst h; omega
      omega
    · rw [if_neg hz]
      have h1 : s ≤ r := by
        by_cases h : s ≤ r
        · exact h
        · have := Nat.mul_le_mul (show r + 1 ≤ s by omega) (show r + 1 ≤ s by omega)
          omega
      omega
end Go.Proofs.YtcjoecmkkpmjmaaGreatDoor

set_option linter.unusedVariables false
set_option linter.unusedSimpArgs false
namespace Go.Proofs.YtcjoecmkkpmjmaaGreatDoor
open Go.ChangeShapes Go.WideShapes Go.ChangeAt Go.RowKit Nm
open Go

theorem cmpR_neg_iff {v u : Rat} : cmpR v u < 0 ↔ v < u := by
  constructor
  · intro h
    by_cases k : v < u
    · exact k
    · exact absurd h (cmpR_nn k)
  · intro h
    rw [cmpR_lt h]; omega
theorem sqrt_agree {A B : Rat} {b r s t r' q t' : Nat} (h0 : 0 ≤ B) (i1 : r * r ≤ (maxR A [0] * ((2 ^ (2 * b) : Nat) : Rat)).floor.natAbs ∧ (maxR A [0] * ((2 ^ (2 * b) : Nat) : Rat)).floor.natAbs < (r + 1) * (r + 1))
    (i2 : s * s ≤ (-(-B * ((2 ^ (2 * b) : Nat) : Rat)).floor).natAbs ∧ (-(-B * ((2 ^ (2 * b) : Nat) : Rat)).floor).natAbs < (s + 1) * (s + 1)) (i3 : t = if (-(-B * ((2 ^ (2 * b) : Nat) : Rat)).floor).natAbs - s * s = 0 then s else s + 1)
    (j1 : r' * r' ≤ (maxR A [((0 : Int) : Rat)] * (((2 ^ (2 * b) : Nat) : Int) : Rat)).floor.natAbs ∧ (maxR A [((0 : Int) : Rat)] * (((2 ^ (2 * b) : Nat) : Int) : Rat)).floor.natAbs < (r' + 1) * (r' + 1))
    (j2 : q * q ≤ (B * (((2 ^ (2 * b) : Nat) : Int) : Rat)).floor.natAbs ∧ (B * (((2 ^ (2 * b) : Nat) : Int) : Rat)).floor.natAbs < (q + 1) * (q + 1))
    (j3 : t' = if cmpR (((q : Int) * (q : Int) : Int) : Rat) (B * (((2 ^ (2 * b) : Nat) : Int) : Rat)) < 0 then q + 1 else q) : r = r' ∧ t = t' := by
  have hu := unit_pos (2 * b)
  rw [← unit_cast (2 * b)] at j1 j2 j3 hu
  generalize ((2 ^ (2 * b) : Nat) : Rat) = u at *
  rw [show -B * u = -(B * u) by grind] at i2 i3
  constructor
  · exact Nat.le_antisymm (root_lt j1.2 i1.1) (root_lt i1.2 j1.1)
  · rw [up_same (Rat.mul_nonneg h0 (by grind)) i2.1 i2.2 i3 j2.1 j2.2, j3]
    simp only [cmpR_neg_iff, Int.natCast_mul]

set_option maxRecDepth 100000 in
set_option maxHeartbeats 16000000 in
theorem intervalRounds_walk (g1 g2 : Bool) (p1 q1 p2 q2 : Option Addr) (n1 c1 m1 d1 n2 c2 m2 d2 : Nat) (A B : Rat) (z : Int) (w : World) (T : Tb w) (HA : Hid (n1 ≤ 8 → m1 ≤ 8 → ∃ r : Bool, (∀ W, w.grownBy W none → Calls Tryz.prog 70 #[.agg #[.bool g1, .slice p1 n1 c1, .slice q1 m1 d1]] W fun e w' => e = .returned (.bool r) ∧ W.grownBy w' none) ∧ (r = true → IsV w g1 p1 n1 c1 q1 m1 d1 A))) (HB : Hid (n2 ≤ 8 → m2 ≤ 8 → ∃ r : Bool, (∀ W, w.grownBy W none → Calls Tryz.prog 70 #[.agg #[.bool g2, .slice p2 n2 c2, .slice q2 m2 d2]] W fun e w' => e = .returned (.bool r) ∧ W.grownBy w' none) ∧ (r = true → IsV w g2 p2 n2 c2 q2 m2 d2 B))) :
    Calls Tryz.prog 3 #[.agg #[.bool g1, .slice p1 n1 c1, .slice q1 m1 d1, .bool g2, .slice p2 n2 c2, .slice q2 m2 d2], .int .i64 z] w fun e w' => e = .returned (.bool true) ∧ w.grownBy w' none := by
  have hW3 := World.grownBy_alloc w (.cells #[.bool g1, .slice p1 n1 c1, .slice q1 m1 d1, .bool g2, .slice p2 n2 c2, .slice q2 m2 d2] 29) none
  obtain ⟨ra, Ra, Va⟩ : ∃ r : Bool, IW.rt ⟨g1, p1, n1, c1, q1, m1, d1, g2, p2, n2, c2, q2, m2, d2⟩ w r ∧ (IW.ok ⟨g1, p1, n1, c1, q1, m1, d1, g2, p2, n2, c2, q2, m2, d2⟩ → r = true → IsV w g1 p1 n1 c1 q1 m1 d1 A ∧ IsV w g2 p2 n2 c2 q2 m2 d2 B ∧ A ≤ B) := by
    by_cases h : n1 ≤ 8 ∧ m1 ≤ 8 ∧ n2 ≤ 8 ∧ m2 ≤ 8
    · obtain ⟨r, h1, h2⟩ := rRt_full 8 (HA.out h.1 h.2.1) (HB.out h.2.2.1 h.2.2.2) h.1 h.2.1 h.2.2.1 h.2.2.2 (by omega)
      exact ⟨r, fun _ => h1, fun _ => h2⟩
    · exact ⟨false, fun k => absurd k h, fun k => absurd k h⟩
  have HS := small4_one ⟨g1, p1, n1, c1, q1, m1, d1, g2, p2, n2, c2, q2, m2, d2⟩ ra (w.alloc (.cells #[.bool g1, .slice p1 n1 c1, .slice q1 m1 d1, .bool g2, .slice p2 n2 c2, .slice q2 m2 d2] 29)) (w.heap.size + 1) (by simp) (Ra.keep hW3)
  dsimp only at HS
  have HT := hid T
  clear T HA HB Ra
  by_cases hok : IW.ok ⟨g1, p1, n1, c1, q1, m1, d1, g2, p2, n2, c2, q2, m2, d2⟩ ∧ ra = true
  · rw [decide_eq_true hok] at HS
    replace HS := hid HS
    obtain ⟨ok1, e1⟩ := hok
    obtain ⟨hA0, hB0, hAB⟩ := Va ok1 e1
    have hn1 : n1 ≤ 8 := ok1.1
    have hm1 : m1 ≤ 8 := ok1.2.1
    have hn2 : n2 ≤ 8 := ok1.2.2.1
    have hm2 : m2 ≤ 8 := ok1.2.2.2
    clear ok1 e1 Va hAB
    by_cases hz : z < 0 ∨ 200 < z
    · have HZ := hid hz
      clear hz
      go_enter Tryz.func3, Tryz.ntmps3
      go_wp2_with fail
      refine HS.out.mono ?_
      rintro e w0 ⟨rfl, hg⟩
      have x0 : w0.cell? ⟨w.heap.size, 0, none⟩ = some (.bool g1) := hg.cell (by simp [go_sem, World.cell?_alloc_past]) (by simp)
      have x1 : w0.cell? ⟨w.heap.size, 1, none⟩ = some (.slice p1 n1 c1) := hg.cell (by simp [go_sem, World.cell?_alloc_past]) (by simp)
      have x2 : w0.cell? ⟨w.heap.size, 2, none⟩ = some (.slice q1 m1 d1) := hg.cell (by simp [go_sem, World.cell?_alloc_past]) (by simp)
      have x3 : w0.cell? ⟨w.heap.size, 3, none⟩ = some (.bool g2) := hg.cell (by simp [go_sem, World.cell?_alloc_past]) (by simp)
      have x4 : w0.cell? ⟨w.heap.size, 4, none⟩ = some (.slice p2 n2 c2) := hg.cell (by simp [go_sem, World.cell?_alloc_past]) (by simp)
      have x5 : w0.cell? ⟨w.heap.size, 5, none⟩ = some (.slice q2 m2 d2) := hg.cell (by simp [go_sem, World.cell?_alloc_past]) (by simp)
      replace hg := grown_trans hW3 hg
      have hA := hA0.keep hg; have hB := hB0.keep hg
      have hW := hg
      clear hg HS hW3 hA0 hB0
      go_wp2_with fail
      refine (ivRound_e _ g1 g2 p1 q1 p2 q2 n1 c1 m1 d1 n2 c2 m2 d2 z HZ.out).mono ?_
      rintro e w1 ⟨rfl, hg⟩
      replace hA := hA.keep hg; replace hB := hB.keep hg; replace x0 := hg.cell x0 (by simp); replace x1 := hg.cell x1 (by simp); replace x2 := hg.cell x2 (by simp); replace x3 := hg.cell x3 (by simp); replace x4 := hg.cell x4 (by simp); replace x5 := hg.cell x5 (by simp); replace hW := grown_trans hW hg
      clear hg
      have hg := World.grownBy_alloc w1 (.cells #[.bool false, .slice none 0 0, .slice none 0 0, .bool false, .slice none 0 0, .slice none 0 0] 29) none
      have hb := heap_alloc_new w1 (.cells #[.bool false, .slice none 0 0, .slice none 0 0, .bool false, .slice none 0 0, .slice none 0 0] 29)
      obtain ⟨⟨s0, s1, s2, s3, s4, s5⟩, _⟩ := ivbox_facts hb
      clear hb
      replace hA := hA.keep hg; replace hB := hB.keep hg; replace x0 := hg.cell x0 (by simp); replace x1 := hg.cell x1 (by simp); replace x2 := hg.cell x2 (by simp); replace x3 := hg.cell x3 (by simp); replace x4 := hg.cell x4 (by simp); replace x5 := hg.cell x5 (by simp); replace hW := grown_trans hW hg
      clear hg
      go_wp2_with fail
      generalize w1.alloc (.cells #[.bool false, .slice none 0 0, .slice none 0 0, .bool false, .slice none 0 0, .slice none 0 0] 29) = wb1 at *
      generalize w1.heap.size = K1 at *
      refine (rIvRound_e _ g1 g2 p1 q1 p2 q2 n1 c1 m1 d1 n2 c2 m2 d2 z HZ.out).mono ?_
      rintro e w2 ⟨rfl, hg⟩
      replace hA := hA.keep hg; replace hB := hB.keep hg; replace x0 := hg.cell x0 (by simp); replace x1 := hg.cell x1 (by simp); replace x2 := hg.cell x2 (by simp); replace x3 := hg.cell x3 (by simp); replace x4 := hg.cell x4 (by simp); replace x5 := hg.cell x5 (by simp); replace s0 := hg.cell s0 (by simp); replace s1 := hg.cell s1 (by simp); replace s2 := hg.cell s2 (by simp); replace s3 := hg.cell s3 (by simp); replace s4 := hg.cell s4 (by simp); replace s5 := hg.cell s5 (by simp); replace hW := grown_trans hW hg
      clear hg
      have hg := World.grownBy_alloc w2 (.cells #[.bool false, .slice none 0 0, .slice none 0 0, .bool false, .slice none 0 0, .slice none 0 0] 29) none
      have hb := heap_alloc_new w2 (.cells #[.bool false, .slice none 0 0, .slice none 0 0, .bool false, .slice none 0 0, .slice none 0 0] 29)
      obtain ⟨⟨t0, t1, t2, t3, t4, t5⟩, _⟩ := ivbox_facts hb
      clear hb
      replace hA := hA.keep hg; replace hB := hB.keep hg; replace x0 := hg.cell x0 (by simp); replace x1 := hg.cell x1 (by simp); replace x2 := hg.cell x2 (by simp); replace x3 := hg.cell x3 (by simp); replace x4 := hg.cell x4 (by simp); replace x5 := hg.cell x5 (by simp); replace s0 := hg.cell s0 (by simp); replace s1 := hg.cell s1 (by simp); replace s2 := hg.cell s2 (by simp); replace s3 := hg.cell s3 (by simp); replace s4 := hg.cell s4 (by simp); replace s5 := hg.cell s5 (by simp); replace hW := grown_trans hW hg
      clear hg
      go_wp2_with fail
      generalize w2.alloc (.cells #[.bool false, .slice none 0 0, .slice none 0 0, .bool false, .slice none 0 0, .slice none 0 0] 29) = wb2 at *
      generalize w2.heap.size = K2 at *
      refine (ivSqrt_out _ g1 g2 p1 q1 p2 q2 n1 c1 m1 d1 n2 c2 m2 d2 z HZ.out).mono ?_
      rintro e w3 ⟨rfl, hg⟩
      replace hA := hA.keep hg; replace hB := hB.keep hg; replace x0 := hg.cell x0 (by simp); replace x1 := hg.cell x1 (by simp); replace x2 := hg.cell x2 (by simp); replace x3 := hg.cell x3 (by simp); replace x4 := hg.cell x4 (by simp); replace x5 := hg.cell x5 (by simp); replace s0 := hg.cell s0 (by simp); replace s1 := hg.cell s1 (by simp); replace s2 := hg.cell s2 (by simp); replace s3 := hg.cell s3 (by simp); replace s4 := hg.cell s4 (by simp); replace s5 := hg.cell s5 (by simp); replace t0 := hg.cell t0 (by simp); replace t1 := hg.cell t1 (by simp); replace t2 := hg.cell t2 (by simp); replace t3 := hg.cell t3 (by simp); replace t4 := hg.cell t4 (by simp); replace t5 := hg.cell t5 (by simp); replace hW := grown_trans hW hg
      clear hg
      have hg := World.grownBy_alloc w3 (.cells #[.bool false, .slice none 0 0, .slice none 0 0, .bool false, .slice none 0 0, .slice none 0 0] 29) none
      have hb := heap_alloc_new w3 (.cells #[.bool false, .slice none 0 0, .slice none 0 0, .bool false, .slice none 0 0, .slice none 0 0] 29)
      obtain ⟨⟨u0, u1, u2, u3, u4, u5⟩, _⟩ := ivbox_facts hb
      clear hb
      replace hA := hA.keep hg; replace hB := hB.keep hg; replace x0 := hg.cell x0 (by simp); replace x1 := hg.cell x1 (by simp); replace x2 := hg.cell x2 (by simp); replace x3 := hg.cell x3 (by simp); replace x4 := hg.cell x4 (by simp); replace x5 := hg.cell x5 (by simp); replace s0 := hg.cell s0 (by simp); replace s1 := hg.cell s1 (by simp); replace s2 := hg.cell s2 (by simp); replace s3 := hg.cell s3 (by simp); replace s4 := hg.cell s4 (by simp); replace s5 := hg.cell s5 (by simp); replace t0 := hg.cell t0 (by simp); replace t1 := hg.cell t1 (by simp); replace t2 := hg.cell t2 (by simp); replace t3 := hg.cell t3 (by simp); replace t4 := hg.cell t4 (by simp); replace t5 := hg.cell t5 (by simp); replace hW := grown_trans hW hg
      clear hg
      go_wp2_with fail
      generalize w3.alloc (.cells #[.bool false, .slice none 0 0, .slice none 0 0, .bool false, .slice none 0 0, .slice none 0 0] 29) = wb3 at *
      generalize w3.heap.size = K3 at *
      refine (rSqrt_e 8 hB (by omega) (by omega) (by omega) z (Or.inr HZ.out)).mono ?_
      rintro e w4 ⟨rfl, hg⟩
      replace hA := hA.keep hg; replace hB := hB.keep hg; replace x0 := hg.cell x0 (by simp); replace x1 := hg.cell x1 (by simp); replace x2 := hg.cell x2 (by simp); replace x3 := hg.cell x3 (by simp); replace x4 := hg.cell x4 (by simp); replace x5 := hg.cell x5 (by simp); replace s0 := hg.cell s0 (by simp); replace s1 := hg.cell s1 (by simp); replace s2 := hg.cell s2 (by simp); replace s3 := hg.cell s3 (by simp); replace s4 := hg.cell s4 (by simp); replace s5 := hg.cell s5 (by simp); replace t0 := hg.cell t0 (by simp); replace t1 := hg.cell t1 (by simp); replace t2 := hg.cell t2 (by simp); replace t3 := hg.cell t3 (by simp); replace t4 := hg.cell t4 (by simp); replace t5 := hg.cell t5 (by simp); replace u0 := hg.cell u0 (by simp); replace u1 := hg.cell u1 (by simp); replace u2 := hg.cell u2 (by simp); replace u3 := hg.cell u3 (by simp); replace u4 := hg.cell u4 (by simp); replace u5 := hg.cell u5 (by simp); replace hW := grown_trans hW hg
      clear hg
      have hg := World.grownBy_alloc w4 (.cells #[.bool false, .slice none 0 0, .slice none 0 0, .bool false, .slice none 0 0, .slice none 0 0] 29) none
      have hb := heap_alloc_new w4 (.cells #[.bool false, .slice none 0 0, .slice none 0 0, .bool false, .slice none 0 0, .slice none 0 0] 29)
      obtain ⟨⟨v0, v1, v2, v3, v4, v5⟩, _⟩ := ivbox_facts hb
      clear hb
      replace hA := hA.keep hg; replace hB := hB.keep hg; replace x0 := hg.cell x0 (by simp); replace x1 := hg.cell x1 (by simp); replace x2 := hg.cell x2 (by simp); replace x3 := hg.cell x3 (by simp); replace x4 := hg.cell x4 (by simp); replace x5 := hg.cell x5 (by simp); replace s0 := hg.cell s0 (by simp); replace s1 := hg.cell s1 (by simp); replace s2 := hg.cell s2 (by simp); replace s3 := hg.cell s3 (by simp); replace s4 := hg.cell s4 (by simp); replace s5 := hg.cell s5 (by simp); replace t0 := hg.cell t0 (by simp); replace t1 := hg.cell t1 (by simp); replace t2 := hg.cell t2 (by simp); replace t3 := hg.cell t3 (by simp); replace t4 := hg.cell t4 (by simp); replace t5 := hg.cell t5 (by simp); replace u0 := hg.cell u0 (by simp); replace u1 := hg.cell u1 (by simp); replace u2 := hg.cell u2 (by simp); replace u3 := hg.cell u3 (by simp); replace u4 := hg.cell u4 (by simp); replace u5 := hg.cell u5 (by simp); replace hW := grown_trans hW hg
      clear hg
      go_wp2_with fail
      generalize w4.alloc (.cells #[.bool false, .slice none 0 0, .slice none 0 0, .bool false, .slice none 0 0, .slice none 0 0] 29) = wb4 at *
      generalize w4.heap.size = K4 at *
      refine (same4_any (IsI.zero _) (IsC.nil _) (IsI.zero _) (IsC.nil _) (IsI.zero _) (IsC.nil _) (IsI.zero _) (IsC.nil _)).mono ?_
      rintro e wa6 ⟨rfl, hg⟩
      replace hA := hA.keep hg; replace hB := hB.keep hg; replace x0 := hg.cell x0 (by simp); replace x1 := hg.cell x1 (by simp); replace x2 := hg.cell x2 (by simp); replace x3 := hg.cell x3 (by simp); replace x4 := hg.cell x4 (by simp); replace x5 := hg.cell x5 (by simp); replace s0 := hg.cell s0 (by simp); replace s1 := hg.cell s1 (by simp); replace s2 := hg.cell s2 (by simp); replace s3 := hg.cell s3 (by simp); replace s4 := hg.cell s4 (by simp); replace s5 := hg.cell s5 (by simp); replace t0 := hg.cell t0 (by simp); replace t1 := hg.cell t1 (by simp); replace t2 := hg.cell t2 (by simp); replace t3 := hg.cell t3 (by simp); replace t4 := hg.cell t4 (by simp); replace t5 := hg.cell t5 (by simp); replace u0 := hg.cell u0 (by simp); replace u1 := hg.cell u1 (by simp); replace u2 := hg.cell u2 (by simp); replace u3 := hg.cell u3 (by simp); replace u4 := hg.cell u4 (by simp); replace u5 := hg.cell u5 (by simp); replace v0 := hg.cell v0 (by simp); replace v1 := hg.cell v1 (by simp); replace v2 := hg.cell v2 (by simp); replace v3 := hg.cell v3 (by simp); replace v4 := hg.cell v4 (by simp); replace v5 := hg.cell v5 (by simp); replace hW := grown_trans hW hg
      clear hg
      go_wp2_with fail
      refine (same4_any (IsI.zero _) (IsC.nil _) (IsI.zero _) (IsC.nil _) (IsI.zero _) (IsC.nil _) (IsI.zero _) (IsC.nil _)).mono ?_
      rintro e wc6 ⟨rfl, hg⟩
      replace hA := hA.keep hg; replace hB := hB.keep hg; replace x0 := hg.cell x0 (by simp); replace x1 := hg.cell x1 (by simp); replace x2 := hg.cell x2 (by simp); replace x3 := hg.cell x3 (by simp); replace x4 := hg.cell x4 (by simp); replace x5 := hg.cell x5 (by simp); replace s0 := hg.cell s0 (by simp); replace s1 := hg.cell s1 (by simp); replace s2 := hg.cell s2 (by simp); replace s3 := hg.cell s3 (by simp); replace s4 := hg.cell s4 (by simp); replace s5 := hg.cell s5 (by simp); replace t0 := hg.cell t0 (by simp); replace t1 := hg.cell t1 (by simp); replace t2 := hg.cell t2 (by simp); replace t3 := hg.cell t3 (by simp); replace t4 := hg.cell t4 (by simp); replace t5 := hg.cell t5 (by simp); replace u0 := hg.cell u0 (by simp); replace u1 := hg.cell u1 (by simp); replace u2 := hg.cell u2 (by simp); replace u3 := hg.cell u3 (by simp); replace u4 := hg.cell u4 (by simp); replace u5 := hg.cell u5 (by simp); replace v0 := hg.cell v0 (by simp); replace v1 := hg.cell v1 (by simp); replace v2 := hg.cell v2 (by simp); replace v3 := hg.cell v3 (by simp); replace v4 := hg.cell v4 (by simp); replace v5 := hg.cell v5 (by simp); replace hW := grown_trans hW hg
      clear hg
      go_wp2_with fail
      refine (alive4 (HT.out.keep hW)).mono ?_
      rintro e w9 ⟨rfl, hg⟩
      replace hW := grown_trans hW hg
      go_wp2_with fail
      go_ret
      exact ⟨rfl, hW⟩
    · obtain ⟨b, rfl⟩ : ∃ b : Nat, z = (b : Int) := ⟨z.toNat, by omega⟩
      have hb : b ≤ 200 := by omega
      clear hz
      by_cases hB1 : B < 0
      · have HB0 := hid hB1
        clear hB1
        go_enter Tryz.func3, Tryz.ntmps3
        go_wp2_with fail
        refine HS.out.mono ?_
        rintro e w0 ⟨rfl, hg⟩
        have x0 : w0.cell? ⟨w.heap.size, 0, none⟩ = some (.bool g1) := hg.cell (by simp [go_sem, World.cell?_alloc_past]) (by simp)
        have x1 : w0.cell? ⟨w.heap.size, 1, none⟩ = some (.slice p1 n1 c1) := hg.cell (by simp [go_sem, World.cell?_alloc_past]) (by simp)
        have x2 : w0.cell? ⟨w.heap.size, 2, none⟩ = some (.slice q1 m1 d1) := hg.cell (by simp [go_sem, World.cell?_alloc_past]) (by simp)
        have x3 : w0.cell? ⟨w.heap.size, 3, none⟩ = some (.bool g2) := hg.cell (by simp [go_sem, World.cell?_alloc_past]) (by simp)
        have x4 : w0.cell? ⟨w.heap.size, 4, none⟩ = some (.slice p2 n2 c2) := hg.cell (by simp [go_sem, World.cell?_alloc_past]) (by simp)
        have x5 : w0.cell? ⟨w.heap.size, 5, none⟩ = some (.slice q2 m2 d2) := hg.cell (by simp [go_sem, World.cell?_alloc_past]) (by simp)
        replace hg := grown_trans hW3 hg
        have hA := hA0.keep hg; have hB := hB0.keep hg
        have hW := hg
        clear hg HS hW3 hA0 hB0
        go_wp2_with fail
        refine (ivRound_v 8 (HT.out.keep hW) hA hB b (by omega) (by omega) (by omega) (by omega) (by omega) (by omega)).mono ?_
        rintro e w1 ⟨g12, g13, p12, q12, p13, q13, n12, c12, m12, d12, n13, c13, m13, d13, rfl, aP, aQ, ⟨hn12, hm12⟩, ⟨hn13, hm13⟩, hg⟩
        replace hA := hA.keep hg; replace hB := hB.keep hg; replace x0 := hg.cell x0 (by simp); replace x1 := hg.cell x1 (by simp); replace x2 := hg.cell x2 (by simp); replace x3 := hg.cell x3 (by simp); replace x4 := hg.cell x4 (by simp); replace x5 := hg.cell x5 (by simp); replace hW := grown_trans hW hg
        clear hg
        have hg := World.grownBy_alloc w1 (.cells #[.bool g12, .slice p12 n12 c12, .slice q12 m12 d12, .bool g13, .slice p13 n13 c13, .slice q13 m13 d13] 29) none
        have hb := heap_alloc_new w1 (.cells #[.bool g12, .slice p12 n12 c12, .slice q12 m12 d12, .bool g13, .slice p13 n13 c13, .slice q13 m13 d13] 29)
        obtain ⟨⟨s0, s1, s2, s3, s4, s5⟩, _⟩ := ivbox_facts hb
        clear hb
        replace hA := hA.keep hg; replace hB := hB.keep hg; replace aP := aP.keep hg; replace aQ := aQ.keep hg; replace x0 := hg.cell x0 (by simp); replace x1 := hg.cell x1 (by simp); replace x2 := hg.cell x2 (by simp); replace x3 := hg.cell x3 (by simp); replace x4 := hg.cell x4 (by simp); replace x5 := hg.cell x5 (by simp); replace hW := grown_trans hW hg
        clear hg
        go_wp2_with fail
        generalize w1.alloc (.cells #[.bool g12, .slice p12 n12 c12, .slice q12 m12 d12, .bool g13, .slice p13 n13 c13, .slice q13 m13 d13] 29) = wb1 at *
        generalize w1.heap.size = K1 at *
        refine (rIvRound_v 8 hA hB b (by omega) (by omega) (by omega) (by omega) (by omega) (by omega)).mono ?_
        rintro e w2 ⟨g14, g15, p14, q14, p15, q15, n14, c14, m14, d14, n15, c15, m15, d15, rfl, bP, bQ, ⟨hn14, hm14⟩, ⟨hn15, hm15⟩, hg⟩
        replace hA := hA.keep hg; replace hB := hB.keep hg; replace aP := aP.keep hg; replace aQ := aQ.keep hg; replace x0 := hg.cell x0 (by simp); replace x1 := hg.cell x1 (by simp); replace x2 := hg.cell x2 (by simp); replace x3 := hg.cell x3 (by simp); replace x4 := hg.cell x4 (by simp); replace x5 := hg.cell x5 (by simp); replace s0 := hg.cell s0 (by simp); replace s1 := hg.cell s1 (by simp); replace s2 := hg.cell s2 (by simp); replace s3 := hg.cell s3 (by simp); replace s4 := hg.cell s4 (by simp); replace s5 := hg.cell s5 (by simp); replace hW := grown_trans hW hg
        clear hg
        have hg := World.grownBy_alloc w2 (.cells #[.bool g14, .slice p14 n14 c14, .slice q14 m14 d14, .bool g15, .slice p15 n15 c15, .slice q15 m15 d15] 29) none
        have hb := heap_alloc_new w2 (.cells #[.bool g14, .slice p14 n14 c14, .slice q14 m14 d14, .bool g15, .slice p15 n15 c15, .slice q15 m15 d15] 29)
        obtain ⟨⟨t0, t1, t2, t3, t4, t5⟩, _⟩ := ivbox_facts hb
        clear hb
        replace hA := hA.keep hg; replace hB := hB.keep hg; replace aP := aP.keep hg; replace aQ := aQ.keep hg; replace bP := bP.keep hg; replace bQ := bQ.keep hg; replace x0 := hg.cell x0 (by simp); replace x1 := hg.cell x1 (by simp); replace x2 := hg.cell x2 (by simp); replace x3 := hg.cell x3 (by simp); replace x4 := hg.cell x4 (by simp); replace x5 := hg.cell x5 (by simp); replace s0 := hg.cell s0 (by simp); replace s1 := hg.cell s1 (by simp); replace s2 := hg.cell s2 (by simp); replace s3 := hg.cell s3 (by simp); replace s4 := hg.cell s4 (by simp); replace s5 := hg.cell s5 (by simp); replace hW := grown_trans hW hg
        clear hg
        go_wp2_with fail
        generalize w2.alloc (.cells #[.bool g14, .slice p14 n14 c14, .slice q14 m14 d14, .bool g15, .slice p15 n15 c15, .slice q15 m15 d15] 29) = wb2 at *
        generalize w2.heap.size = K2 at *
        refine (ivSqrt_neg 8 hB HB0.out (by omega) (by omega) (by omega) b (by omega) (by omega)).mono ?_
        rintro e w3 ⟨rfl, hg⟩
        replace hA := hA.keep hg; replace hB := hB.keep hg; replace aP := aP.keep hg; replace aQ := aQ.keep hg; replace bP := bP.keep hg; replace bQ := bQ.keep hg; replace x0 := hg.cell x0 (by simp); replace x1 := hg.cell x1 (by simp); replace x2 := hg.cell x2 (by simp); replace x3 := hg.cell x3 (by simp); replace x4 := hg.cell x4 (by simp); replace x5 := hg.cell x5 (by simp); replace s0 := hg.cell s0 (by simp); replace s1 := hg.cell s1 (by simp); replace s2 := hg.cell s2 (by simp); replace s3 := hg.cell s3 (by simp); replace s4 := hg.cell s4 (by simp); replace s5 := hg.cell s5 (by simp); replace t0 := hg.cell t0 (by simp); replace t1 := hg.cell t1 (by simp); replace t2 := hg.cell t2 (by simp); replace t3 := hg.cell t3 (by simp); replace t4 := hg.cell t4 (by simp); replace t5 := hg.cell t5 (by simp); replace hW := grown_trans hW hg
        clear hg
        have hg := World.grownBy_alloc w3 (.cells #[.bool false, .slice none 0 0, .slice none 0 0, .bool false, .slice none 0 0, .slice none 0 0] 29) none
        have hb := heap_alloc_new w3 (.cells #[.bool false, .slice none 0 0, .slice none 0 0, .bool false, .slice none 0 0, .slice none 0 0] 29)
        obtain ⟨⟨u0, u1, u2, u3, u4, u5⟩, _⟩ := ivbox_facts hb
        clear hb
        replace hA := hA.keep hg; replace hB := hB.keep hg; replace aP := aP.keep hg; replace aQ := aQ.keep hg; replace bP := bP.keep hg; replace bQ := bQ.keep hg; replace x0 := hg.cell x0 (by simp); replace x1 := hg.cell x1 (by simp); replace x2 := hg.cell x2 (by simp); replace x3 := hg.cell x3 (by simp); replace x4 := hg.cell x4 (by simp); replace x5 := hg.cell x5 (by simp); replace s0 := hg.cell s0 (by simp); replace s1 := hg.cell s1 (by simp); replace s2 := hg.cell s2 (by simp); replace s3 := hg.cell s3 (by simp); replace s4 := hg.cell s4 (by simp); replace s5 := hg.cell s5 (by simp); replace t0 := hg.cell t0 (by simp); replace t1 := hg.cell t1 (by simp); replace t2 := hg.cell t2 (by simp); replace t3 := hg.cell t3 (by simp); replace t4 := hg.cell t4 (by simp); replace t5 := hg.cell t5 (by simp); replace hW := grown_trans hW hg
        clear hg
        go_wp2_with fail
        generalize w3.alloc (.cells #[.bool false, .slice none 0 0, .slice none 0 0, .bool false, .slice none 0 0, .slice none 0 0] 29) = wb3 at *
        generalize w3.heap.size = K3 at *
        refine (rSqrt_e 8 hB (by omega) (by omega) (by omega) b (Or.inl HB0.out)).mono ?_
        rintro e w4 ⟨rfl, hg⟩
        replace hA := hA.keep hg; replace hB := hB.keep hg; replace aP := aP.keep hg; replace aQ := aQ.keep hg; replace bP := bP.keep hg; replace bQ := bQ.keep hg; replace x0 := hg.cell x0 (by simp); replace x1 := hg.cell x1 (by simp); replace x2 := hg.cell x2 (by simp); replace x3 := hg.cell x3 (by simp); replace x4 := hg.cell x4 (by simp); replace x5 := hg.cell x5 (by simp); replace s0 := hg.cell s0 (by simp); replace s1 := hg.cell s1 (by simp); replace s2 := hg.cell s2 (by simp); replace s3 := hg.cell s3 (by simp); replace s4 := hg.cell s4 (by simp); replace s5 := hg.cell s5 (by simp); replace t0 := hg.cell t0 (by simp); replace t1 := hg.cell t1 (by simp); replace t2 := hg.cell t2 (by simp); replace t3 := hg.cell t3 (by simp); replace t4 := hg.cell t4 (by simp); replace t5 := hg.cell t5 (by simp); replace u0 := hg.cell u0 (by simp); replace u1 := hg.cell u1 (by simp); replace u2 := hg.cell u2 (by simp); replace u3 := hg.cell u3 (by simp); replace u4 := hg.cell u4 (by simp); replace u5 := hg.cell u5 (by simp); replace hW := grown_trans hW hg
        clear hg
        have hg := World.grownBy_alloc w4 (.cells #[.bool false, .slice none 0 0, .slice none 0 0, .bool false, .slice none 0 0, .slice none 0 0] 29) none
        have hb := heap_alloc_new w4 (.cells #[.bool false, .slice none 0 0, .slice none 0 0, .bool false, .slice none 0 0, .slice none 0 0] 29)
        obtain ⟨⟨v0, v1, v2, v3, v4, v5⟩, _⟩ := ivbox_facts hb
        clear hb
        replace hA := hA.keep hg; replace hB := hB.keep hg; replace aP := aP.keep hg; replace aQ := aQ.keep hg; replace bP := bP.keep hg; replace bQ := bQ.keep hg; replace x0 := hg.cell x0 (by simp); replace x1 := hg.cell x1 (by simp); replace x2 := hg.cell x2 (by simp); replace x3 := hg.cell x3 (by simp); replace x4 := hg.cell x4 (by simp); replace x5 := hg.cell x5 (by simp); replace s0 := hg.cell s0 (by simp); replace s1 := hg.cell s1 (by simp); replace s2 := hg.cell s2 (by simp); replace s3 := hg.cell s3 (by simp); replace s4 := hg.cell s4 (by simp); replace s5 := hg.cell s5 (by simp); replace t0 := hg.cell t0 (by simp); replace t1 := hg.cell t1 (by simp); replace t2 := hg.cell t2 (by simp); replace t3 := hg.cell t3 (by simp); replace t4 := hg.cell t4 (by simp); replace t5 := hg.cell t5 (by simp); replace u0 := hg.cell u0 (by simp); replace u1 := hg.cell u1 (by simp); replace u2 := hg.cell u2 (by simp); replace u3 := hg.cell u3 (by simp); replace u4 := hg.cell u4 (by simp); replace u5 := hg.cell u5 (by simp); replace hW := grown_trans hW hg
        clear hg
        go_wp2_with fail
        generalize w4.alloc (.cells #[.bool false, .slice none 0 0, .slice none 0 0, .bool false, .slice none 0 0, .slice none 0 0] 29) = wb4 at *
        generalize w4.heap.size = K4 at *
        refine (same4_any aP.nm aP.dn aQ.nm aQ.dn bP.nm bP.dn bQ.nm bQ.dn).mono ?_
        rintro e wa6 ⟨rfl, hg⟩
        replace hA := hA.keep hg; replace hB := hB.keep hg; replace aP := aP.keep hg; replace aQ := aQ.keep hg; replace bP := bP.keep hg; replace bQ := bQ.keep hg; replace x0 := hg.cell x0 (by simp); replace x1 := hg.cell x1 (by simp); replace x2 := hg.cell x2 (by simp); replace x3 := hg.cell x3 (by simp); replace x4 := hg.cell x4 (by simp); replace x5 := hg.cell x5 (by simp); replace s0 := hg.cell s0 (by simp); replace s1 := hg.cell s1 (by simp); replace s2 := hg.cell s2 (by simp); replace s3 := hg.cell s3 (by simp); replace s4 := hg.cell s4 (by simp); replace s5 := hg.cell s5 (by simp); replace t0 := hg.cell t0 (by simp); replace t1 := hg.cell t1 (by simp); replace t2 := hg.cell t2 (by simp); replace t3 := hg.cell t3 (by simp); replace t4 := hg.cell t4 (by simp); replace t5 := hg.cell t5 (by simp); replace u0 := hg.cell u0 (by simp); replace u1 := hg.cell u1 (by simp); replace u2 := hg.cell u2 (by simp); replace u3 := hg.cell u3 (by simp); replace u4 := hg.cell u4 (by simp); replace u5 := hg.cell u5 (by simp); replace v0 := hg.cell v0 (by simp); replace v1 := hg.cell v1 (by simp); replace v2 := hg.cell v2 (by simp); replace v3 := hg.cell v3 (by simp); replace v4 := hg.cell v4 (by simp); replace v5 := hg.cell v5 (by simp); replace hW := grown_trans hW hg
        clear hg
        go_wp2_with fail
        refine (same4_any (IsI.zero _) (IsC.nil _) (IsI.zero _) (IsC.nil _) (IsI.zero _) (IsC.nil _) (IsI.zero _) (IsC.nil _)).mono ?_
        rintro e wc6 ⟨rfl, hg⟩
        replace hA := hA.keep hg; replace hB := hB.keep hg; replace aP := aP.keep hg; replace aQ := aQ.keep hg; replace bP := bP.keep hg; replace bQ := bQ.keep hg; replace x0 := hg.cell x0 (by simp); replace x1 := hg.cell x1 (by simp); replace x2 := hg.cell x2 (by simp); replace x3 := hg.cell x3 (by simp); replace x4 := hg.cell x4 (by simp); replace x5 := hg.cell x5 (by simp); replace s0 := hg.cell s0 (by simp); replace s1 := hg.cell s1 (by simp); replace s2 := hg.cell s2 (by simp); replace s3 := hg.cell s3 (by simp); replace s4 := hg.cell s4 (by simp); replace s5 := hg.cell s5 (by simp); replace t0 := hg.cell t0 (by simp); replace t1 := hg.cell t1 (by simp); replace t2 := hg.cell t2 (by simp); replace t3 := hg.cell t3 (by simp); replace t4 := hg.cell t4 (by simp); replace t5 := hg.cell t5 (by simp); replace u0 := hg.cell u0 (by simp); replace u1 := hg.cell u1 (by simp); replace u2 := hg.cell u2 (by simp); replace u3 := hg.cell u3 (by simp); replace u4 := hg.cell u4 (by simp); replace u5 := hg.cell u5 (by simp); replace v0 := hg.cell v0 (by simp); replace v1 := hg.cell v1 (by simp); replace v2 := hg.cell v2 (by simp); replace v3 := hg.cell v3 (by simp); replace v4 := hg.cell v4 (by simp); replace v5 := hg.cell v5 (by simp); replace hW := grown_trans hW hg
        clear hg
        go_wp2_with fail
        refine (alive4 (HT.out.keep hW)).mono ?_
        rintro e w9 ⟨rfl, hg⟩
        replace hW := grown_trans hW hg
        go_wp2_with fail
        go_ret
        exact ⟨rfl, hW⟩
      · have HB0 := hid (show 0 ≤ B by grind)
        clear hB1
        go_enter Tryz.func3, Tryz.ntmps3
        go_wp2_with fail
        refine HS.out.mono ?_
        rintro e w0 ⟨rfl, hg⟩
        have x0 : w0.cell? ⟨w.heap.size, 0, none⟩ = some (.bool g1) := hg.cell (by simp [go_sem, World.cell?_alloc_past]) (by simp)
        have x1 : w0.cell? ⟨w.heap.size, 1, none⟩ = some (.slice p1 n1 c1) := hg.cell (by simp [go_sem, World.cell?_alloc_past]) (by simp)
        have x2 : w0.cell? ⟨w.heap.size, 2, none⟩ = some (.slice q1 m1 d1) := hg.cell (by simp [go_sem, World.cell?_alloc_past]) (by simp)
        have x3 : w0.cell? ⟨w.heap.size, 3, none⟩ = some (.bool g2) := hg.cell (by simp [go_sem, World.cell?_alloc_past]) (by simp)
        have x4 : w0.cell? ⟨w.heap.size, 4, none⟩ = some (.slice p2 n2 c2) := hg.cell (by simp [go_sem, World.cell?_alloc_past]) (by simp)
        have x5 : w0.cell? ⟨w.heap.size, 5, none⟩ = some (.slice q2 m2 d2) := hg.cell (by simp [go_sem, World.cell?_alloc_past]) (by simp)
        replace hg := grown_trans hW3 hg
        have hA := hA0.keep hg; have hB := hB0.keep hg
        have hW := hg
        clear hg HS hW3 hA0 hB0
        go_wp2_with fail
        refine (ivRound_v 8 (HT.out.keep hW) hA hB b (by omega) (by omega) (by omega) (by omega) (by omega) (by omega)).mono ?_
        rintro e w1 ⟨g12, g13, p12, q12, p13, q13, n12, c12, m12, d12, n13, c13, m13, d13, rfl, aP, aQ, ⟨hn12, hm12⟩, ⟨hn13, hm13⟩, hg⟩
        replace hA := hA.keep hg; replace hB := hB.keep hg; replace x0 := hg.cell x0 (by simp); replace x1 := hg.cell x1 (by simp); replace x2 := hg.cell x2 (by simp); replace x3 := hg.cell x3 (by simp); replace x4 := hg.cell x4 (by simp); replace x5 := hg.cell x5 (by simp); replace hW := grown_trans hW hg
        clear hg
        have hg := World.grownBy_alloc w1 (.cells #[.bool g12, .slice p12 n12 c12, .slice q12 m12 d12, .bool g13, .slice p13 n13 c13, .slice q13 m13 d13] 29) none
        have hb := heap_alloc_new w1 (.cells #[.bool g12, .slice p12 n12 c12, .slice q12 m12 d12, .bool g13, .slice p13 n13 c13, .slice q13 m13 d13] 29)
        obtain ⟨⟨s0, s1, s2, s3, s4, s5⟩, _⟩ := ivbox_facts hb
        clear hb
        replace hA := hA.keep hg; replace hB := hB.keep hg; replace aP := aP.keep hg; replace aQ := aQ.keep hg; replace x0 := hg.cell x0 (by simp); replace x1 := hg.cell x1 (by simp); replace x2 := hg.cell x2 (by simp); replace x3 := hg.cell x3 (by simp); replace x4 := hg.cell x4 (by simp); replace x5 := hg.cell x5 (by simp); replace hW := grown_trans hW hg
        clear hg
        go_wp2_with fail
        generalize w1.alloc (.cells #[.bool g12, .slice p12 n12 c12, .slice q12 m12 d12, .bool g13, .slice p13 n13 c13, .slice q13 m13 d13] 29) = wb1 at *
        generalize w1.heap.size = K1 at *
        refine (rIvRound_v 8 hA hB b (by omega) (by omega) (by omega) (by omega) (by omega) (by omega)).mono ?_
        rintro e w2 ⟨g14, g15, p14, q14, p15, q15, n14, c14, m14, d14, n15, c15, m15, d15, rfl, bP, bQ, ⟨hn14, hm14⟩, ⟨hn15, hm15⟩, hg⟩
        replace hA := hA.keep hg; replace hB := hB.keep hg; replace aP := aP.keep hg; replace aQ := aQ.keep hg; replace x0 := hg.cell x0 (by simp); replace x1 := hg.cell x1 (by simp); replace x2 := hg.cell x2 (by simp); replace x3 := hg.cell x3 (by simp); replace x4 := hg.cell x4 (by simp); replace x5 := hg.cell x5 (by simp); replace s0 := hg.cell s0 (by simp); replace s1 := hg.cell s1 (by simp); replace s2 := hg.cell s2 (by simp); replace s3 := hg.cell s3 (by simp); replace s4 := hg.cell s4 (by simp); replace s5 := hg.cell s5 (by simp); replace hW := grown_trans hW hg
        clear hg
        have hg := World.grownBy_alloc w2 (.cells #[.bool g14, .slice p14 n14 c14, .slice q14 m14 d14, .bool g15, .slice p15 n15 c15, .slice q15 m15 d15] 29) none
        have hb := heap_alloc_new w2 (.cells #[.bool g14, .slice p14 n14 c14, .slice q14 m14 d14, .bool g15, .slice p15 n15 c15, .slice q15 m15 d15] 29)
        obtain ⟨⟨t0, t1, t2, t3, t4, t5⟩, _⟩ := ivbox_facts hb
        clear hb
        replace hA := hA.keep hg; replace hB := hB.keep hg; replace aP := aP.keep hg; replace aQ := aQ.keep hg; replace bP := bP.keep hg; replace bQ := bQ.keep hg; replace x0 := hg.cell x0 (by simp); replace x1 := hg.cell x1 (by simp); replace x2 := hg.cell x2 (by simp); replace x3 := hg.cell x3 (by simp); replace x4 := hg.cell x4 (by simp); replace x5 := hg.cell x5 (by simp); replace s0 := hg.cell s0 (by simp); replace s1 := hg.cell s1 (by simp); replace s2 := hg.cell s2 (by simp); replace s3 := hg.cell s3 (by simp); replace s4 := hg.cell s4 (by simp); replace s5 := hg.cell s5 (by simp); replace hW := grown_trans hW hg
        clear hg
        go_wp2_with fail
        generalize w2.alloc (.cells #[.bool g14, .slice p14 n14 c14, .slice q14 m14 d14, .bool g15, .slice p15 n15 c15, .slice q15 m15 d15] 29) = wb2 at *
        generalize w2.heap.size = K2 at *
        refine (ivSqrt_v 8 (HT.out.keep hW) hA hB b (by omega) HB0.out (by omega) (by omega) (by omega) (by omega) (by omega)).mono ?_
        rintro e w3 ⟨R1, S1, T1, i1, i2, i3, g16, g17, p16, q16, p17, q17, n16, c16, m16, d16, n17, c17, m17, d17, rfl, cP, cQ, ⟨hn16, hm16⟩, ⟨hn17, hm17⟩, hg⟩
        replace i1 := hid i1; replace i2 := hid i2; replace i3 := hid i3
        replace hA := hA.keep hg; replace hB := hB.keep hg; replace aP := aP.keep hg; replace aQ := aQ.keep hg; replace bP := bP.keep hg; replace bQ := bQ.keep hg; replace x0 := hg.cell x0 (by simp); replace x1 := hg.cell x1 (by simp); replace x2 := hg.cell x2 (by simp); replace x3 := hg.cell x3 (by simp); replace x4 := hg.cell x4 (by simp); replace x5 := hg.cell x5 (by simp); replace s0 := hg.cell s0 (by simp); replace s1 := hg.cell s1 (by simp); replace s2 := hg.cell s2 (by simp); replace s3 := hg.cell s3 (by simp); replace s4 := hg.cell s4 (by simp); replace s5 := hg.cell s5 (by simp); replace t0 := hg.cell t0 (by simp); replace t1 := hg.cell t1 (by simp); replace t2 := hg.cell t2 (by simp); replace t3 := hg.cell t3 (by simp); replace t4 := hg.cell t4 (by simp); replace t5 := hg.cell t5 (by simp); replace hW := grown_trans hW hg
        clear hg
        have hg := World.grownBy_alloc w3 (.cells #[.bool g16, .slice p16 n16 c16, .slice q16 m16 d16, .bool g17, .slice p17 n17 c17, .slice q17 m17 d17] 29) none
        have hb := heap_alloc_new w3 (.cells #[.bool g16, .slice p16 n16 c16, .slice q16 m16 d16, .bool g17, .slice p17 n17 c17, .slice q17 m17 d17] 29)
        obtain ⟨⟨u0, u1, u2, u3, u4, u5⟩, _⟩ := ivbox_facts hb
        clear hb
        replace hA := hA.keep hg; replace hB := hB.keep hg; replace aP := aP.keep hg; replace aQ := aQ.keep hg; replace bP := bP.keep hg; replace bQ := bQ.keep hg; replace cP := cP.keep hg; replace cQ := cQ.keep hg; replace x0 := hg.cell x0 (by simp); replace x1 := hg.cell x1 (by simp); replace x2 := hg.cell x2 (by simp); replace x3 := hg.cell x3 (by simp); replace x4 := hg.cell x4 (by simp); replace x5 := hg.cell x5 (by simp); replace s0 := hg.cell s0 (by simp); replace s1 := hg.cell s1 (by simp); replace s2 := hg.cell s2 (by simp); replace s3 := hg.cell s3 (by simp); replace s4 := hg.cell s4 (by simp); replace s5 := hg.cell s5 (by simp); replace t0 := hg.cell t0 (by simp); replace t1 := hg.cell t1 (by simp); replace t2 := hg.cell t2 (by simp); replace t3 := hg.cell t3 (by simp); replace t4 := hg.cell t4 (by simp); replace t5 := hg.cell t5 (by simp); replace hW := grown_trans hW hg
        clear hg
        go_wp2_with fail
        generalize w3.alloc (.cells #[.bool g16, .slice p16 n16 c16, .slice q16 m16 d16, .bool g17, .slice p17 n17 c17, .slice q17 m17 d17] 29) = wb3 at *
        generalize w3.heap.size = K3 at *
        refine (rSqrt_v 8 hA hB b (by omega) HB0.out (by omega) (by omega) (by omega) (by omega) (by omega)).mono ?_
        rintro e w4 ⟨R2, S2, T2, j1, j2, j3, g18, g19, p18, q18, p19, q19, n18, c18, m18, d18, n19, c19, m19, d19, rfl, dP, dQ, ⟨hn18, hm18⟩, ⟨hn19, hm19⟩, hg⟩
        replace j1 := hid j1; replace j2 := hid j2; replace j3 := hid j3
        replace hA := hA.keep hg; replace hB := hB.keep hg; replace aP := aP.keep hg; replace aQ := aQ.keep hg; replace bP := bP.keep hg; replace bQ := bQ.keep hg; replace cP := cP.keep hg; replace cQ := cQ.keep hg; replace x0 := hg.cell x0 (by simp); replace x1 := hg.cell x1 (by simp); replace x2 := hg.cell x2 (by simp); replace x3 := hg.cell x3 (by simp); replace x4 := hg.cell x4 (by simp); replace x5 := hg.cell x5 (by simp); replace s0 := hg.cell s0 (by simp); replace s1 := hg.cell s1 (by simp); replace s2 := hg.cell s2 (by simp); replace s3 := hg.cell s3 (by simp); replace s4 := hg.cell s4 (by simp); replace s5 := hg.cell s5 (by simp); replace t0 := hg.cell t0 (by simp); replace t1 := hg.cell t1 (by simp); replace t2 := hg.cell t2 (by simp); replace t3 := hg.cell t3 (by simp); replace t4 := hg.cell t4 (by simp); replace t5 := hg.cell t5 (by simp); replace u0 := hg.cell u0 (by simp); replace u1 := hg.cell u1 (by simp); replace u2 := hg.cell u2 (by simp); replace u3 := hg.cell u3 (by simp); replace u4 := hg.cell u4 (by simp); replace u5 := hg.cell u5 (by simp); replace hW := grown_trans hW hg
        clear hg
        have hg := World.grownBy_alloc w4 (.cells #[.bool g18, .slice p18 n18 c18, .slice q18 m18 d18, .bool g19, .slice p19 n19 c19, .slice q19 m19 d19] 29) none
        have hb := heap_alloc_new w4 (.cells #[.bool g18, .slice p18 n18 c18, .slice q18 m18 d18, .bool g19, .slice p19 n19 c19, .slice q19 m19 d19] 29)
        obtain ⟨⟨v0, v1, v2, v3, v4, v5⟩, _⟩ := ivbox_facts hb
        clear hb
        replace hA := hA.keep hg; replace hB := hB.keep hg; replace aP := aP.keep hg; replace aQ := aQ.keep hg; replace bP := bP.keep hg; replace bQ := bQ.keep hg; replace cP := cP.keep hg; replace cQ := cQ.keep hg; replace dP := dP.keep hg; replace dQ := dQ.keep hg; replace x0 := hg.cell x0 (by simp); replace x1 := hg.cell x1 (by simp); replace x2 := hg.cell x2 (by simp); replace x3 := hg.cell x3 (by simp); replace x4 := hg.cell x4 (by simp); replace x5 := hg.cell x5 (by simp); replace s0 := hg.cell s0 (by simp); replace s1 := hg.cell s1 (by simp); replace s2 := hg.cell s2 (by simp); replace s3 := hg.cell s3 (by simp); replace s4 := hg.cell s4 (by simp); replace s5 := hg.cell s5 (by simp); replace t0 := hg.cell t0 (by simp); replace t1 := hg.cell t1 (by simp); replace t2 := hg.cell t2 (by simp); replace t3 := hg.cell t3 (by simp); replace t4 := hg.cell t4 (by simp); replace t5 := hg.cell t5 (by simp); replace u0 := hg.cell u0 (by simp); replace u1 := hg.cell u1 (by simp); replace u2 := hg.cell u2 (by simp); replace u3 := hg.cell u3 (by simp); replace u4 := hg.cell u4 (by simp); replace u5 := hg.cell u5 (by simp); replace hW := grown_trans hW hg
        clear hg
        go_wp2_with fail
        generalize w4.alloc (.cells #[.bool g18, .slice p18 n18 c18, .slice q18 m18 d18, .bool g19, .slice p19 n19 c19, .slice q19 m19 d19] 29) = wb4 at *
        generalize w4.heap.size = K4 at *
        obtain ⟨er, et⟩ := sqrt_agree HB0.out i1.out i2.out i3.out j1.out j2.out j3.out
        subst er
        subst et
        clear i1 i2 i3 j1 j2 j3
        refine (same4_any aP.nm aP.dn aQ.nm aQ.dn bP.nm bP.dn bQ.nm bQ.dn).mono ?_
        rintro e wa6 ⟨rfl, hg⟩
        replace hA := hA.keep hg; replace hB := hB.keep hg; replace aP := aP.keep hg; replace aQ := aQ.keep hg; replace bP := bP.keep hg; replace bQ := bQ.keep hg; replace cP := cP.keep hg; replace cQ := cQ.keep hg; replace dP := dP.keep hg; replace dQ := dQ.keep hg; replace x0 := hg.cell x0 (by simp); replace x1 := hg.cell x1 (by simp); replace x2 := hg.cell x2 (by simp); replace x3 := hg.cell x3 (by simp); replace x4 := hg.cell x4 (by simp); replace x5 := hg.cell x5 (by simp); replace s0 := hg.cell s0 (by simp); replace s1 := hg.cell s1 (by simp); replace s2 := hg.cell s2 (by simp); replace s3 := hg.cell s3 (by simp); replace s4 := hg.cell s4 (by simp); replace s5 := hg.cell s5 (by simp); replace t0 := hg.cell t0 (by simp); replace t1 := hg.cell t1 (by simp); replace t2 := hg.cell t2 (by simp); replace t3 := hg.cell t3 (by simp); replace t4 := hg.cell t4 (by simp); replace t5 := hg.cell t5 (by simp); replace u0 := hg.cell u0 (by simp); replace u1 := hg.cell u1 (by simp); replace u2 := hg.cell u2 (by simp); replace u3 := hg.cell u3 (by simp); replace u4 := hg.cell u4 (by simp); replace u5 := hg.cell u5 (by simp); replace v0 := hg.cell v0 (by simp); replace v1 := hg.cell v1 (by simp); replace v2 := hg.cell v2 (by simp); replace v3 := hg.cell v3 (by simp); replace v4 := hg.cell v4 (by simp); replace v5 := hg.cell v5 (by simp); replace hW := grown_trans hW hg
        clear hg
        go_wp2_with fail
        refine (same4_any cP.nm cP.dn cQ.nm cQ.dn dP.nm dP.dn dQ.nm dQ.dn).mono ?_
        rintro e wc6 ⟨rfl, hg⟩
        replace hA := hA.keep hg; replace hB := hB.keep hg; replace aP := aP.keep hg; replace aQ := aQ.keep hg; replace bP := bP.keep hg; replace bQ := bQ.keep hg; replace cP := cP.keep hg; replace cQ := cQ.keep hg; replace dP := dP.keep hg; replace dQ := dQ.keep hg; replace x0 := hg.cell x0 (by simp); replace x1 := hg.cell x1 (by simp); replace x2 := hg.cell x2 (by simp); replace x3 := hg.cell x3 (by simp); replace x4 := hg.cell x4 (by simp); replace x5 := hg.cell x5 (by simp); replace s0 := hg.cell s0 (by simp); replace s1 := hg.cell s1 (by simp); replace s2 := hg.cell s2 (by simp); replace s3 := hg.cell s3 (by simp); replace s4 := hg.cell s4 (by simp); replace s5 := hg.cell s5 (by simp); replace t0 := hg.cell t0 (by simp); replace t1 := hg.cell t1 (by simp); replace t2 := hg.cell t2 (by simp); replace t3 := hg.cell t3 (by simp); replace t4 := hg.cell t4 (by simp); replace t5 := hg.cell t5 (by simp); replace u0 := hg.cell u0 (by simp); replace u1 := hg.cell u1 (by simp); replace u2 := hg.cell u2 (by simp); replace u3 := hg.cell u3 (by simp); replace u4 := hg.cell u4 (by simp); replace u5 := hg.cell u5 (by simp); replace v0 := hg.cell v0 (by simp); replace v1 := hg.cell v1 (by simp); replace v2 := hg.cell v2 (by simp); replace v3 := hg.cell v3 (by simp); replace v4 := hg.cell v4 (by simp); replace v5 := hg.cell v5 (by simp); replace hW := grown_trans hW hg
        clear hg
        go_wp2_with fail
        refine (alive4 (HT.out.keep hW)).mono ?_
        rintro e w9 ⟨rfl, hg⟩
        replace hW := grown_trans hW hg
        go_wp2_with fail
        go_ret
        exact ⟨rfl, hW⟩
  · rw [decide_eq_false hok] at HS
    replace HS := hid HS
    go_enter Tryz.func3, Tryz.ntmps3
    go_wp2_with fail
    refine HS.out.mono ?_
    rintro e w0 ⟨rfl, hg⟩
    replace hW := grown_trans hW3 hg
    go_wp2_with fail
    refine (alive4 (HT.out.keep hW)).mono ?_
    rintro e w1 ⟨rfl, hg⟩
    go_wp2_with fail
    go_ret
    exact ⟨rfl, grown_trans hW hg⟩

theorem intervalRounds_door (os : Os) (args : Array Value) : laidMetH Tryz.prog [("math/bits.deBruijn64tab", Rows.laid_math_bits_deBruijn64tab)] ((World.doorLaid Tryz.prog 400 os).forCall (fun _ _ => 0) ⟨#[], args, []⟩).memory :=
  laidMetH_of_parts3 (fuel := 8) (laidMet_of_run' 8 (by kernel_rfl) (by kernel_rfl)) (by kernel_rfl) (by kernel_rfl)

set_option maxRecDepth 100000 in
theorem intervalRounds_lifted (os : Os) (started : os.Started) (H : Type) (enc : TypeId × Value → H) :
    ReturnsInHanded {} Tryz.checked os 3 .any (fun w args => (Rows.intervalRoundsSpec.pre enc Tryz.prog Tryz.f3 [] false w args ∧ laidMetH Tryz.prog [("math/bits.deBruijn64tab", Rows.laid_math_bits_deBruijn64tab)] w) ∧ sizedMet enc Tryz.prog Tryz.f3 (OpenSpec.ofChange Rows.intervalRoundsSpec) false w args)
      (Rows.intervalRoundsSpec.post enc Tryz.prog Tryz.f3 false true false false) := by
  refine returnsInHanded_of_change_and (C := Tryz.checked) (X := fun w _ => laidMetH Tryz.prog [("math/bits.deBruijn64tab", Rows.laid_math_bits_deBruijn64tab)] w) (fun _ _ _ hh h => h.of_heap hh) own1 started (by kernel_rfl) Tryz.func3
    (ChangeSpec.witness_shaped (enc := enc) (C := Tryz.checked) (os := os) (X := fun w _ => laidMetH Tryz.prog [("math/bits.deBruijn64tab", Rows.laid_math_bits_deBruijn64tab)] w) false (World.doorLaid Tryz.prog 400 os) #[.agg #[.bool false, .slice none 0 0, .slice none 0 0, .bool false, .slice none 0 0, .slice none 0 0], .int .i64 0] 8 rfl (World.shaped_of_RefB (by kernel_rfl) (by kernel_rfl)) (by kernel_rfl) (by kernel_rfl) (by kernel_rfl) (intervalRounds_door os _)) ?_
  intro W base args ds gs before hval0 hW _ _ hL _
  have hval : ∀ (j : Nat) t v, Tryz.f3.params[j]? = some t → args[j]? = some v → Value.okWide Tryz.prog W .any base t v := hval0
  have hW' := hW
  obtain ⟨p, q, hA0, hV, rfl, hfz, hnd⟩ := hW
  have hA : DataW.TrodAll enc Tryz.prog W 0 (fun _ => true) true Tryz.f3.params.toList args.toList ds p := hA0
  rw [Tryz.params3] at hA hval
  obtain ⟨v0, v1, d0, d1, p0, p1, rfl, rfl, rfl, h0, h1⟩ := trodAll_two hA
  obtain ⟨rfl, rfl⟩ := trodVars_none hV
  have hlt : ∀ x ∈ p0 ++ (p1), x.block < W.heap.size := fun x hx => hW'.lt x (by simpa using hx)
  obtain ⟨ga0, pa0, na0, ca0, xa0, qa0, ma0, da0, ya0, gb0, pb0, nb0, cb0, xb0, qb0, mb0, db0, yb0, rfl, r10, x10, s10, y10, r20, x20, s20, y20⟩ := open_Iv (hval 0 29 v0 rfl rfl) h0
  obtain ⟨z1, rfl, rfl, rfl, wz1⟩ := open_int Tryz.underlying3 (hval 1 3 v1 rfl rfl) h1
  refine (intervalRounds_walk ga0 gb0 pa0 qa0 pb0 qb0 na0 ca0 ma0 da0 nb0 cb0 mb0 db0 _ _ z1 W (tb_of_laid hL) (hid fun h1 h2 => have ⟨r, _, k1, k2⟩ := right3_full (tb_of_laid hL) ga0 r10 x10 s10 y10 (by omega) (by omega); ⟨r, k1, k2⟩) (hid fun h1 h2 => have ⟨r, _, k1, k2⟩ := right3_full (tb_of_laid hL) gb0 r20 x20 s20 y20 (by omega) (by omega); ⟨r, k1, k2⟩)).mono fun e W' ⟨he, hg⟩ => ?_
  subst he
  have hB := grown_below hg
  exact ⟨_, rfl, _, _, _, [], _, [], hW', trodAll_mk1 (shut_bool Tryz.underlying4 true),
    trodAll_mk2 (Below.trod laidOut1 readIv rowIv h0 hB fun x hx => hlt x (by simp [hx])) (shut_int Tryz.underlying3 wz1), rfl, hB.frame _, fun h => by cases h⟩

theorem intervalRounds_holds : Rows.IntervalRoundsSaid :=
  OpenClaim.holds_of_wide 3 Tryz.f3 rfl rfl rfl rfl rfl rfl rfl ⟨rfl, rfl, rfl, rfl, rfl⟩ rfl rfl rfl rfl rfl (by kernel_rfl) Tryz.func3 (by kernel_rfl)
    (of_decide_eq_true (by kernel_rfl)) (by unfold Func.isWrapper; first | (rw [if_pos (by decide +kernel)]; kernel_rfl) | (rw [if_neg (by decide +kernel)]; exact ⟨rfl, rfl⟩))
    (fun os started H enc _ => intervalRounds_lifted os started H enc)

theorem intervalRounds_card : Rows.IntervalRoundsCardSaid :=
  Claim7.holds_tied_plain_at .later [] [.data] true _ false
    intervalRounds_holds (fun _ h => by cases h) (by kernel_rfl) (fun _ h => by cases h) intervalRounds_row_tie rfl ⟨rfl, rfl⟩ (by kernel_rfl) rfl
    (fun f fn hf hfn => by
      obtain rfl : f = 3 := Option.some.inj ((show Tryz.prog.funcNamed "geoprover/geoproverlaw04.IntervalRounds" = some 3 by kernel_rfl).symm.trans hf) |>.symm
      obtain rfl : fn = Tryz.f3 := (Option.some.inj (Tryz.func3.symm.trans hfn)).symm
      exact ⟨by kernel_rfl, fun j t ht => by
        rw [Tryz.params3] at ht
        have hm : t ∈ [29, 3] := by simpa using Array.mem_of_getElem? ht
        have hall : ([29, 3].all fun u => !Tryz.prog.wantsStandIn u) = true := by kernel_rfl
        exact (show Tryz.prog.wantsStandIn t = false by simpa using List.all_eq_true.1 hall t hm)⟩)
    (by kernel_rfl)

end Go.Proofs.YtcjoecmkkpmjmaaGreatDoor
