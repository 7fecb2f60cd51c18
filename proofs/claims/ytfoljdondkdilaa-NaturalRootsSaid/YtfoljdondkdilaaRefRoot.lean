/-
  Contract of the reference's Sqrt.
-/
import Derived.Test.YtfoljdondkdilaaShift
set_option linter.unusedVariables false
set_option linter.unusedSimpArgs false
namespace Go.Proofs.Ytfoljdondkdilaa
open Go.RowKit Nm

theorem refBits_n {w : World} {p : Option Addr} {n c N : Nat} (hA : IsN w p n c N) (hn : n ≤ 1000000) :
    Calls Try.prog 20 #[.slice p n c] w fun e w' => ∃ b : Nat, e = .returned (.int .i64 b) ∧ Hid (IsBits N b) ∧ w.grownBy w' none := by
  obtain ⟨L, h1, h2, rfl⟩ := hA
  exact refBits_any p n c L w h1 h2 hn

set_option maxHeartbeats 1000000 in
theorem refSqrt_n {w : World} {p : Option Addr} {n c N : Nat} (hA : IsN w p n c N) (hn : n ≤ 10000) :
    Calls Try.prog 32 #[.slice p n c] w fun e w' => ∃ (R : Nat) (p1 : Option Addr) (n1 c1 : Nat) (p2 : Option Addr) (n2 c2 : Nat), e = .returned (.tuple #[.slice p1 n1 c1, .slice p2 n2 c2]) ∧ R * R ≤ N ∧ N < (R + 1) * (R + 1) ∧
      IsC w' p1 n1 c1 R ∧ IsC w' p2 n2 c2 (N - R * R) ∧ w.grownBy w' none := by
  have HNL := hid hA.lt
  have HB := hid (refBits_n hA (by omega))
  go_enter Try.func32, Try.ntmps32
  go_wp2_with fail
  refine HB.out.mono ?_
  rintro e w1 ⟨b, rfl, HBB, hg1⟩
  replace hA := hA.keep hg1
  obtain ⟨half, hh⟩ : ∃ half, half = (b - 1) / 2 := ⟨_, rfl⟩
  have hb16 : b ≤ 16 * n ∧ N < 2 ^ (half + 1) * 2 ^ (half + 1) := by
    rcases HBB.out with ⟨h1, h2⟩ | ⟨h1, h2, h3⟩
    · refine ⟨by omega, ?_⟩
      rw [h1]; exact Nat.mul_pos (Nat.pow_pos (by omega)) (Nat.pow_pos (by omega))
    · constructor
      · have h4 := Nat.lt_of_le_of_lt h2 HNL.out
        rw [show (65536 : Nat) = 2 ^ 16 from rfl, ← Nat.pow_mul] at h4
        have := (Nat.pow_lt_pow_iff_right (by omega : 1 < 2)).1 h4
        omega
      · rw [← Nat.pow_add]
        exact Nat.lt_of_lt_of_le h3 (Nat.pow_le_pow_right (by omega) (by omega))
  have hd : ((b : Int) - 1).tdiv 2 = (half : Int) := by
    rcases Nat.eq_zero_or_pos b with h0 | h0
    · subst h0; rw [hh]; rfl
    · rw [Int.tdiv_eq_ediv_of_nonneg (by omega)]; omega
  have hwr : IntKind.i64.wrap (half : Int) = (half : Int) := IntWalk.i64_in _ (by omega)
  have hbb : (b : Int) ≤ 160000 := by omega
  have hhb : half ≤ 80000 := by omega
  have HS := hid hb16.2
  clear hb16 hh HB HBB
  go_wp2_with fail
  go_loopw [4, 5] (fun s4 s5 wr => ∃ (k R : Nat) (pr : Option Addr) (nr cr : Nat), k ≤ half + 1 ∧ s5 = .int .i64 ((k : Int) - 1) ∧ s4 = .slice pr nr cr ∧ IsC wr pr nr cr R ∧ w1.grownBy wr none ∧ Hid (R * R ≤ N ∧ N < (R + 2 ^ k) * (R + 2 ^ k))) (fun _ s5 _ => (intOf s5 + 1).toNat)
  case atStart => exact ⟨half + 1, 0, none, 0, 0, Nat.le_refl _, by congr 1; omega, rfl, IsC.nil _, grown_refl _ _, hid ⟨by simp, by rw [Nat.zero_add]; exact HS.out⟩⟩
  case round =>
    obtain ⟨k, R, pr, nr, cr, hk, rfl, rfl, hR, hgr, HC⟩ := hrel
    have hRN : R ≤ N := by
      rcases Nat.eq_zero_or_pos R with h0 | h0
      · omega
      · exact Nat.le_trans (Nat.le_mul_of_pos_right R h0) HC.out.1
    have hnr : nr ≤ n := hR.len_le (Nat.lt_of_le_of_lt hRN HNL.out)
    have hA' := hA.keep hgr
    by_cases h0 : 0 < k
    · obtain ⟨i, rfl⟩ : ∃ i, k = i + 1 := ⟨k - 1, by omega⟩
      have HRN := hid hRN
      clear hRN
      go_wp2_with fail
      refine (refOf_c 1 (by decide) _).mono ?_
      rintro e w2 ⟨p2, n2, c2, rfl, hO, hn2, hg2⟩
      have HSH := hid (refShift_up i hO.isN (by omega) (by omega))
      go_wp2_with fail
      refine HSH.out.mono ?_
      rintro e w3 ⟨p3, n3, c3, rfl, hS, hg3⟩
      rw [Nat.one_mul] at hS
      have hn3 : n3 ≤ i + 1 := hS.len_le (Nat.lt_of_lt_of_le (Nat.pow_lt_pow_right (by omega) (Nat.lt_succ_self i)) (Nat.pow_le_pow_left (by omega) _))
      have hg23 := grown_trans hg2 hg3
      replace hR := hR.keep hg23
      replace hA' := hA'.keep hg23
      replace hgr := grown_trans hgr hg23
      clear HSH hg2 hg3 hg23
      go_wp2_with fail
      refine (refAdd_n hR.isN hS.isN (by omega) (by omega)).mono ?_
      rintro e w4 ⟨p4, n4, c4, rfl, hX, hn4, hg4⟩
      replace hR := hR.keep hg4
      replace hA' := hA'.keep hg4
      replace hgr := grown_trans hgr hg4
      obtain ⟨X, hXe⟩ : ∃ X, X = R + 2 ^ i := ⟨_, rfl⟩
      rw [← hXe] at hX
      have hup : (R + 2 ^ (i + 1)) * (R + 2 ^ (i + 1)) = (X + 2 ^ i) * (X + 2 ^ i) := by rw [hXe, Nat.pow_succ]; congr 1 <;> omega
      have HUP := hid (And.intro hXe hup)
      clear hup hXe hg4
      go_wp2_with fail
      refine (refMul_n hX.isN hX.isN (by omega) (by omega)).mono ?_
      rintro e w5 ⟨p5, n5, c5, rfl, hM, hn5, hg5⟩
      replace hR := hR.keep hg5
      replace hA' := hA'.keep hg5
      replace hX := hX.keep hg5
      replace hgr := grown_trans hgr hg5
      go_wp2_with fail
      refine (refCmp_n hM.isN hA').mono ?_
      by_cases hle : X * X ≤ N
      · have hc : cmpI ((X * X : Nat) : Int) (N : Int) = -1 ∨ cmpI ((X * X : Nat) : Int) (N : Int) = 0 := by
          rcases Nat.lt_or_ge (X * X) N with h | h
          · exact .inl (cmpI_lt h)
          · right; rw [show X * X = N by omega, cmpI_eq]
        have HLE : Hid (X * X ≤ N ∧ N < (X + 2 ^ i) * (X + 2 ^ i)) := hid ⟨hle, by rw [← HUP.out.2]; exact HC.out.2⟩
        rcases hc with hc | hc <;> rw [hc] <;> clear hc hle
        all_goals
          rintro e w6 ⟨rfl, rfl⟩
          go_wp2_with fail
          exact ⟨⟨i, X, p4, n4, c4, by omega, by congr 1, rfl, hX, hgr, HLE⟩, by simp [intOf]⟩
      · have hc : cmpI ((X * X : Nat) : Int) (N : Int) = 1 := cmpI_gt (by omega)
        have HLE : Hid (R * R ≤ N ∧ N < (R + 2 ^ i) * (R + 2 ^ i)) := hid ⟨HC.out.1, by rw [← HUP.out.1]; omega⟩
        rw [hc]
        clear hc hle
        rintro e w6 ⟨rfl, rfl⟩
        go_wp2_with fail
        exact ⟨⟨i, R, pr, nr, cr, by omega, by congr 1, rfl, hR, hgr, HLE⟩, by simp [intOf]⟩
    · obtain rfl : k = 0 := by omega
      have hfin := HC.out
      rw [Nat.pow_zero] at hfin
      have HF := hid hfin
      clear hfin
      go_wp2_with fail
      refine (refMul_n hR.isN hR.isN (by omega) (by omega)).mono ?_
      rintro e w2 ⟨p2, n2, c2, rfl, hM, hn2, hg2⟩
      go_wp2_with fail
      refine (refSub_n (hA'.keep hg2) hM.isN (by omega) HF.out.1).mono ?_
      rintro e w3 ⟨p3, n3, c3, rfl, hS, hn3, hg3⟩
      go_wp2_with fail
      go_ret2
      exact ⟨R, pr, nr, cr, p3, n3, c3, rfl, HF.out.1, HF.out.2, hR.keep (grown_trans hg2 hg3), hS, grown_trans hg1 (grown_trans hgr (grown_trans hg2 hg3))⟩
end Go.Proofs.Ytfoljdondkdilaa
